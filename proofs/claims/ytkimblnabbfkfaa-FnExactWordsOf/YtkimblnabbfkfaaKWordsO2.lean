/-
  Texts put together: StrsR.
-/
import Derived.Test.YtkimblnabbfkfaaKWordsO1
namespace Go.Proofs.Ytkimblnabbfkfaa
open Go.RowKit
set_option linter.unusedVariables false

set_option maxRecDepth 100000 in
set_option maxHeartbeats 800000 in
theorem eqStringS_same (a b : Option Addr) (ca cb : Nat) (ps : List Bs) (w : World) (ha : ReadsS w a ps) (hb : ReadsS w b ps) (hl : ps.length ≤ 1048576) :
    Calls Try.prog 12 #[.slice a ps.length ca, .slice b ps.length cb] w fun e w' => e = .returned (.bool true) ∧ ∃ n, w' = w.drewN n := by
  have HA := hide ha
  have HB := hide hb
  clear ha hb
  have hne : ((ps.length : Int) != (ps.length : Int)) = false := by simp
  go_enter Try.func12, Try.ntmps12
  go_wp2
  go_loopw [5] (fun i wr => ∃ k : Nat, k ≤ ps.length ∧ i = .int .i64 k ∧ ∃ n, wr = w.drewN n) (fun i _ => ps.length - (intOf i).toNat)
  case atStart => exact ⟨0, Nat.zero_le _, rfl, 0, rfl⟩
  case round =>
    obtain ⟨k, hk, rfl, n, rfl⟩ := hrel
    by_cases hlt : k < ps.length
    · obtain ⟨b1, o1, p, rfl, hb1, hp, hc1⟩ := HA.out.at hlt
      obtain ⟨b2, o2, p2, rfl, hb2, hp2, hc2⟩ := HB.out.at hlt
      rw [hp] at hp2
      obtain rfl := Option.some.inj hp2
      clear hp2 hp
      go_wp2
      go_quiet (fail)
      go_wp2
      go_roundw
      case rel => exact ⟨k + 1, by omega, by go_num, _, rfl⟩
      case measure => simp [intOf]; omega
    · go_wp2
      go_ret
      exact ⟨rfl, n, rfl⟩

theorem eqStringS_b (a b : Option Addr) (ca cb : Nat) (ps : List Bs) (w : World) (ha : ReadsS w a ps) (hb : ReadsS w b ps) (hl : ps.length ≤ 1048576) :
    Calls Try.prog 12 #[.slice a ps.length ca, .slice b ps.length cb] w fun e w' => e = .returned (.bool true) ∧ Below w.heap.size w w' := by
  refine (eqStringS_same a b ca cb ps w ha hb hl).mono ?_
  rintro e w' ⟨rfl, m, rfl⟩
  exact ⟨rfl, ⟨rfl, rfl, rfl, Nat.le_refl _, fun _ _ => rfl⟩⟩

theorem eqNamesResult_same (q : Int) (a b : Option Addr) (ca cb : Nat) (ps : List Bs) (w : World) (ha : ReadsS w a ps) (hb : ReadsS w b ps) (hl : ps.length ≤ 1048576) :
    Calls Try.prog 6 #[.agg #[.int .i64 q, .slice a ps.length ca], .agg #[.int .i64 q, .slice b ps.length cb]] w fun e w' => e = .returned (.bool true) ∧ Below w.heap.size w w' := by
  have HA := hide ha
  have HB := hide hb
  clear ha hb
  have B1 : Below w.heap.size w ((w.alloc (.cells #[.int .i64 q, .slice a ps.length ca] 24)).alloc (.cells #[.int .i64 q, .slice b ps.length cb] 24)) := ((Below.refl _ _).alloc (Nat.le_refl _) _).alloc (by simp) _
  have HBB := hide B1
  clear B1
  go_enter Try.func6, Try.ntmps6
  go_wp2_with fail
  refine (eqStringS_b a b ca cb ps _ (HA.out.below HBB.out) (HB.out.below HBB.out) hl).mono ?_
  rintro e w1 ⟨rfl, b1⟩
  have B2 := hide (below_next HBB.out b1)
  clear b1 HBB
  go_wp2_with fail
  go_ret
  exact ⟨rfl, B2.out⟩

def decF : Nat → Nat → Bs
  | 0, _ => []
  | f + 1, n => if n = 0 then [] else decF f (n / 10) ++ [(48 + n % 10).toUInt8]
def markT (k : Nat) : Bs := 109 :: decF 20 k
theorem decF_zero (f : Nat) : decF f 0 = [] := by cases f <;> simp [decF]
theorem decF_pos (f n : Nat) (h : 0 < n) : decF (f + 1) n = decF f (n / 10) ++ [(48 + n % 10).toUInt8] := by
  have : n ≠ 0 := by omega
  simp [decF, this]
theorem nums_one (d : Nat) (h : d < 256) : strOfNums [(d : Int)] = str [d.toUInt8] := by
  simp [strOfNums, str]

set_option maxRecDepth 100000 in
set_option maxHeartbeats 800000 in
theorem markText_any (k : Nat) (w : World) (h0 : 0 < k) (h1 : k ≤ 1099511627776) :
    Calls Try.prog 19 #[.int .i64 k] w fun e w' => e = .returned (.string (str (markT k))) ∧ Below w.heap.size w w' := by
  have h0' : ¬ (k : Int) ≤ 0 := by omega
  go_enter Try.func19, Try.ntmps19
  go_wp2_with fail
  go_loopw [0, 3] (fun q s wr => ∃ (n f : Nat) (acc : Bs), q = .int .i64 n ∧ s = .string (str acc) ∧ n < 10 ^ f ∧ n ≤ 1099511627776 ∧ acc.length ≤ 20 - f ∧ f ≤ 20 ∧ Hid (decF 20 k = decF f n ++ acc) ∧ Hid (Below w.heap.size w wr)) (fun q _ _ => (intOf q).toNat)
  case atStart => exact ⟨k, 20, [], rfl, rfl, by omega, h1, by simp, by omega, hide (by simp), hide (Below.refl _ _)⟩
  case round =>
    obtain ⟨n, f, acc, rfl, rfl, hf, hn, hal, hf20, HD, HB⟩ := hrel
    by_cases hpos : 0 < n
    · have hpos' : (0 : Int) < (n : Int) := by omega
      cases f with
      | zero => simp at hf; omega
      | succ g =>
        have HE := hide (decF_pos g n hpos)
        have hg : n / 10 < 10 ^ g := by rw [Nat.pow_succ] at hf; omega
        have HG := hide hg
        clear hf hg
        have hd0 : (0 : Int) ≤ (n : Int) % 10 := by omega
        have hd1 : (n : Int) % 10 ≤ 9 := by omega
        have HC := hide (show strOfNums [48 + (n : Int) % 10] = str [(48 + n % 10).toUInt8] by rw [← nums_one _ (by omega)]; congr 1)
        have hconv := run_convert_bytes_arg (P := Try.prog) (w := wr.alloc (.cells #[.int .u8 (48 + (n : Int) % 10)] 5)) 40 5 Try.underlying40 Try.underlying5 wr.heap.size 0 1 1 [48 + (n : Int) % 10] rfl (fun i hi => by rw [show i = 0 by omega]; simp) 9 Try.underlying9
        have hz : ¬ 9223372036854775807 < (str [(48 + n % 10).toUInt8]).size + (str acc).size := by rw [str_size, str_size]; simp; omega
        go_wp2_with fail
        go_roundw
        case rel => exact ⟨n / 10, g, (48 + n % 10).toUInt8 :: acc, by go_num, by rw [HC.out, str_append]; rfl, HG.out, by omega, by simp; omega, by omega, hide (by rw [HD.out, HE.out]; simp), hide (HB.out.alloc HB.out.size _)⟩
        case measure => simp [intOf]; omega
    · have hn0 : n = 0 := by omega
      subst hn0
      have HE := hide (show decF 20 k = acc by have := HD.out; rwa [decF_zero, List.nil_append] at this)
      have hz : ¬ 9223372036854775807 < 1 + (str acc).size := by rw [str_size]; omega
      have HM := hide (show (⟨#[109]⟩ : ByteArray) ++ str acc = str (markT k) by rw [show (⟨#[109]⟩ : ByteArray) = str [109] from rfl, str_append, markT, HE.out]; rfl)
      go_wp2_with fail
      go_ret
      exact ⟨ret_str HM.out, HB.out⟩

def marksT (k n : Nat) : List Bs := (List.range n).map fun i => markT (k + i)
theorem marksT_length (k n : Nat) : (marksT k n).length = n := by simp [marksT]
theorem OwnS.addr {B : Nat} {w : World} {a : Option Addr} {n c : Nat} {ps : List Bs} (h : OwnS B w (.slice a n c) ps) (hz : ps ≠ []) : ∃ g, a = some ⟨g, 0, none⟩ ∧ n = ps.length := by
  have h0 : 0 < ps.length := List.length_pos_iff.2 hz
  rcases h.2 with ⟨h', hh⟩ | ⟨g, cap, cur, h', hb, hh, hnc, hcm, hcs, htake⟩
  · omega
  · simp only [Value.slice.injEq] at h'
    exact ⟨g, h'.1, h'.2.1⟩
theorem OwnS.set {B : Nat} {w : World} {g c : Nat} {ps : List Bs} {j : Nat} {p : Bs} (h : OwnS B w (.slice (some ⟨g, 0, none⟩) ps.length c) ps) (hj : j < ps.length) :
    OwnS B (w.setCell ⟨g, j, none⟩ (.string (str p))) (.slice (some ⟨g, 0, none⟩) ps.length c) (ps.set j p) := by
  have hr := h.reads (by intro e; simp [e] at hj)
  obtain ⟨b, off, e, hb, hc⟩ := hr
  simp only [Option.some.injEq, Addr.mk.injEq, and_true] at e
  obtain ⟨rfl, rfl⟩ := e
  have hl : (ps.set j p).length = ps.length := by simp
  have key := own_back (ys := (ps.set j p).map vS) h ((SameShape.refl w).setCell g j (.string (str p))) (by simp) (fun i hi => ?_)
  · unfold OwnS
    rw [hl]
    exact key
  · have hci := hc i hi
    rw [Nat.zero_add] at hci
    by_cases e : i = j
    · subst e
      rw [cell_set_same hci]
      simp [hi, vS]
    · rw [cell_set_other (by simp), hci]
      simp [Ne.symm e, hi, vS, List.getD_eq_getElem?_getD]
theorem mix_step (k j : Nat) (ps : List Bs) (h : j < ps.length) : (marksT k j ++ ps.drop j).set j (markT (k + j)) = marksT k (j + 1) ++ ps.drop (j + 1) := by
  have e : ps.drop j = ps[j] :: ps.drop (j + 1) := (List.getElem_cons_drop h).symm
  rw [List.set_append_right _ _ (by rw [marksT_length]; exact Nat.le_refl _), marksT_length, Nat.sub_self, e, List.set_cons_zero]
  simp [marksT, List.range_succ]

set_option maxRecDepth 100000 in
set_option maxHeartbeats 1600000 in
theorem markStringS_any (B : Nat) (a : Option Addr) (cap : Nat) (ps : List Bs) (k : Nat) (w : World) (h : OwnS B w (.slice a ps.length cap) ps) (hk0 : 0 < k) (hk1 : k ≤ 1048576) (hl : ps.length ≤ 1048576) :
    Calls Try.prog 13 #[.slice a ps.length cap, .int .i64 k] w fun e w' => e = .returned (.int .i64 (k + ps.length)) ∧ OwnS B w' (.slice a ps.length cap) (marksT k ps.length) ∧ Kept (blkOf a) w w' := by
  have HH := hide h
  clear h
  go_enter Try.func13, Try.ntmps13
  go_wp2_with fail
  go_loopw [1, 5] (fun q i wr => ∃ j : Nat, j ≤ ps.length ∧ i = .int .i64 j ∧ q = .int .i64 (k + j) ∧ Hid (OwnS B wr (.slice a ps.length cap) (marksT k j ++ ps.drop j)) ∧ Hid (Kept (blkOf a) w wr)) (fun _ i _ => ps.length - (intOf i).toNat)
  case atStart => exact ⟨0, Nat.zero_le _, rfl, by simp, hide (by simpa [marksT] using HH.out), hide (Kept.refl _ _)⟩
  case round =>
    obtain ⟨j, hj, rfl, rfl, HO, HK⟩ := hrel
    by_cases hlt : j < ps.length
    · have hml : (marksT k j ++ ps.drop j).length = ps.length := by rw [List.length_append, marksT_length, List.length_drop]; omega
      have HM := hide (mix_step k j ps hlt)
      generalize hmx : marksT k j ++ ps.drop j = mx at *
      have hlt2 : j < mx.length := by omega
      obtain ⟨g, rfl, -⟩ := HO.out.addr (by intro e; simp [e] at hlt2)
      have HML := hide hml
      have HMX := hide hmx
      clear hml hmx
      go_wp2_with fail
      refine (markText_any (k + j) _ (by omega) (by omega)).mono ?_
      rintro e w1 ⟨rfl, hb1⟩
      have HO1 := hide (HO.out.below hb1)
      have HK1 := hide (HK.out.trans (Kept.of_below hb1))
      clear hb1
      obtain ⟨b, off, p, e, hb, hp, hck⟩ := HO1.out.reads.at hlt2
      simp only [Option.some.injEq, Addr.mk.injEq, and_true] at e
      obtain ⟨rfl, rfl⟩ := e
      rw [Nat.zero_add] at hck
      have HO2 := hide (show OwnS B w1 (.slice (some ⟨g, 0, none⟩) mx.length cap) mx by rw [HML.out]; exact HO1.out)
      have hfz : w1.frozen? ⟨g, j, none⟩ = false := World.ownsRow.frozenAt HO2.out _
      clear hp
      go_wp2_with fail
      go_roundw
      case rel => exact ⟨j + 1, by omega, by go_num, by go_num, hide (by have := HO2.out.set (p := markT (k + j)) hlt2; rw [HML.out, HM.out] at this; exact this), hide (HK1.out.setCell (p := ⟨g, j, none⟩) (fun _ => rfl) _)⟩
      case measure => simp [intOf]; omega
    · have hje : j = ps.length := by omega
      subst hje
      go_wp2_with fail
      go_ret
      exact ⟨rfl, by have := HO.out; simpa using this, HK.out⟩

set_option maxRecDepth 100000 in
set_option maxHeartbeats 1600000 in
theorem heldStringS_any (a : Option Addr) (cap n k : Nat) (w : World) (h : ReadsS w a (marksT k n)) (hk0 : 0 < k) (hk1 : k ≤ 1048576) (hl : n ≤ 1048576) :
    Calls Try.prog 14 #[.slice a n cap, .int .i64 k] w fun e w' => e = .returned (.int .i64 (k + n)) ∧ Below w.heap.size w w' := by
  have HH := hide h
  clear h
  go_enter Try.func14, Try.ntmps14
  go_wp2_with fail
  go_loopw [1, 5] (fun q i wr => ∃ j : Nat, j ≤ n ∧ i = .int .i64 j ∧ q = .int .i64 (k + j) ∧ Hid (Below w.heap.size w wr)) (fun _ i _ => n - (intOf i).toNat)
  case atStart => exact ⟨0, Nat.zero_le _, rfl, by simp, hide (Below.refl _ _)⟩
  case round =>
    obtain ⟨j, hj, rfl, rfl, HB⟩ := hrel
    by_cases hlt : j < n
    · obtain ⟨b, off, p, rfl, hb, hp, hck⟩ := (HH.out.below HB.out).at (k := j) (by rw [marksT_length]; exact hlt)
      obtain rfl : markT (k + j) = p := by
        have : (marksT k n)[j]? = some (markT (k + j)) := by simp [marksT, hlt]
        exact Option.some.inj (this.symm.trans hp)
      clear hp
      have f1 : ∀ u : InW (fun x => Below wr.heap.size wr x), u.val.cell? ⟨b, off + j, none⟩ = some (.string (str (markT (k + j)))) := fun u => (u.ok.cell (p := ⟨b, off + j, none⟩) hb).trans hck
      have C1 : Hid (∀ u : InW (fun x => Below wr.heap.size wr x), Calls Try.prog 19 #[.int .i64 ((k : Int) + j)] u.val fun e w' => e = .returned (.string (str (markT (k + j)))) ∧ ∃ x : InW (fun x => Below wr.heap.size wr x), w' = x.val) := fun u =>
        (show Calls Try.prog 19 #[.int .i64 ((k + j : Nat) : Int)] u.val _ from (markText_any (k + j) u.val (by omega) (by omega)).mono (fun e w' ⟨he, hb⟩ => ⟨he, ⟨w', below_next u.ok hb⟩, rfl⟩))
      have hne : Nonempty (InW (fun x => Below wr.heap.size wr x)) := ⟨⟨wr, Below.refl _ _⟩⟩
      generalize str (markT (k + j)) = S0 at *
      clear hck
      go_wp2_with fail
      refine wp_region_inv (Inv := fun x => Below wr.heap.size wr x) (by kernel_rfl) (by kernel_rfl) (Below.refl _ _).drew ?_
      repeat (first | go_big_quiet_step ((go_at_call 19; exact C1.out _)) | quiet_step (fail))
      refine wpQuiet_nil ?_
      intro _ hw'
      obtain ⟨u, hw''⟩ := hw'
      subst hw''
      have HB2 := hide (below_next HB.out u.ok)
      go_wp2_with fail
      go_roundw
      case rel => exact ⟨j + 1, by omega, by go_num, by go_num, HB2⟩
      case measure => simp [intOf]; omega
    · have hje : j = n := by omega
      subst hje
      go_wp2_with fail
      go_ret
      exact ⟨rfl, HB.out⟩

theorem markNamesResult_any (q : Int) (B : Nat) (a : Option Addr) (c : Nat) (ps : List Bs) (k : Nat) (w : World) (h : OwnS B w (.slice a ps.length c) ps) (hk0 : 0 < k) (hk1 : k ≤ 1048576) (hl : ps.length ≤ 1048576) :
    Calls Try.prog 7 #[.agg #[.int .i64 q, .slice a ps.length c], .int .i64 k] w fun e w' => e = .returned (.int .i64 (k + ps.length)) ∧ OwnS B w' (.slice a ps.length c) (marksT k ps.length) ∧ Kept (blkOf a) w w' := by
  have HG := hide h
  clear h
  go_enter Try.func7, Try.ntmps7
  go_wp2_with fail
  refine (markStringS_any B a c ps k _ (HG.out.below (below_alloc _ _)) hk0 hk1 hl).mono ?_
  rintro e w1 ⟨rfl, o1, k1⟩
  have O1 := hide o1
  have K1 := hide k1
  clear o1 k1
  go_wp2_with fail
  go_ret
  exact ⟨rfl, O1.out, ((Kept.refl _ _).alloc _).trans K1.out⟩

theorem heldNamesResult_any (q : Int) (a : Option Addr) (c n k : Nat) (w : World) (h : ReadsS w a (marksT k n)) (hk0 : 0 < k) (hk1 : k ≤ 1048576) (hl : n ≤ 1048576) :
    Calls Try.prog 8 #[.agg #[.int .i64 q, .slice a n c], .int .i64 k] w fun e w' => e = .returned (.int .i64 (k + n)) ∧ Below w.heap.size w w' := by
  have HG := hide h
  clear h
  have hk2 : ¬ ((k : Int) + (n : Int)) < 0 := by omega
  go_enter Try.func8, Try.ntmps8
  go_wp2_with fail
  refine (heldStringS_any a c n k _ (HG.out.below (below_alloc _ _)) hk0 hk1 hl).mono ?_
  rintro e w1 ⟨rfl, hb1⟩
  have HB := hide (below_next (below_alloc _ _) hb1)
  clear hb1
  go_wp2_with fail
  go_ret
  exact ⟨rfl, HB.out⟩

end Go.Proofs.Ytkimblnabbfkfaa

