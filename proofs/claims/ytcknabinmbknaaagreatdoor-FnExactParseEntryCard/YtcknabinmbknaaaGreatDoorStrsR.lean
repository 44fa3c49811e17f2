/-
  The laws' helpers on lists of texts: compared, marked, held.
-/
import Derived.Test.YtcknabinmbknaaaGreatDoorJ1
namespace Go.Proofs.YtcknabinmbknaaaGreatDoor
open Go.RowKit
set_option linter.unusedVariables false




/-- A number's digits, as many as the first number allows. -/
def decF : Nat → Nat → Bs
  | 0, _ => []
  | f + 1, n => if n = 0 then [] else decF f (n / 10) ++ [(48 + n % 10).toUInt8]
/-- The text of a mark. -/
def markT (k : Nat) : Bs := 109 :: decF 20 k
theorem decF_zero (f : Nat) : decF f 0 = [] := by cases f <;> simp [decF]
theorem decF_len (f n : Nat) : (decF f n).length ≤ f := by
  induction f generalizing n with
  | zero => simp [decF]
  | succ f ih =>
    simp only [decF]
    split
    · simp
    · have := ih (n / 10); simp; omega
theorem decF_pos (f n : Nat) (h : 0 < n) : decF (f + 1) n = decF f (n / 10) ++ [(48 + n % 10).toUInt8] := by
  have : n ≠ 0 := by omega
  simp [decF, this]
theorem nums_one (d : Nat) (h : d < 256) : strOfNums [(d : Int)] = str [d.toUInt8] := by
  simp [strOfNums, str]

set_option maxRecDepth 100000 in
set_option maxHeartbeats 800000 in
theorem markText_any (k : Nat) (w : World) (h0 : 0 < k) (h1 : k ≤ 1099511627776) :
    Calls Tryz.prog 84 #[.int .i64 k] w fun e w' => e = .returned (.string (str (markT k))) ∧ Below w.heap.size w w' := by
  have h0' : ¬ (k : Int) ≤ 0 := by omega
  go_enter Tryz.func84, Tryz.ntmps84
  go_wp2_with fail
  go_loopw [0, 3] (fun q s wr => ∃ (n f : Nat) (acc : Bs), q = .int .i64 n ∧ s = .string (str acc) ∧ n < 10 ^ f ∧ n ≤ 1099511627776 ∧ acc.length ≤ 20 - f ∧ f ≤ 20 ∧ Hid (decF 20 k = decF f n ++ acc) ∧ Hid (Below w.heap.size w wr)) (fun q _ _ => (intOf q).toNat)
  case atStart => exact ⟨k, 20, [], rfl, rfl, by omega, h1, by simp, by omega, hide (by simp), hide (Below.refl _ _)⟩
  case round =>
    obtain ⟨n, f, acc, rfl, rfl, hf, hn, hal, hf20, HD, HB⟩ := hrel
    by_cases hpos : 0 < n
    · have hpos' : (0 : Int) < (n : Int) := by omega
      cases f with
      | zero => simp at hf; omega
      | succ g =>
        have HE := hide (decF_pos g n hpos)
        have hg : n / 10 < 10 ^ g := by rw [Nat.pow_succ] at hf; omega
        have HG := hide hg
        clear hf hg
        have hd0 : (0 : Int) ≤ (n : Int) % 10 := by omega
        have hd1 : (n : Int) % 10 ≤ 9 := by omega
        have HC := hide (show strOfNums [48 + (n : Int) % 10] = str [(48 + n % 10).toUInt8] by rw [← nums_one _ (by omega)]; congr 1)
        have hconv := run_convert_bytes_arg (P := Tryz.prog) (w := wr.alloc (.cells #[.int .u8 (48 + (n : Int) % 10)] 5)) 22 5 Tryz.underlying22 Tryz.underlying5 wr.heap.size 0 1 1 [48 + (n : Int) % 10] rfl (fun i hi => by rw [show i = 0 by omega]; simp) 9 Tryz.underlying9
        have hz : ¬ 9223372036854775807 < (str [(48 + n % 10).toUInt8]).size + (str acc).size := by rw [str_size, str_size]; simp; omega
        go_wp2_with fail
        go_roundw
        case rel => exact ⟨n / 10, g, (48 + n % 10).toUInt8 :: acc, by go_num, by rw [HC.out, str_append]; rfl, HG.out, by omega, by simp; omega, by omega, hide (by rw [HD.out, HE.out]; simp), hide (HB.out.alloc HB.out.size _)⟩
        case measure => simp [intOf]; omega
    · have hn0 : n = 0 := by omega
      subst hn0
      have HE := hide (show decF 20 k = acc by have := HD.out; rwa [decF_zero, List.nil_append] at this)
      have hz : ¬ 9223372036854775807 < 1 + (str acc).size := by rw [str_size]; omega
      have HM := hide (show (⟨#[109]⟩ : ByteArray) ++ str acc = str (markT k) by rw [show (⟨#[109]⟩ : ByteArray) = str [109] from rfl, str_append, markT, HE.out]; rfl)
      go_wp2_with fail
      go_ret
      exact ⟨ret_str HM.out, HB.out⟩

/-- n marks from k on. -/
def marksT (k n : Nat) : List Bs := (List.range n).map fun i => markT (k + i)
theorem marksT_length (k n : Nat) : (marksT k n).length = n := by simp [marksT]
theorem marksT_at {k n i : Nat} (h : i < n) : (marksT k n).getD i [] = markT (k + i) := by simp [marksT, List.getD_eq_getElem?_getD, h]

theorem OwnS.addr {B : Nat} {w : World} {a : Option Addr} {n c : Nat} {ps : List Bs} (h : OwnS B w (.slice a n c) ps) (hz : ps ≠ []) : ∃ g, a = some ⟨g, 0, none⟩ ∧ n = ps.length := by
  have h0 : 0 < ps.length := List.length_pos_iff.2 hz
  rcases h.2 with ⟨h', hh⟩ | ⟨g, cap, cur, h', hb, hh, hnc, hcm, hcs, htake⟩
  · omega
  · simp only [Value.slice.injEq] at h'
    exact ⟨g, h'.1, h'.2.1⟩
/-- One text of the list is written over. -/
theorem OwnS.set {B : Nat} {w : World} {g c : Nat} {ps : List Bs} {j : Nat} {p : Bs} (h : OwnS B w (.slice (some ⟨g, 0, none⟩) ps.length c) ps) (hj : j < ps.length) :
    OwnS B (w.setCell ⟨g, j, none⟩ (.string (str p))) (.slice (some ⟨g, 0, none⟩) ps.length c) (ps.set j p) := by
  have hr := h.reads (by intro e; simp [e] at hj)
  obtain ⟨b, off, e, hb, hc⟩ := hr
  simp only [Option.some.injEq, Addr.mk.injEq, and_true] at e
  obtain ⟨rfl, rfl⟩ := e
  have hl : (ps.set j p).length = ps.length := by simp
  have key := own_back (ys := (ps.set j p).map vS) h ((SameShape.refl w).setCell g j (.string (str p))) (by simp) (fun i hi => ?_)
  · unfold OwnS
    rw [hl]
    exact key
  · have hci := hc i hi
    rw [Nat.zero_add] at hci
    by_cases e : i = j
    · subst e
      rw [cell_set_same hci]
      simp [hi, vS]
    · rw [cell_set_other (by simp), hci]
      simp [Ne.symm e, hi, vS, List.getD_eq_getElem?_getD]
theorem mix_step (k j : Nat) (ps : List Bs) (h : j < ps.length) : (marksT k j ++ ps.drop j).set j (markT (k + j)) = marksT k (j + 1) ++ ps.drop (j + 1) := by
  have e : ps.drop j = ps[j] :: ps.drop (j + 1) := (List.getElem_cons_drop h).symm
  rw [List.set_append_right _ _ (by rw [marksT_length]; exact Nat.le_refl _), marksT_length, Nat.sub_self, e, List.set_cons_zero]
  simp [marksT, List.range_succ]





end Go.Proofs.YtcknabinmbknaaaGreatDoor
