/-
  The program's TreeText: lines built one behind the other.
-/
import Derived.Test.YtlbccbikepkfiaaGreatDoorTreC
import Derived.Test.YtlbccbikepkfiaaGreatDoorJ2
namespace Go.Proofs.YtlbccbikepkfiaaGreatDoor
open Go.RowKit Go.Maps
set_option linter.unusedVariables false
attribute [local go_sem ↓] Go.wp_at_zero Go.wp_at_succ

/-- The text of entries, each ended by a line feed. -/
def linesB (es : List En) : Bs := (es.map fun e => entText e ++ [10]).flatten
theorem linesB_snoc {es : List En} {k : Nat} {e : En} (he : es[k]? = some e) : linesB (es.take (k + 1)) = linesB (es.take k) ++ (entText e ++ [10]) := by
  unfold linesB
  rw [take_snoc_at he]
  simp
theorem entText_len (e : En) : (entText e).length ≤ 60 := by
  by_cases h : entFault e = 0
  · rw [entText_good h]
    have hF := entFault_fit.1 h
    have h1 := hF.plen
    have h2 := digB_len e.size
    have h3 := hexesB_len hF.three
    by_cases hk : e.kind = 1
    · rw [textE_file hk]; simp; omega
    · rw [textE_dir hk]
      have : (kindB e.kind).length = 1 := by unfold kindB; repeat' split
                                             all_goals rfl
      simp; omega
  · rw [entText_bad h]; simp
theorem linesB_len : ∀ (es : List En), (linesB es).length ≤ es.length * 61
  | [] => by simp [linesB]
  | e :: r => by
    have h1 := linesB_len r
    have h2 := entText_len e
    unfold linesB at h1 ⊢
    simp only [List.map_cons, List.flatten_cons, List.length_append, List.length_cons, List.length_nil] at h1 ⊢
    omega
theorem builder_below {T e : TypeId} {B b : Nat} {bs : List Value} {w w' : World} (h : Lib.IsBuilder T e B b bs w) (hk : Below w.heap.size w w') : Lib.IsBuilder T e B b bs w' := by
  have : ∀ p, Lib.BuilderAt T e B b p bs w → Lib.BuilderAt T e B b p bs w' := fun p hp => by
    have hlt := hp.lt
    obtain ⟨hB, v, hb, ho, hn⟩ := hp
    exact ⟨hB, v, (hk.block b hlt).trans hb, ownsRow_below ho hk, hn⟩
  exact h.elim (fun x => .inl (this _ x)) (fun x => .inr (this _ x))
theorem cells_str (s : Bs) : Lib.strCells (str s) = Lib.byteCells s := by unfold Lib.strCells Lib.byteCells; rw [str_data]
theorem cells_app (s t : Bs) : Lib.byteCells (s ++ t) = Lib.byteCells s ++ Lib.byteCells t := by simp [Lib.byteCells]

theorem writeStr_any (B b : Nat) (l s : Bs) (w : World) (h : Lib.IsBuilder 95 5 B b (Lib.byteCells l) w) (hlen : l.length + s.length ≤ 140737488355328) (hBw : B ≤ w.heap.size) :
    Calls Tryz.prog 62 #[.pointer (some ⟨b, 0, none⟩), .string (str s)] w fun e w' => e = .returned (.tuple #[.int .i64 (str s).size, .nilIface]) ∧ Lib.IsBuilder 95 5 B b (Lib.byteCells (l ++ s)) w' ∧ Below B w w' := by
  have := Any.Builder_WriteString (P := Tryz.prog) (ρ := Tryz.joinA_ren) { Tryz.joinA with } Tryz.joinX B b (Lib.byteCells l) (str s) w h (by rw [Lib.byteCells_length, str_size]; exact hlen) hBw
  refine (show Calls Tryz.prog 62 _ w _ from this).mono ?_
  rintro e w' ⟨he, hB, hb⟩
  refine ⟨he, .inr ?_, hb⟩
  rw [cells_app, ← cells_str s]
  exact hB
theorem builderString_any (B b : Nat) (l : Bs) (w : World) (h : Lib.IsBuilder 95 5 B b (Lib.byteCells l) w) (hBw : B ≤ w.heap.size) :
    Calls Tryz.prog 63 #[.pointer (some ⟨b, 0, none⟩)] w fun e w' => e = .returned (.string (str l)) ∧ Below B w w' :=
  Any.Builder_String_any (P := Tryz.prog) (ρ := Tryz.joinA_ren) { Tryz.joinA with } Tryz.joinX B b l w h hBw

set_option maxRecDepth 100000 in
set_option maxHeartbeats 1600000 in
theorem linesText_any (a : Option Addr) (c n : Nat) (es : List En) (w : World) (h : RdE w a es) (hn : n = es.length) (hl : es.length ≤ 1048576) (hs : SmallE es) :
    Calls Tryz.prog 48 #[.slice a n c] w fun r w' => r = .returned (.string (str (linesB es))) ∧ Below w.heap.size w w' := by
  subst hn
  have HR := hide h
  have HS := hide hs
  have B0 := hide (below_alloc w (.cells #[.pointer none, .slice none 0 0] 95))
  have P0 : Hid (Lib.IsBuilder 95 5 w.heap.size w.heap.size (Lib.byteCells (linesB (es.take 0))) (w.alloc (.cells #[.pointer none, .slice none 0 0] 95))) := hide (.inl ⟨Nat.le_refl _, .slice none 0 0, heap_alloc_new w _, World.ownsRow_nil _ _ _ _, by simp [Value.ownBlock]⟩)
  clear h hs
  go_enter Tryz.func48, Tryz.ntmps48
  go_wp2_with fail
  generalize w.alloc (.cells #[.pointer none, .slice none 0 0] 95) = W0 at *
  go_loopw [8] (fun i wr => ∃ k : Nat, k ≤ es.length ∧ i = .int .i64 k ∧ Hid (Lib.IsBuilder 95 5 w.heap.size w.heap.size (Lib.byteCells (linesB (es.take k))) wr) ∧ Hid (Below w.heap.size w wr)) (fun i _ => es.length - (intOf i).toNat)
  case atStart => exact ⟨0, Nat.zero_le _, rfl, P0, B0⟩
  case round =>
    obtain ⟨k, hk, rfl, HP, HW⟩ := hrel
    have hsz := HW.out.size
    by_cases hlt : k < es.length
    · obtain ⟨b, off, e, x, cc, rfl, hb, he, c0, c1, c2, c3, hr⟩ := (HR.out.below HW.out).at hlt
      have hsm := HS.out e (List.mem_of_getElem? he)
      have HX := hide he
      have BA := hide (below_alloc wr (.cells #[.string (str e.path), .int .i64 e.kind, .int .i64 e.size, .slice x e.chunks.length cc] 39))
      have HRc := hide (hr.below BA.out)
      clear he hr
      have hb1 := linesB_len (es.take k)
      rw [List.length_take] at hb1
      have hb2 := entText_len e
      go_wp2_with fail
      refine (implEntryText_any e x cc _ HRc.out hsm.1 hsm.2).mono ?_
      rintro r w1 ⟨rfl, hbw1⟩
      have HN := hide (linesB_snoc HX.out)
      have hfd : ∀ (w : World), (Instr.field 35 (.agg #[.int .i64 (entFault e), .string (str (entText e))]) 1).run Tryz.prog w = .ok (.string (str (entText e))) w := fun _ => by kernel_rfl
      have HSA := hide (show str (entText e) ++ (⟨#[10]⟩ : ByteArray) = str (entText e ++ [10]) from str_append _ [10])
      have hz1 : ¬ 9223372036854775807 < (str (entText e)).size + 1 := by rw [str_size]; omega
      have P1 := hide (builder_below HP.out (below_next BA.out hbw1))
      have HW1 := hide (below_next HW.out (below_next BA.out hbw1))
      have hszs := HW1.out.size
      have hwl : (linesB (es.take k)).length + (entText e ++ [10]).length ≤ 140737488355328 := by simp; omega
      clear hbw1 c0 c1 c2 c3 HP HW
      generalize entFault e = EF at *
      generalize entText e = ET at *
      go_wp2_with fail
      rw [HSA.out]
      refine (writeStr_any w.heap.size w.heap.size (linesB (es.take k)) (ET ++ [10]) _ P1.out hwl hszs).mono ?_
      rintro r w2 ⟨rfl, hP2, hbw2⟩
      have P2 : Hid (Lib.IsBuilder 95 5 w.heap.size w.heap.size (Lib.byteCells (linesB (es.take (k + 1)))) w2) := hide (by rw [HN.out]; exact hP2)
      have HW2 := hide (HW1.out.trans hbw2)
      clear hP2 hbw2 P1 HW1
      go_wp2_with fail
      go_roundw
      case rel => exact ⟨k + 1, by omega, by go_num, P2, HW2⟩
      case measure => simp [intOf]; omega
    · have HE := hide (show es.take k = es from List.take_of_length_le (by omega))
      rw [HE.out] at HP
      go_wp2_with fail
      refine (builderString_any w.heap.size w.heap.size (linesB es) _ HP.out hsz).mono ?_
      rintro r w2 ⟨rfl, hbw2⟩
      have HW2 := hide (HW.out.trans hbw2)
      clear hbw2
      go_wp2_with fail
      go_ret
      exact ⟨rfl, HW2.out⟩

def treeT (es : List En) : Bs := if treFaultP es = 0 then linesB es else []
end Go.Proofs.YtlbccbikepkfiaaGreatDoor
