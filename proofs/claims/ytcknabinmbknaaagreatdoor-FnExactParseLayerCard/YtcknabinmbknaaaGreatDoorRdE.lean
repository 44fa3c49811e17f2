/-
  The program's readKind and readNumber: each returns, or panics.
-/
import Derived.Test.YtcknabinmbknaaaGreatDoorRdM
import Derived.Test.YtcknabinmbknaaaGreatDoorParL
import Derived.Test.YtcknabinmbknaaaGreatDoorLayI
import Derived.Lib.IndexBytes
namespace Go.Proofs.YtcknabinmbknaaaGreatDoor
open Go.RowKit
set_option linter.unusedVariables false
set_option maxRecDepth 100000

/-- What the readers ask of the package's variables. -/
structure Gl (w : World) (u : TypeId) (vp : Value) : Prop where
  un : w.cell? ⟨0, 0, none⟩ = some (.iface u vp)
  mx : ∃ m : Int, w.cell? ⟨Tryz.idxA_ren.g 1, 0, none⟩ = some (.int .i64 m)
  sy : ∃ ev : Value, w.cell? ⟨Tryz.pintA_ren.g 15, 0, none⟩ = some ev ∧ (ev = .nilIface ∨ ∃ te pe, ev = .iface te pe)
  rg : ∃ ev : Value, w.cell? ⟨Tryz.pintA_ren.g 16, 0, none⟩ = some ev ∧ (ev = .nilIface ∨ ∃ te pe, ev = .iface te pe)
theorem Gl.below {w w' : World} {u : TypeId} {vp : Value} (h : Gl w u vp) (hb : Below w.heap.size w w') : Gl w' u vp := by
  obtain ⟨h1, ⟨m, h2⟩, ⟨e1, h3, h4⟩, ⟨e2, h5, h6⟩⟩ := h
  exact ⟨(hb.cell (World.block_lt_of_cell? w _ h1)).trans h1, ⟨m, (hb.cell (World.block_lt_of_cell? w _ h2)).trans h2⟩, ⟨e1, (hb.cell (World.block_lt_of_cell? w _ h3)).trans h3, h4⟩, ⟨e2, (hb.cell (World.block_lt_of_cell? w _ h5)).trans h5, h6⟩⟩

theorem index_any (a : Bs) (u : TypeId) (vp : Value) (w : World) (hg : Gl w u vp) : Calls Tryz.prog 116 #[.string ⟨#[102, 100, 119, 111]⟩, .string (str a)] w fun e w' => e = .returned (.int .i64 (Lib.index kindsB a)) ∧ w' = w := by
  obtain ⟨m, hm⟩ := hg.mx
  have := Any.strings_Index Tryz.idxA ⟨#[102, 100, 119, 111]⟩ (str a) m w (by decide) hm
  rw [str_data] at this
  exact this

set_option maxHeartbeats 800000 in
theorem readKind_yes (a : Bs) (k : Int) (u : TypeId) (vp : Value) (w : World) (hg : Gl w u vp) (h : kindW a = some k) : Calls Tryz.prog 77 #[.string (str a)] w fun r w' => r = .returned (.int .i64 k) ∧ w' = w := by
  have HI := hide (index_any a u vp w hg)
  have hi : 0 ≤ Lib.index kindsB a ∧ k = Lib.index kindsB a + 1 := by
    unfold kindW at h
    by_cases hc : Lib.index kindsB a < 0
    · rw [if_pos hc] at h; cases h
    · rw [if_neg hc] at h; cases h; exact ⟨by omega, rfl⟩
  have hu : Lib.index kindsB a ≤ 4 := by
    have := Lib.index_le kindsB a
    simpa [kindsB] using this
  clear h hg
  generalize Lib.index kindsB a = I at *
  obtain ⟨h0, rfl⟩ := hi
  have hwrap : IntKind.i64.wrap (I + 1) = I + 1 := by simp [IntKind.wrap, IntKind.signed, IntKind.bits]; omega
  go_enter Tryz.func77, Tryz.ntmps77
  go_wp2_with fail
  refine HI.out.mono ?_
  rintro e w1 ⟨rfl, rfl⟩
  go_wp2_with fail
  go_ret
  exact ⟨rfl, rfl⟩
set_option maxHeartbeats 800000 in
theorem readKind_no (a : Bs) (u : TypeId) (vp : Value) (w : World) (hg : Gl w u vp) (h : kindW a = none) : Calls Tryz.prog 77 #[.string (str a)] w fun r w' => r = Dies u vp ∧ w' = w := by
  have HI := hide (index_any a u vp w hg)
  have hi : Lib.index kindsB a < 0 := by
    unfold kindW at h
    by_cases hc : Lib.index kindsB a < 0
    · exact hc
    · rw [if_neg hc] at h; cases h
  have hcell := hg.un
  clear h hg
  generalize Lib.index kindsB a = I at *
  go_enter Tryz.func77, Tryz.ntmps77
  go_wp2_with fail
  refine HI.out.mono ?_
  rintro e w1 ⟨rfl, rfl⟩
  go_wp2_with fail
  exact ⟨rfl, rfl, rfl⟩
set_option maxHeartbeats 800000 in
theorem readNumber_yes (n : Bs) (v : Int) (w : World) (hl : n.length ≤ 2097152) (h : numW n = some v) : Calls Tryz.prog 79 #[.string (str n)] w fun r w' => r = .returned (.int .i64 v) ∧ Below w.heap.size w w' := by
  have hp : Lib.parseIntB 64 (str n).data.toList = .ok v := by
    rw [str_data]
    unfold numW at h
    split at h
    · cases h; assumption
    · cases h
  have HP := hide (Any.strconv_ParseInt_10_at64_ok Tryz.pintA (str n) (by rw [str_size]; omega) v hp w)
  clear hp h
  go_enter Tryz.func79, Tryz.ntmps79
  go_wp2_with fail
  refine HP.out.mono ?_
  rintro e w1 ⟨rfl, hw⟩
  have B1 : Hid (Below w.heap.size w w1) := hide (by
    rcases hw with rfl | ⟨t, rfl⟩
    · exact Below.refl _ _
    · exact Lib.bytesWorld_below _ _ _)
  clear hw
  go_wp2_with fail
  go_ret
  exact ⟨rfl, B1.out⟩
set_option maxHeartbeats 800000 in
theorem readNumber_no (n : Bs) (u : TypeId) (vp : Value) (w : World) (hg : Gl w u vp) (hl : n.length ≤ 2097152) (h : numW n = none) : Calls Tryz.prog 79 #[.string (str n)] w fun r w' => r = Dies u vp ∧ Below w.heap.size w w' := by
  have HP : Hid (Calls Tryz.prog 118 #[.string (str n), .int .i64 10, .int .i64 64] w fun e w' => ∃ (x : Int) (N : Nat), e = .returned (.tuple #[.int .i64 x, .iface (Tryz.pintA_ren.t 168) (.pointer (some ⟨N, 0, none⟩))]) ∧ Below w.heap.size w w') := by
    obtain ⟨e1, h3, h4⟩ := hg.sy
    obtain ⟨e2, h5, h6⟩ := hg.rg
    unfold numW at h
    refine hide ?_
    cases hp : Lib.parseIntB 64 n with
    | ok v => rw [hp] at h; cases h
    | «syntax» =>
      refine (Any.strconv_ParseInt_10_at64_syntax Tryz.pintA (str n) (by rw [str_size]; omega) (by rw [str_data]; exact hp) e1 w h3 h4).mono ?_
      rintro e w1 ⟨N, rfl, -, -, hb⟩
      exact ⟨_, N, rfl, hb⟩
    | range =>
      refine (Any.strconv_ParseInt_10_at64_range Tryz.pintA (str n) (by rw [str_size]; omega) (by rw [str_data]; exact hp) e2 w h5 h6).mono ?_
      rintro e w1 ⟨N, rfl, -, -, hb⟩
      exact ⟨_, N, rfl, hb⟩
  have HG := hide (fun w1 (hb : Below w.heap.size w w1) => (hg.below hb).un)
  clear h hg
  go_enter Tryz.func79, Tryz.ntmps79
  go_wp2_with fail
  refine HP.out.mono ?_
  rintro e w1 ⟨x, N, rfl, hb⟩
  have hcell := HG.out _ hb
  have B1 := hide hb
  clear hb
  go_wp2_with fail
  exact ⟨rfl, rfl, B1.out⟩
end Go.Proofs.YtcknabinmbknaaaGreatDoor
