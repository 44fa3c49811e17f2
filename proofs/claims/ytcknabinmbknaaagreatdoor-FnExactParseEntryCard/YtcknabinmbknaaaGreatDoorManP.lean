/-
  The program's manifestFault, hexTexts and PackManifest.
-/
import Derived.Test.YtcknabinmbknaaaGreatDoorManL
import Derived.Test.YtcknabinmbknaaaGreatDoorCutG
import Derived.Test.YtcknabinmbknaaaGreatDoorAppL
import Derived.Test.YtcknabinmbknaaaGreatDoorInts
import Derived.Deep.RegionHeld3
namespace Go.Proofs.YtcknabinmbknaaaGreatDoor
open Go.RowKit
set_option linter.unusedVariables false
set_option maxRecDepth 100000

theorem snoc_at {α : Type} {l : List α} {k : Nat} {y : α} (h : l[k]? = some y) : l.take (k + 1) = l.take k ++ [y] := by
  obtain ⟨hk, he⟩ := List.getElem?_eq_some_iff.1 h
  rw [List.take_succ_eq_append_getElem hk, he]

theorem isDigest_any (n : Int) (w : World) : Calls Tryz.prog 107 #[.int .i64 n] w fun e w' => e = .returned (.bool (isDig n)) ∧ w' = w := by
  by_cases h : 0 ≤ n ∧ n ≤ 4294967295
  · have e : isDig n = true := by simp [isDig, h]
    rw [e]; exact implIsDigest_yes n w h.1 h.2
  · have e : isDig n = false := by simp [isDig]; omega
    rw [e]; exact implIsDigest_no n w (by omega)


set_option maxHeartbeats 1600000 in
theorem hexTexts_any (ds : List Int) (x : Option Addr) (c : Nat) (w : World) (h : Reads .i64 w x ds) (hd : ds.length ≤ 1048576) (hall : ∀ z ∈ ds, 0 ≤ z ∧ z ≤ 4294967295) :
    Calls Tryz.prog 72 #[.slice x ds.length c] w fun r w' => ∃ av cv, r = .returned (.slice av ds.length cv) ∧ OwnS w.heap.size w' (.slice av ds.length cv) (ds.map hexB) ∧ Below w.heap.size w w' := by
  have HR := hide h
  have HALL := hide hall
  clear h hall
  obtain ⟨i1, ki, kz0, kz1, kz2⟩ := info_parts infoS
  have hfd : ∀ (t : ByteArray) (w : World), (Instr.field 35 (.agg #[.int .i64 0, .string t]) 1).run Tryz.prog w = .ok (.string t) w := fun _ _ => by kernel_rfl
  go_enter Tryz.func72, Tryz.ntmps72
  go_wp2_with fail
  go_loopw [3, 5, 8] (fun v _ i wr => ∃ (k : Nat) (va : Option Addr) (vc : Nat), k ≤ ds.length ∧ i = .int .i64 k ∧ v = .slice va k vc ∧ Hid (wr.ownsRow w.heap.size 9 1 (.slice va k vc) k (((ds.take k).map hexB).map vS)) ∧ Hid (Below w.heap.size w wr)) (fun _ _ i _ => ds.length - (intOf i).toNat)
  case atStart => exact ⟨0, none, 0, Nat.zero_le _, rfl, rfl, hide (by simpa using World.ownsRow_nil _ _ _ _), hide (Below.refl _ _)⟩
  case round =>
    obtain ⟨k, va, vc, hk, rfl, rfl, HO, HB⟩ := hrel
    have hm1 : k + 1 ≤ maxLen := by unfold maxLen; omega
    have hm2 : (k + 1) * 16 ≤ 140737488355328 := by omega
    by_cases hlt : k < ds.length
    · obtain ⟨b, off, rfl, hb1, hcc⟩ := (HR.out.below HB.out) (by intro e; simp [e] at hlt)
      have hc1 := hcc k hlt
      have hzk : ds[k]? = some (ds.getD k 0) := by rw [List.getD_eq_getElem?_getD, List.getElem?_eq_getElem hlt]; rfl
      generalize ds.getD k 0 = y at hc1 hzk
      have HZ := hide hzk
      have HY := hide (HALL.out y (List.mem_of_getElem? hzk))
      clear hcc hzk
      go_wp2_with fail
      refine (implHexText_ok y _ HY.out.1 HY.out.2).mono ?_
      rintro r w1 ⟨rfl, hb1'⟩
      have HO1 := hide (ownsRow_below HO.out hb1')
      have HB1 := hide (below_next HB.out hb1')
      clear hb1' HO hc1
      have hsz := HB1.out.size
      go_wp2_with (at_builtin; refine wpList_append_one rfl (.tmp 12) (.tmp 16) 59 rfl w.heap.size 9 i1 (.string ⟨#[]⟩) 1 16 Tryz.underlying59 ki kz0 kz1 kz2 rfl (by decide) _ _ _ rfl HO1.out rfl rfl (by intro u hu; simp at hu; subst hu; rfl) hm1 hm2 hsz ?_; intro v' w2 hown2 hkept; have O2 := hide hown2; have K2 := hide hkept; clear hown2 hkept)
      obtain ⟨va2, vc2, hv2⟩ := ownsRow_shape O2.out
      subst hv2
      go_roundw
      case rel => exact ⟨k + 1, va2, vc2, by omega, by go_num, rfl, hide (by have h2 := O2.out; rw [snoc_at HZ.out, List.map_append, List.map_append]; rw [← str_hexB y] at h2; exact h2), hide (Kept.below_own HB1.out hsz HO1.out K2.out)⟩
      case measure => simp [intOf]; omega
    · have hk' : k = ds.length := by omega
      subst hk'
      have HO1 := hide (show OwnS w.heap.size wr (.slice va ds.length vc) (ds.map hexB) by have := HO.out; rw [List.take_length] at this; unfold OwnS; rw [List.length_map]; exact this)
      clear HO
      go_wp2_with fail
      go_ret
      exact ⟨va, vc, rfl, HO1.out, HB.out⟩
end Go.Proofs.YtcknabinmbknaaaGreatDoor
