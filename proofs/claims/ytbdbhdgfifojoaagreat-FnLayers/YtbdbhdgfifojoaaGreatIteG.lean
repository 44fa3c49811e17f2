/-
  The program's ChunksIn.
-/
import Derived.Test.YtbdbhdgfifojoaaGreatLayR
import Derived.Test.YtbdbhdgfifojoaaGreatEntH
namespace Go.Proofs.YtbdbhdgfifojoaaGreat
open Go.RowKit Go.Maps
set_option linter.unusedVariables false
attribute [local go_sem ↓] Go.wp_at_zero Go.wp_at_succ

set_option maxRecDepth 100000 in
set_option maxHeartbeats 800000 in
theorem zIndex_any (a : Option Addr) (c : Nat) (ms : List Int) (z : Int) (w : World) (h : Reads .i64 w a ms) (hl : ms.length ≤ 1048576) :
    Calls Tryz.prog 66 #[.slice a ms.length c, .int .i64 z] w fun e w' => (∃ i : Int, e = .returned (.int .i64 i) ∧ decide (0 ≤ i) = ms.contains z ∧ -1 ≤ i ∧ i ≤ 1048576) ∧ w' = w := by
  have HA := hide h
  clear h
  generalize hr : ms.contains z = r
  have HR := hide hr
  clear hr
  go_enter Tryz.func66, Tryz.ntmps66
  go_wp2
  go_loop [5, 8] (fun _ i => ∃ k : Nat, k ≤ ms.length ∧ i = .int .i64 k ∧ ∀ j, j < k → ms.getD j 0 ≠ z) (fun _ i => ms.length - (intOf i).toNat)
  case atStart => exact ⟨0, Nat.zero_le _, rfl, fun j hj => absurd hj (by omega)⟩
  case round =>
    obtain ⟨k, hk, rfl, hF⟩ := hrel
    have HF := hide hF
    clear hF
    by_cases hlt : k < ms.length
    · obtain ⟨b, off, rfl, hb1, hc⟩ := HA.out (by intro e; simp [e] at hlt)
      have hc1 := hc k hlt
      generalize hy : ms.getD k 0 = y at hc1
      have HY := hide hy
      clear hy hc
      by_cases e : y = z
      · have e' : (z == y) = true := by simpa using e.symm
        have HE := hide e
        clear e
        go_wp2
        go_ret
        exact ⟨⟨_, rfl, by rw [← HR.out, has_hit hlt (HY.out.trans HE.out)]; simp, by omega, by omega⟩, rfl⟩
      · have e' : (z == y) = false := by simpa using fun h => e h.symm
        go_wp2
        go_round
        case rel => exact ⟨k + 1, by omega, by go_num, fun j hj => by
          by_cases ej : j = k
          · subst ej; rw [HY.out]; exact e
          · exact HF.out j (by omega)⟩
        case measure => simp [intOf]; omega
    · go_wp2
      go_ret
      exact ⟨⟨_, rfl, by rw [← HR.out, has_upto (fun j hj => HF.out j (by omega))]; simp, by omega, by omega⟩, rfl⟩

set_option maxRecDepth 100000 in
set_option maxHeartbeats 800000 in
theorem zContains_any (a : Option Addr) (c : Nat) (ms : List Int) (z : Int) (w : World) (h : Reads .i64 w a ms) (hl : ms.length ≤ 1048576) :
    Calls Tryz.prog 37 #[.slice a ms.length c, .int .i64 z] w fun e w' => e = .returned (.bool (ms.contains z)) ∧ w' = w := by
  have HC := hide (zIndex_any a c ms z w h hl)
  clear h
  generalize ms.contains z = r at *
  go_enter Tryz.func37, Tryz.ntmps37
  go_wp2_with fail
  refine HC.out.mono ?_
  rintro e w1 ⟨⟨i, rfl, hi, h1, h2⟩, rfl⟩
  subst hi
  go_wp2_with fail
  go_ret
  exact ⟨rfl, rfl⟩

def chunksListP (es : List En) : List Int := if layFaultP es = 0 then onceZ (allCh es) else []
set_option maxRecDepth 100000 in
set_option maxHeartbeats 3200000 in
theorem implChunksIn_any (a : Option Addr) (c n : Nat) (es : List En) (w : World) (h : RdE w a es) (hn : n = es.length) (hl : es.length ≤ 1048576) (hs : SmallE es) :
    Calls Tryz.prog 13 #[.slice a n c] w (ResZ (layFaultP es) (chunksListP es) w) := by
  subst hn
  obtain ⟨i0, hi0, hz0, hz1, hz2⟩ := info_parts Tryz.infoI64
  have X0 := hide (Box.new w (.int .i64 0) (.slice none 0 0) 38)
  have B0 := hide (below_alloc w (.cells #[.int .i64 0, .slice none 0 0] 38))
  have HR := hide h
  have HS := hide hs
  clear h hs
  go_enter Tryz.func13, Tryz.ntmps13
  go_wp2_with fail
  refine (implLayerFault_any a c es.length es _ (HR.out.below B0.out) rfl hl HS.out).mono ?_
  rintro r w1 ⟨rfl, hb1⟩
  have B1 := hide (below_next B0.out hb1)
  have X1 := hide (X0.out.below hb1)
  clear hb1 X0 B0
  by_cases hz : layFaultP es = 0
  · have HCC := hide (show layFaultP es = 0 ∧ chunksListP es = onceZ (allCh es) from ⟨hz, by rw [chunksListP, if_pos hz]⟩)
    have HRi := hide (right_P.1 hz)
    have hl12 := HRi.out.len
    have HCh := hide (fun e he => entFault_chunks (HRi.out.ent e he))
    rw [hz]
    clear hz
    have hb0 : w.heap.size < w1.heap.size := X1.out.1.lt
    have HA := hide (HR.out.below B1.out)
    go_wp2_with fail
    go_loopw [4, 17] (fun v i wr => ∃ j : Nat, j ≤ es.length ∧ i = .int .i64 j ∧ Hid (wr.ownsRow w1.heap.size 2 1 v (onceZ (allCh (es.take j))).length ((onceZ (allCh (es.take j))).map (Value.int .i64))) ∧ Hid (Below w1.heap.size w1 wr)) (fun _ i _ => es.length - (intOf i).toNat)
    case atStart => exact ⟨0, Nat.zero_le _, rfl, hide (World.ownsRow_nil _ _ _ _), hide (Below.refl _ _)⟩
    case round =>
      obtain ⟨j, hj, rfl, HO, HW⟩ := hrel
      by_cases hlt : j < es.length
      · obtain ⟨b, off, e, x, cc, rfl, hb0', he, c0', c1', c2', c3', hr⟩ := HA.out.at hlt
        have c0 := (HW.out.cell (p := ⟨b, off + j * 4, none⟩) hb0').trans c0'
        have c1 := (HW.out.cell (p := ⟨b, off + j * 4 + 1, none⟩) hb0').trans c1'
        have c2 := (HW.out.cell (p := ⟨b, off + j * 4 + 2, none⟩) hb0').trans c2'
        have c3 := (HW.out.cell (p := ⟨b, off + j * 4 + 3, none⟩) hb0').trans c3'
        clear c0' c1' c2' c3'
        have HX := hide he
        have BA := hide (below_alloc wr (.cells #[.string (str e.path), .int .i64 e.kind, .int .i64 e.size, .slice x e.chunks.length cc] 27))
        have HRc := hide hr
        have hsm := HCh.out e (List.mem_of_getElem? he)
        clear he hr
        rw [← upTo_zero es j e] at HO
        have HO1 := hide (ownsRow_below HO.out BA.out)
        have HW1 := hide (below_next HW.out BA.out)
        go_wp2_with fail
        clear c0 c1 c2 c3
        generalize wr.alloc (.cells #[.string (str e.path), .int .i64 e.kind, .int .i64 e.size, .slice x e.chunks.length cc] 27) = W at *
        have hct : (allCh (es.take j)).length ≤ 12 * 1024 := by
          have h1 := allCh_le (es := es.take j) (fun y hy => by have := HCh.out y (List.mem_of_mem_take hy); omega)
          have h2 := take_len hj
          omega
        go_loopw [4, 24] (fun v i w2 => ∃ k : Nat, k ≤ e.chunks.length ∧ i = .int .i64 k ∧ Hid (w2.ownsRow w1.heap.size 2 1 v (onceZ (upTo es j e k)).length ((onceZ (upTo es j e k)).map (Value.int .i64))) ∧ Hid (Below w1.heap.size w1 w2)) (fun _ i _ => e.chunks.length - (intOf i).toNat)
        case atStart => exact ⟨0, Nat.zero_le _, rfl, HO1, HW1⟩
        case round =>
          obtain ⟨k, hk, rfl, HO2, HW2⟩ := hrel
          by_cases hkl : k < e.chunks.length
          · obtain ⟨p1, r1, rfl, hp1, hy1⟩ := (HRc.out.below HW2.out) (by intro e; simp [e] at hkl)
            have y1 := hy1 k hkl
            have z1 : e.chunks[k]? = some (e.chunks.getD k 0) := by rw [List.getD_eq_getElem?_getD, List.getElem?_eq_getElem hkl]; rfl
            generalize e.chunks.getD k 0 = z at y1 z1
            have HU := hide ((congrArg onceZ (upTo_succ (es := es) (j := j) z1)).trans (onceZ_snoc _ z))
            have hcl := onceZ_le (upTo es j e k)
            have hcu : (upTo es j e k).length ≤ 12 * 1024 + 1024 := by unfold upTo; rw [List.length_append, List.length_take]; omega
            clear hy1 z1
            generalize onceZ (upTo es j e k) = ms at *
            obtain ⟨av, cv, rfl⟩ := ownsRow_shape HO2.out
            have RM := hide (ownInts_reads HO2.out rfl)
            have HAm := hide (zContains_any av cv ms z _ RM.out (by omega))
            have hm1 : ms.length + 1 ≤ maxLen := by unfold maxLen; omega
            have hm2 : (ms.length + 1) * 8 ≤ 140737488355328 := by omega
            have hsz := HW2.out.size
            cases hcn : ms.contains z
            · have HN := hide (show addZ ms z = ms ++ [z] from by unfold addZ; rw [hcn]; rfl)
              rw [hcn] at HAm
              clear hcn
              go_wp2_with (first | (go_at_call 37; refine HAm.out.mono ?_; rintro r w9 ⟨rfl, rfl⟩) | (at_builtin; refine wpList_append_one rfl (.tmp 32) (.tmp 34) 25 rfl w1.heap.size 2 i0 (.int .i64 0) 1 8 Tryz.underlying25 hi0 hz0 hz1 hz2 rfl (by decide) _ _ _ rfl HO2.out rfl rfl (by intro u hu; simp at hu; subst hu; rfl) hm1 hm2 hsz ?_; intro v' w3 hown2 hkept; have O2 := hide hown2; have K2 := hide hkept; clear hown2 hkept))
              go_roundw
              case rel => exact ⟨k + 1, by omega, by go_num, hide (by rw [HU.out, HN.out]; simpa using O2.out), hide (HW2.out.trans (K2.out.below hsz (fun q hq hS => by have := (HO2.out.lt _ hS).1; omega)))⟩
              case measure => simp [intOf]; omega
            · have HN := hide (show addZ ms z = ms from by unfold addZ; rw [hcn]; rfl)
              rw [hcn] at HAm
              clear hcn
              go_wp2_with (go_at_call 37; refine HAm.out.mono ?_; rintro r w9 ⟨rfl, rfl⟩)
              go_roundw
              case rel => exact ⟨k + 1, by omega, by go_num, hide (by rw [HU.out, HN.out]; exact HO2.out), HW2⟩
              case measure => simp [intOf]; omega
          · have HU := hide (upTo_end (k := k) HX.out (by omega))
            go_wp2_with fail
            go_roundw
            case rel => exact ⟨j + 1, by omega, by go_num, hide (by rw [← HU.out]; exact HO2.out), HW2⟩
            case measure => simp [intOf]; omega
      · have hE : es.take j = es := List.take_of_length_le (by omega)
        rw [hE] at HO
        clear hE
        obtain ⟨av, cv, rfl⟩ := ownsRow_shape HO.out
        obtain ⟨⟨t0, t1⟩, t2, t3⟩ := X1.out.below HW.out
        have B3 := hide (below_next B1.out HW.out)
        go_wp2_with fail
        refine bodyPost_ret (v := .agg #[.int .i64 0, .slice av (onceZ (allCh es)).length cv]) (by simp [results, Tryz.results13, go_sem, t0, t1]) rfl ?_
        rw [HCC.out.1, HCC.out.2]
        refine ⟨av, cv, rfl, ?_, (B3.out.setCell (Nat.le_refl _) _).setCell (Nat.le_refl _) _⟩
        exact ownsRow_mono (ownsRow_kept (S := fun b => b = w.heap.size) HO.out (Kept.two _ _ _ _ _ _) (fun b hb e => by have := (HO.out.lt b hb).1; omega)) (by omega)
  · have HCC := hide (show chunksListP es = [] from by rw [chunksListP, if_neg hz])
    generalize layFaultP es = F at *
    have hz2 : (F != 0) = true := by simp; exact hz
    clear hz
    obtain ⟨⟨t0, t1⟩, t2, t3⟩ := X1.out
    go_wp2_with fail
    refine bodyPost_ret (v := .agg #[.int .i64 F, .slice none 0 0]) (by simp [results, Tryz.results13, go_sem, t0, t1]) rfl ?_
    rw [HCC.out]
    exact ⟨none, 0, rfl, World.ownsRow_nil _ _ _ _, (B1.out.setCell (Nat.le_refl _) _).setCell (Nat.le_refl _) _⟩

end Go.Proofs.YtbdbhdgfifojoaaGreat
