/-
  Texts put together: SeeF SeeG SeeH SeeI SeeK SeeO SeeP SeeN.
-/
import Derived.Test.YtebgfaohhhgdpaaGreatKMounts9
import Derived.Test.YtebgfaohhhgdpaaGreatKMounts6
import Derived.Test.YtebgfaohhhgdpaaGreatKMounts5
import Derived.Shelf.SlMaps.Clone
import Derived.Lib.SlMapFilter
import Derived.RangeFuncGives
import Derived.Shelf.AbstractIn
import Derived.RangeFuncSeq
import Derived.Sort.MapsRangeIn
import Derived.OwnWalkIn
import Derived.TacticsInMore
import Derived.RegionIn
import Derived.LoopNIn
import Derived.LoopIn
import Derived.Maps.AppendAt
import Derived.Shelf.Abstract
import Derived.Shelf.SlIter.Collect
namespace Go.Proofs.YtebgfaohhhgdpaaGreat
open Go.RowKit Go.Maps
set_option linter.unusedVariables false
attribute [local go_sem ↓] Go.wp_at_zero Go.wp_at_succ

set_option maxRecDepth 100000 in
set_option maxHeartbeats 6400000 in
theorem seenAt_any (b N : Nat) (p : Bs) (S : Nat → Bs → Option En) (w0 w : World) (h : SeeM w0 w b N S) (hp : p.length ≤ 1048576) :
    Calls Tryz.prog 85 #[.map (some b), .string (str p)] w (ResW (seenG S p 4) p w) := by
  have X0 := hide (Box.new w (.int .i64 0) (.string ⟨#[]⟩) 104)
  have B0 := hide (below_alloc w (.cells #[.int .i64 0, .string ⟨#[]⟩] 104))
  have M0 := hide (h.below B0.out)
  clear h
  go_enter Tryz.func85, Tryz.ntmps85
  go_wp2_with fail
  generalize w.alloc (.cells #[.int .i64 0, .string ⟨#[]⟩] 104) = W0 at *
  go_loopw [6] (fun i wr => ∃ n : Nat, n ≤ 4 ∧ i = .int .i64 ((n : Int) - 1) ∧ Hid (seenG S p 4 = seenG S p n) ∧ Hid (Below W0.heap.size W0 wr)) (fun i _ => (intOf i + 1).toNat)
  case atStart => exact ⟨4, Nat.le_refl _, rfl, hide rfl, hide (Below.refl _ _)⟩
  case round =>
    obtain ⟨n, hn, hi, HV, HW⟩ := hrel
    cases n with
    | zero =>
      rw [show ((0 : Nat) : Int) - 1 = -1 from rfl] at hi
      subst hi
      have HN := hide (show seenG S p 4 = none from HV.out)
      obtain ⟨⟨t0, t1⟩, t2, t3⟩ := X0.out.below HW.out
      clear HV
      go_wp2_with fail
      refine bodyPost_ret (v := .tuple #[.agg #[.int .i64 0, .string ⟨#[]⟩], .bool false]) (by simp [results, Tryz.results85, go_sem, t0, t1]) rfl ?_
      rw [HN.out]
      exact ⟨⟨0, ⟨#[]⟩, rfl⟩, ((below_next B0.out HW.out).setCell (p := ⟨w.heap.size, 0, none⟩) (Nat.le_refl _) _).setCell (p := ⟨w.heap.size, 1, none⟩) (Nat.le_refl _) _⟩
    | succ m =>
      rw [show ((m + 1 : Nat) : Int) - 1 = (m : Int) from by omega] at hi
      subst hi
      have hm0 : (0 : Int) ≤ (m : Int) := by omega
      have MW := hide (M0.out.below HW.out)
      have BS := hide (below_alloc wr (.cells #[.int .i64 m, .string (str p)] 104))
      have MS := hide (MW.out.below BS.out)
      cases hS : S m p with
      | none =>
        have HL := hide (MS.out.no (i := m) (p := p) (by omega) hp hS)
        have BI := hide (below_next BS.out (below_alloc _ (.cells #[.int .i64 0, .slice none 0 0, .string ⟨#[]⟩, .int .i64 0] 66)))
        have HHA := hide (hidesAbove_any b N m p S w0 _ (MW.out.below BI.out) (by omega) hp)
        have hm1 : IntKind.i64.wrap ((m : Int) - 1) = (m : Int) - 1 := by simp [IntKind.wrap, IntKind.signed, IntKind.bits]; omega
        cases hh : (above p).any fun q => (S m q).any fun e => !decide (e.kind = 2)
        · have HN := hide (HV.out.trans (seen_down hS hh))
          rw [hh] at HHA
          clear hh hS
          go_wp2_with (at_lookup; refine wpList_lookS rfl _ _ 101 true rfl _ _ _ rfl rfl HL.out ?_)
          refine HHA.out.mono ?_
          rintro r w2 ⟨rfl, hb2⟩
          have B2 := hide (below_next (below_next HW.out BI.out) hb2)
          clear hb2
          go_wp2_with fail
          go_roundw
          case rel => exact ⟨m, by omega, by first | rfl | go_num, HN, B2⟩
          case measure => simp [intOf] <;> omega
        · have HN := hide (HV.out.trans (seen_hid hS hh))
          rw [hh] at HHA
          clear hh hS
          go_wp2_with (at_lookup; refine wpList_lookS rfl _ _ 101 true rfl _ _ _ rfl rfl HL.out ?_)
          refine HHA.out.mono ?_
          rintro r w2 ⟨rfl, hb2⟩
          have B2 := hide (below_next (below_next HW.out BI.out) hb2)
          obtain ⟨⟨t0, t1⟩, t2, t3⟩ := X0.out.below B2.out
          clear hb2
          go_wp2_with fail
          refine bodyPost_ret (v := .tuple #[.agg #[.int .i64 0, .string ⟨#[]⟩], .bool false]) (by simp [results, Tryz.results85, go_sem, t0, t1]) rfl ?_
          rw [HN.out]
          exact ⟨⟨0, ⟨#[]⟩, rfl⟩, ((below_next B0.out B2.out).setCell (p := ⟨w.heap.size, 0, none⟩) (Nat.le_refl _) _).setCell (p := ⟨w.heap.size, 1, none⟩) (Nat.le_refl _) _⟩
      | some e =>
        obtain ⟨x, cc, hl, -, -⟩ := MS.out.yes (i := m) (p := p) (by omega) hp hS
        have HL := hide hl
        have HN := hide (HV.out.trans (seen_hit hS))
        unfold itV at HL
        clear hl hS
        have BI := hide (below_next BS.out (below_alloc _ (.cells #[.int .i64 e.size, .slice x e.chunks.length cc, .string (str e.path), .int .i64 e.kind] 66)))
        have B2 := hide (below_next B0.out (below_next HW.out BI.out))
        obtain ⟨⟨t0, t1⟩, t2, t3⟩ := (X0.out.below HW.out).below BI.out
        by_cases hk : e.kind = 3
        · rw [if_pos hk] at HN
          have hk' : (e.kind != 3) = false := by simp [hk]
          clear hk
          go_wp2_with (at_lookup; refine wpList_lookS rfl _ _ 101 true rfl _ _ _ rfl rfl HL.out ?_)
          go_region
          all_goals
            go_wp2_with fail
            refine bodyPost_ret (v := .tuple #[.agg #[.int .i64 m, .string (str p)], .bool false]) (by simp [results, Tryz.results85, go_sem, t0, t1]) rfl ?_
            rw [HN.out]
            exact ⟨⟨m, str p, rfl⟩, (B2.out.drew.setCell (p := ⟨w.heap.size, 0, none⟩) (Nat.le_refl _) _).setCell (p := ⟨w.heap.size, 1, none⟩) (Nat.le_refl _) _⟩
        · rw [if_neg hk] at HN
          have hk' : (e.kind != 3) = true := by simpa using hk
          clear hk
          go_wp2_with (at_lookup; refine wpList_lookS rfl _ _ 101 true rfl _ _ _ rfl rfl HL.out ?_)
          go_region
          all_goals
            go_wp2_with fail
            refine bodyPost_ret (v := .tuple #[.agg #[.int .i64 m, .string (str p)], .bool true]) (by simp [results, Tryz.results85, go_sem, t0, t1]) rfl ?_
            rw [HN.out]
            exact ⟨rfl, (B2.out.drew.setCell (p := ⟨w.heap.size, 0, none⟩) (Nat.le_refl _) _).setCell (p := ⟨w.heap.size, 1, none⟩) (Nat.le_refl _) _⟩
end Go.Proofs.YtebgfaohhhgdpaaGreat

namespace Go.Proofs.YtebgfaohhhgdpaaGreat
open Go.RowKit Go.Maps
set_option linter.unusedVariables false
attribute [local go_sem ↓] Go.wp_at_zero Go.wp_at_succ

def askL (ls : List (List En)) (p : Bs) : Int := if layersP ls = 0 then faultP p else layersP ls
theorem askL_right {ls : List (List En)} {p : Bs} (h : askL ls p = 0) : ls.length ≤ 4 ∧ (∀ es ∈ ls, Right es) ∧ faultP p = 0 := by
  unfold askL at h
  split at h
  · rename_i h1
    exact ⟨(layersP_zero.1 h1).1, (layersP_zero.1 h1).2, h⟩
  · rename_i h1; exact absurd h h1
set_option maxRecDepth 100000 in
set_option maxHeartbeats 1600000 in
theorem implAskL_any (a : Option Addr) (c n : Nat) (ls : List (List En)) (p : Bs) (w : World) (h : RdL w a ls) (hn : n = ls.length) (hl : ls.length ≤ 1048576) (hs : SmallL ls) (hp : p.length ≤ 1048576) :
    Calls Tryz.prog 28 #[.slice a n c, .string (str p)] w fun r w' => r = .returned (.int .i64 (askL ls p)) ∧ Below w.heap.size w w' := by
  subst hn
  have hsz := str_size p
  have HLF := hide (implLayersFault_any a c ls.length ls w h rfl hl hs)
  have HPF : Hid (∀ w', Calls Tryz.prog 76 #[.string (str p)] w' fun e w2 => e = .returned (.int .i64 (faultP p)) ∧ Below w'.heap.size w' w2) := hide (fun w' => by have h1 := implPathFault_any (str p) w' (by omega); rw [str_data] at h1; exact h1)
  clear h hs
  by_cases hz : layersP ls = 0
  · have HZ := hide (show askL ls p = faultP p by simp [askL, hz])
    rw [hz] at HLF
    clear hz
    generalize askL ls p = V at *
    generalize faultP p = F at *
    go_enter Tryz.func28, Tryz.ntmps28
    go_wp2_with fail
    refine HLF.out.mono ?_
    rintro r w1 ⟨rfl, hb1⟩
    have B1 := hide hb1
    clear hb1
    go_wp2_with fail
    refine (HPF.out w1).mono ?_
    rintro r w2 ⟨rfl, hb2⟩
    have B2 := hide (below_next B1.out hb2)
    clear hb2
    go_wp2_with fail
    go_ret
    exact ⟨by rw [HZ.out]; rfl, B2.out⟩
  · have HZ := hide (show askL ls p = layersP ls by simp [askL, hz])
    generalize askL ls p = V at *
    generalize layersP ls = F at *
    have hz2 : (F != 0) = true := by simp; exact hz
    clear hz
    go_enter Tryz.func28, Tryz.ntmps28
    go_wp2_with fail
    refine HLF.out.mono ?_
    rintro r w1 ⟨rfl, hb1⟩
    have B1 := hide hb1
    clear hb1
    go_wp2_with fail
    go_ret
    exact ⟨by rw [HZ.out]; rfl, B1.out⟩
set_option maxRecDepth 100000 in
set_option maxHeartbeats 1600000 in
theorem ofTree_any (e : En) (x : Option Addr) (cc : Nat) (w : World) (hk : e.kind = 1 ∨ e.kind = 2 ∨ e.kind = 3 ∨ e.kind = 4) :
    Calls Tryz.prog 86 #[itV e x cc] w fun r w' => r = .returned (itV (asT e) x cc) ∧ Below w.heap.size w w' := by
  unfold itV
  have B0 := hide (below_next (below_alloc w (.cells #[.int .i64 e.size, .slice x e.chunks.length cc, .string (str e.path), .int .i64 e.kind] 66)) (below_alloc _ (.cells #[.int .i64 0, .slice none 0 0, .string ⟨#[]⟩, .int .i64 0] 66)))
  have F0 := hide ((Box4.new w (.int .i64 e.size) (.slice x e.chunks.length cc) (.string (str e.path)) (.int .i64 e.kind) 66).below (below_alloc _ (.cells #[.int .i64 0, .slice none 0 0, .string ⟨#[]⟩, .int .i64 0] 66)))
  have G0 := hide (Box4.new (w.alloc (.cells #[.int .i64 e.size, .slice x e.chunks.length cc, .string (str e.path), .int .i64 e.kind] 66)) (.int .i64 0) (.slice none 0 0) (.string ⟨#[]⟩) (.int .i64 0) 66)
  have hsz : (w.alloc (.cells #[.int .i64 e.size, .slice x e.chunks.length cc, .string (str e.path), .int .i64 e.kind] 66)).heap.size = w.heap.size + 1 := by simp
  rw [hsz] at G0
  have HT := hide (show dirK e.kind = true → asT e = { e with kind := 2 } from fun hd => by
    rcases hk with h | h | h | h <;> rw [h] at hd <;> simp [dirK] at hd
    · cases e; simp at h; subst h; simp [asT]
    · simp [asT, h, kindE])
  have HT2 := hide (show dirK e.kind = false → asT e = e from fun hd => by
    rcases hk with h | h | h | h <;> rw [h] at hd <;> simp [dirK] at hd
    · simp [asT, h]
    · simp [asT, h])
  clear hsz hk
  obtain ⟨⟨f0, f1, f2, f3⟩, -⟩ := F0.out
  go_enter Tryz.func86, Tryz.ntmps86
  go_wp2_with fail
  generalize (w.alloc (.cells #[.int .i64 e.size, .slice x e.chunks.length cc, .string (str e.path), .int .i64 e.kind] 66)).alloc (.cells #[.int .i64 0, .slice none 0 0, .string ⟨#[]⟩, .int .i64 0] 66) = W0 at *
  refine (isDir_any _ _ _ _ _ _ _).mono ?_
  rintro r w1 ⟨rfl, hb1⟩
  have B1 := hide (below_next B0.out hb1)
  clear f0 f1 f2 f3
  obtain ⟨⟨f0, f1, f2, f3⟩, ff⟩ := F0.out.below hb1
  obtain ⟨⟨g0, g1, g2, g3⟩, gf⟩ := G0.out.below hb1
  have ff3 := ff 3
  have gf0 := gf 0
  have gf1 := gf 1
  have gf2 := gf 2
  have gf3 := gf 3
  clear hb1 ff gf
  have BF := hide (show ∀ y0 y1 y2 y3 : Value, ∀ W : World, Below w.heap.size w W → Below w.heap.size w ((((W.setCell ⟨w.heap.size + 1, 0, none⟩ y0).setCell ⟨w.heap.size + 1, 1, none⟩ y1).setCell ⟨w.heap.size + 1, 2, none⟩ y2).setCell ⟨w.heap.size + 1, 3, none⟩ y3) from fun y0 y1 y2 y3 W hb => (((hb.setCell (p := ⟨w.heap.size + 1, 0, none⟩) (by simp) y0).setCell (p := ⟨w.heap.size + 1, 1, none⟩) (by simp) y1).setCell (p := ⟨w.heap.size + 1, 2, none⟩) (by simp) y2).setCell (p := ⟨w.heap.size + 1, 3, none⟩) (by simp) y3)
  cases hd : dirK e.kind
  · have HE := hide (HT2.out hd)
    clear hd HT HT2
    go_wp2_with fail
    refine bodyPost_ret (v := .agg #[.int .i64 e.size, .slice x e.chunks.length cc, .string (str e.path), .int .i64 e.kind]) (by simp [results, Tryz.results86, go_sem, g0, g1, g2, g3]) rfl ⟨by rw [HE.out], ?_⟩
    exact BF.out _ _ _ _ _ B1.out
  · have HE := hide (HT.out hd)
    clear hd HT HT2
    go_wp2_with fail
    refine bodyPost_ret (v := .agg #[.int .i64 e.size, .slice x e.chunks.length cc, .string (str e.path), .int .i64 2]) (by simp [results, Tryz.results86, go_sem, g0, g1, g2, g3]) rfl ⟨by rw [HE.out], ?_⟩
    exact BF.out _ _ _ _ _ (B1.out.setCell (p := ⟨w.heap.size, 3, none⟩) (Nat.le_refl _) _)
end Go.Proofs.YtebgfaohhhgdpaaGreat

namespace Go.Proofs.YtebgfaohhhgdpaaGreat
open Go.RowKit Go.Maps
set_option linter.unusedVariables false
attribute [local go_sem ↓] Go.wp_at_zero Go.wp_at_succ

def seenL (ls : List (List En)) (p : Bs) : Option Nat := seenG (seeL ls) p 4
theorem seen_some {S : Nat → Bs → Option En} {p : Bs} : ∀ {n k : Nat}, seenG S p n = some k → k < n ∧ ∃ e, S k p = some e ∧ e.kind ≠ 3
  | 0, k, h => by cases h
  | n + 1, k, h => by
    cases hS : S n p with
    | some e =>
      rw [seen_hit hS] at h
      by_cases hk : e.kind = 3
      · rw [if_pos hk] at h; cases h
      · rw [if_neg hk] at h
        cases h
        exact ⟨by omega, e, hS, hk⟩
    | none =>
      cases hh : (above p).any fun q => (S n q).any fun e => !decide (e.kind = 2)
      · rw [seen_down hS hh] at h
        obtain ⟨h1, h2⟩ := seen_some h
        exact ⟨by omega, h2⟩
      · rw [seen_hid hS hh] at h; cases h
def plcC (ls : List (List En)) (p : Bs) : Int := if askL ls p = 0 then (if (seenL ls p).isSome then 0 else 4) else askL ls p
def plcV (ls : List (List En)) (p : Bs) : Int := if askL ls p = 0 then (match seenL ls p with | some n => (n : Int) | none => 0) else 0
def lookL (ls : List (List En)) (p : Bs) : List En := if askL ls p = 0 then (match seenL ls p with | some n => ((seeL ls n p).map asT).toList | none => []) else []
theorem plc_bad {ls : List (List En)} {p : Bs} (h : askL ls p ≠ 0) : plcC ls p = askL ls p ∧ plcV ls p = 0 ∧ lookL ls p = [] := by simp [plcC, plcV, lookL, h]
theorem plc_none {ls : List (List En)} {p : Bs} (h : askL ls p = 0) (hn : seenL ls p = none) : plcC ls p = 4 ∧ plcV ls p = 0 ∧ lookL ls p = [] := by simp [plcC, plcV, lookL, h, hn]
theorem plc_some {ls : List (List En)} {p : Bs} {n : Nat} {e : En} (h : askL ls p = 0) (hn : seenL ls p = some n) (he : seeL ls n p = some e) : plcC ls p = 0 ∧ plcV ls p = n ∧ lookL ls p = [asT e] := by simp [plcC, plcV, lookL, h, hn, he]
theorem seeL_mem {ls : List (List En)} {n : Nat} {p : Bs} {e : En} (h : seeL ls n p = some e) : ∃ es ∈ ls, e ∈ es ∧ e.path = p := by
  unfold seeL at h
  cases hx : ls[n]? with
  | none => rw [hx] at h; cases h
  | some es =>
    rw [hx] at h
    obtain ⟨h1, h2⟩ := find_mem (show findE es p = some e from h)
    exact ⟨es, List.mem_of_getElem? hx, h1, h2⟩
theorem rights_sight {ls : List (List En)} (h : ∀ es ∈ ls, Right es) (hs : SmallL ls) : ∀ es ∈ ls, Rise es ∧ es.length ≤ 12 ∧ SmallE es := fun es he => ⟨(h es he).rise, (h es he).len, (hs es he).2⟩

end Go.Proofs.YtebgfaohhhgdpaaGreat

namespace Go.Proofs.YtebgfaohhhgdpaaGreat
open Go.RowKit Go.Maps
set_option linter.unusedVariables false
attribute [local go_sem ↓] Go.wp_at_zero Go.wp_at_succ

theorem asT_chunks (e : En) : (asT e).chunks = e.chunks := by unfold asT; split <;> rfl

set_option maxRecDepth 100000 in
set_option maxHeartbeats 3200000 in
theorem implLookOver_any (a : Option Addr) (c n : Nat) (ls : List (List En)) (p : Bs) (w : World) (h : RdL w a ls) (hn : n = ls.length) (hl : ls.length ≤ 1048576) (hs : SmallL ls) (hp : p.length ≤ 1048576) :
    Calls Tryz.prog 37 #[.slice a n c, .string (str p)] w (ResE (plcC ls p) (lookL ls p) w) := by
  subst hn
  have X0 := hide (Box.new w (.int .i64 0) (.slice none 0 0) 42)
  have B0 := hide (below_alloc w (.cells #[.int .i64 0, .slice none 0 0] 42))
  have HR := hide h
  have HSL := hide hs
  have HAs := hide (implAskL_any a c ls.length ls p _ (h.below B0.out) rfl hl hs hp)
  clear h hs
  by_cases hz : askL ls p = 0
  · obtain ⟨h4, hRs, hpf⟩ := askL_right hz
    rw [hz] at HAs
    have HRs := hide (rights_sight hRs HSL.out)
    go_enter Tryz.func37, Tryz.ntmps37
    go_wp2_with fail
    refine HAs.out.mono ?_
    rintro r w1 ⟨rfl, hb1⟩
    have B1 := hide (below_next B0.out hb1)
    have X1 := hide (X0.out.below hb1)
    clear hb1 X0 B0 HAs
    go_wp2_with fail
    refine (sightOf_any a c ls.length ls w1 (HR.out.below B1.out) rfl h4 HRs.out).mono ?_
    rintro r w2 ⟨b, N, rfl, hbb, hN, hM, hb2⟩
    have HM := hide hM
    have BB2 := hide hb2
    have B2 := hide (below_next B1.out hb2)
    have X2 := hide (X1.out.below hb2)
    have HSA := hide (seenAt_any b N p (seeL ls) w1 w2 hM hp)
    clear hM hb2
    unfold ResW at HSA
    cases hsn : seenG (seeL ls) p 4 with
    | none =>
      have HC := hide (plc_none hz hsn)
      rw [hsn] at HSA
      clear hz hsn hRs hpf
      go_wp2_with fail
      refine HSA.out.mono ?_
      rintro r w3 ⟨⟨v, s, rfl⟩, hb3⟩
      have B3 := hide (below_next (below_next B2.out hb3) (below_alloc w3 (.cells #[.int .i64 v, .string s] 104)))
      obtain ⟨⟨t0, t1⟩, t2, t3⟩ := X2.out.below (below_next hb3 (below_alloc w3 (.cells #[.int .i64 v, .string s] 104)))
      clear hb3
      go_wp2_with fail
      exact bodyPost_ret (v := .agg #[.int .i64 4, .slice none 0 0]) (by simp [results, Tryz.results37, go_sem, t0, t1]) rfl (by rw [HC.out.1, HC.out.2.2]; exact ResE.bad (Nat.le_refl _) B3.out)
    | some k =>
      obtain ⟨hk4, e, he, -⟩ := seen_some hsn
      have HC := hide (plc_some hz hsn he)
      rw [hsn] at HSA
      obtain ⟨es, hes, hee, -⟩ := seeL_mem he
      have hkk := ent_kinds ((hRs es hes).ent e hee)
      have hsm := (HSL.out es hes).2 e hee
      clear hz hsn hRs hpf hes hee
      go_wp2_with fail
      refine HSA.out.mono ?_
      rintro r w3 ⟨rfl, hb3⟩
      have BA := hide (below_alloc w3 (.cells #[.int .i64 k, .string (str p)] 104))
      have B3 := hide (below_next (below_next B2.out hb3) BA.out)
      have X3 := hide (X2.out.below (below_next hb3 BA.out))
      have BB3 := hide (below_next (below_next BB2.out hb3) BA.out)
      obtain ⟨x, cc, -, hlk, hrd⟩ := ((HM.out.below hb3).below BA.out).yes (by omega : k ≤ 100) hp he
      have HL := hide hlk
      have HRc := hide (hrd.below BB3.out)
      have Y3 := hide (Box.new w3 (.int .i64 k) (.string (str p)) 104)
      unfold spotV
      clear hb3 hlk hrd he HM HSA X2 B2 BB2 BA
      obtain ⟨⟨y0, y1⟩, y2, y3⟩ := Y3.out
      unfold spotV at HL
      go_wp2_with (at_lookup; refine wpList_lookS rfl _ _ 101 false rfl _ _ _ rfl rfl HL.out ?_)
      refine (ofTree_any e x cc _ hkk).mono ?_
      rintro r w4 ⟨rfl, hb4⟩
      have B4 := hide (below_next B3.out hb4)
      have X4 := hide (X3.out.below hb4)
      have BA5 := hide (below_alloc w4 (.cells #[.int .i64 (asT e).size, .slice x (asT e).chunks.length cc, .string (str (asT e).path), .int .i64 (asT e).kind] 66))
      have HR4 := hide (show Reads .i64 w4 x (asT e).chunks by rw [asT_chunks]; exact HRc.out.below hb4)
      have RI5 := hide (RdI.fresh (e := asT e) (c := cc) (t := 66) HR4.out)
      have hsm2 : (asT e).path.length ≤ 1048576 ∧ (asT e).chunks.length ≤ 1048576 := by rw [asT_path, asT_chunks]; exact hsm
      have B5 := hide (below_next B4.out BA5.out)
      have X5 := hide (X4.out.below BA5.out)
      have hs4 := B4.out.size
      have hlt5 : w.heap.size < (w4.alloc (.cells #[.int .i64 (asT e).size, .slice x (asT e).chunks.length cc, .string (str (asT e).path), .int .i64 (asT e).kind] 66)).heap.size := X5.out.1.lt
      clear hb4 y0 y1 y2 y3 Y3 HL HRc HR4 X3 B3 BB3 X4 BA5
      unfold itV
      generalize asT e = E at *
      go_wp2_with fail
      generalize w4.alloc (.cells #[.int .i64 E.size, .slice x E.chunks.length cc, .string (str E.path), .int .i64 E.kind] 66) = W5 at *
      refine (entriesOf_any _ _ 1 [E] _ RI5.out rfl (by simp) (fun y hy => by simp only [List.mem_singleton] at hy; subst hy; exact hsm2)).mono ?_
      rintro r w7 ⟨av7, cv7, rfl, hG7, hb7⟩
      obtain ⟨⟨t0, t1⟩, t2, t3⟩ := X5.out.below hb7
      have G7 := hide hG7
      have B7 := hide (below_next B5.out hb7)
      clear hG7 hb7
      go_wp2_with fail
      exact bodyPost_ret (v := .agg #[.int .i64 0, .slice av7 1 cv7]) (by simp [results, Tryz.results37, go_sem, t0, t1]) rfl (by rw [HC.out.1, HC.out.2.2]; exact ResE.of (w2 := w1) hlt5 (Nat.le_refl _) rfl G7.out B7.out)
  · have HC := hide (plc_bad hz)
    generalize askL ls p = F at *
    have hz2 : (F != 0) = true := by simp; exact hz
    clear hz
    go_enter Tryz.func37, Tryz.ntmps37
    go_wp2_with fail
    refine HAs.out.mono ?_
    rintro r w1 ⟨rfl, hb1⟩
    have B1 := hide (below_next B0.out hb1)
    obtain ⟨⟨t0, t1⟩, t2, t3⟩ := X0.out.below hb1
    clear hb1
    go_wp2_with fail
    exact bodyPost_ret (v := .agg #[.int .i64 F, .slice none 0 0]) (by simp [results, Tryz.results37, go_sem, t0, t1]) rfl (by rw [HC.out.1, HC.out.2.2]; exact ResE.bad (Nat.le_refl _) B1.out)
end Go.Proofs.YtebgfaohhhgdpaaGreat

namespace Go.Proofs.YtebgfaohhhgdpaaGreat
open Go.RowKit Go.Maps
set_option linter.unusedVariables false
attribute [local go_sem ↓] Go.wp_at_zero Go.wp_at_succ

set_option maxRecDepth 100000 in
set_option maxHeartbeats 1600000 in
theorem cloneMap_any (b : Nat) (es : Array MapEntry) (clock : Nat) (w : World) (hb : w.heap[b]? = some (.map es clock)) :
    Calls Tryz.prog 172 #[.map (some b)] w fun e w' => e = .returned (.map (some w.heap.size)) ∧ w' = w.alloc (.map es clock) := by
  have hq := fun w => run_eql_map_nil_sl (P := Tryz.prog) w 101 _ _ (some b) Tryz.underlying101
  go_enter Tryz.func172, Tryz.ntmps172
  go_wp2
  rw [run_callFunc_extern Tryz.func204 (by kernel_rfl) (by kernel_rfl) (by kernel_rfl) (e := Extern.MapsClone.clone) (by kernel_rfl), run_maps_clone_sl w 101 hb]
  simp only [Result.andThen]
  rw [Oper.upon_value]
  go_wp2
  rw [run_typeAssert_map_sl _ 101 _ _ _ _ Tryz.underlying101]
  simp only [Result.andThen]
  rw [Oper.upon_value]
  go_wp2
  go_ret
  exact ⟨rfl, rfl⟩
theorem cloneSee_any (b N : Nat) (S : Nat → Bs → Option En) (w0 w : World) (h : SeeM w0 w b N S) :
    Calls Tryz.prog 172 #[.map (some b)] w fun r w' => r = .returned (.map (some w.heap.size)) ∧ SeeM w0 w' w.heap.size N S ∧ Below w.heap.size w w' := by
  obtain ⟨Dt, A, C, h1, h2⟩ := h
  obtain ⟨es, clock, hb, F, hs, hD⟩ := h1
  refine (cloneMap_any b es clock w hb).mono fun e w' ⟨he, hw⟩ => ?_
  subst hw
  exact ⟨he, ⟨Dt, A, C, ⟨es, clock, (MapKept.heap_alloc w _).1, F, hs, hD⟩, h2⟩, below_alloc _ _⟩
def goneS (S : Nat → Bs → Option En) (i : Nat) (p : Bs) : Bool := !decide (seenG S p 4 = some i)
set_option maxRecDepth 100000 in
set_option maxHeartbeats 3200000 in
theorem seenLit_any (b N i bx : Nat) (p : Bs) (S : Nat → Bs → Option En) (e : En) (x : Option Addr) (cc : Nat) (w0 w : World) (h : SeeM w0 w b N S) (hp : p.length ≤ 1048576) (hx : w.cell? ⟨bx, 0, none⟩ = some (.map (some b))) :
    Calls Tryz.prog 174 (#[spotV i p, itV e x cc] ++ #[.pointer (some ⟨bx, 0, none⟩)]) w fun r w' => r = .returned (.bool (goneS S i p)) ∧ Below w.heap.size w w' := by
  have hbx : bx < w.heap.size := World.block_lt_of_cell? w ⟨bx, 0, none⟩ hx
  have BA := hide (below_alloc w (.cells #[.int .i64 i, .string (str p)] 104))
  have YA := hide (Box.new w (.int .i64 i) (.string (str p)) 104)
  have BB := hide (below_alloc (w.alloc (.cells #[.int .i64 i, .string (str p)] 104)) (.cells #[.int .i64 e.size, .slice x e.chunks.length cc, .string (str e.path), .int .i64 e.kind] 66))
  have B2 := hide (below_next BA.out BB.out)
  have Y2 := hide (YA.out.below BB.out)
  have HS := hide (seenAt_any b N p S w0 _ ((h.below BA.out).below BB.out) hp)
  have hx2 := (B2.out.cell (p := ⟨bx, 0, none⟩) hbx).trans hx
  obtain ⟨⟨y0, y1⟩, y2, y3⟩ := Y2.out
  clear BA YA BB h hx
  unfold spotV itV
  unfold ResW at HS
  cases hs : seenG S p 4 with
  | none =>
    have HG := hide (show goneS S i p = true by simp [goneS, hs])
    rw [hs] at HS
    clear hs
    go_enter Tryz.func174, Tryz.ntmps174
    go_wp2_with fail
    refine HS.out.mono ?_
    rintro r w3 ⟨⟨v, s, rfl⟩, hb3⟩
    have B3 := hide (below_next B2.out (below_next hb3 (below_alloc _ (.cells #[.int .i64 v, .string s] 104))))
    clear hb3 y0 y1 y2 y3
    go_wp2_with fail
    go_ret
    exact ⟨by rw [HG.out]; rfl, B3.out⟩
  | some k =>
    rw [hs] at HS
    have HG := hide (show goneS S i p = !decide (k = i) by simp [goneS, hs])
    clear hs
    unfold spotV at HS
    go_enter Tryz.func174, Tryz.ntmps174
    go_wp2_with fail
    refine HS.out.mono ?_
    rintro r w3 ⟨rfl, hb3⟩
    have BC := hide (below_next hb3 (below_alloc _ (.cells #[.int .i64 k, .string (str p)] 104)))
    have B3 := hide (below_next B2.out BC.out)
    clear y0 y1 y2 y3
    obtain ⟨⟨y0, y1⟩, y2, y3⟩ := Y2.out.below BC.out
    clear hb3
    by_cases hk : k = i
    · subst hk
      have HG2 := hide (show goneS S k p = false by rw [HG.out]; simp)
      go_wp2_with fail
      go_ret
      exact ⟨by rw [HG2.out]; rfl, B3.out⟩
    · have HG2 := hide (show goneS S i p = true by rw [HG.out]; simp [hk])
      have hk2 : ¬ (k : Int) = (i : Int) := by omega
      go_wp2_with fail
      go_ret
      exact ⟨by rw [HG2.out]; rfl, B3.out⟩
def AsksM (W0 : World) (b : Nat) (S : Nat → Bs → Option En) (fn : FuncId) (cap : Array Value) (f : Nat → Bs → Bool) : Prop :=
  (∀ args w, (callFunc fn args).run Tryz.prog w = .ok (.enter fn args) w) ∧ ∀ (i : Nat) (p : Bs) (e : En) (x : Option Addr) (cc : Nat) (w : World), i ≤ 100 → p.length ≤ 1048576 → Kept (fun y => y = b) W0 w →
    Calls Tryz.prog fn (#[spotV i p, itV e x cc] ++ cap) w fun r w' => r = .returned (.bool (f i p)) ∧ Below w.heap.size w w'
theorem key_pred (f : Nat → Bs → Bool) : ∃ pk : Lit → Bool, ∀ i p, i ≤ 100 → p.length ≤ 1048576 → pk (spotK i p) = f i p := by
  refine ⟨fun kl => @decide (∃ i p, i ≤ 100 ∧ p.length ≤ 1048576 ∧ kl = spotK i p ∧ f i p = true) (Classical.propDecidable _), fun i p hi hp => ?_⟩
  rw [Bool.eq_iff_iff, @decide_eq_true_iff _ (Classical.propDecidable _)]
  constructor
  · rintro ⟨j, q, hj, hq, he, hf⟩
    obtain ⟨rfl, rfl⟩ := spotK_inj hi hj hp hq he
    exact hf
  · intro hf; exact ⟨i, p, hi, hp, rfl, hf⟩
theorem drop_has {f : Lit → Bool} {es : List (Lit × DataW Value)} {kl : Lit} : has (Lib.deleteFuncD (fun k _ => f k) (.map es)) kl = (has (.map es) kl && !f kl) := by
  show (es.filter fun p => !f p.1).any (fun p => p.1.sameKey kl) = (es.any (fun p => p.1.sameKey kl) && !f kl)
  induction es with
  | nil => simp
  | cons x r ih =>
    cases hs : x.1.sameKey kl
    · cases hx : f x.1
      · rw [List.filter_cons_of_pos (by simp [hx]), List.any_cons, List.any_cons, hs, ih]; simp
      · rw [List.filter_cons_of_neg (by simp [hx]), List.any_cons, hs, ih]; simp
    · have e := WideAt.sameKey_eq hs
      cases hx : f x.1
      · have h0 : f kl = false := by rw [← e]; exact hx
        rw [List.filter_cons_of_pos (by simp [hx]), List.any_cons, List.any_cons, hs, h0]; simp
      · have h0 : f kl = true := by rw [← e]; exact hx
        rw [List.filter_cons_of_neg (by simp [hx]), ih, List.any_cons, hs, h0]; simp
theorem dropK_at {f : Lit → Bool} {es : List (Lit × DataW Value)} {kl : Lit} (hk : f kl = false) (z : DataW Value) : (Lib.deleteFuncD (fun k _ => f k) (.map es)).atKey kl z = (DataW.map es).atKey kl z := by
  have hfind : (es.filter fun p => !f p.1).find? (fun p => p.1.sameKey kl) = es.find? (fun p => p.1.sameKey kl) := by
    induction es with
    | nil => rfl
    | cons x r ih =>
      cases hs : x.1.sameKey kl
      · cases hx : f x.1
        · rw [List.filter_cons_of_pos (by simp [hx]), List.find?_cons_of_neg (by simp [hs]), List.find?_cons_of_neg (by simp [hs]), ih]
        · rw [List.filter_cons_of_neg (by simp [hx]), List.find?_cons_of_neg (by simp [hs]), ih]
      · have e := WideAt.sameKey_eq hs
        have hx : f x.1 = false := by rw [e]; exact hk
        rw [List.filter_cons_of_pos (by simp [hx]), List.find?_cons_of_pos (by simp [hs]), List.find?_cons_of_pos (by simp [hs])]
  simp only [Lib.deleteFuncD, DataW.atKey, hfind]
theorem at_has {es : List (Lit × DataW Value)} {kl : Lit} {d : DataW Value} (h : ∀ z, (DataW.map es).atKey kl z = d) : ∃ q ∈ es, q.1 = kl := by
  cases hf : es.find? (fun p => p.1.sameKey kl) with
  | some q => exact ⟨q, List.mem_of_find?_eq_some hf, WideAt.sameKey_eq (by simpa using List.find?_some hf)⟩
  | none =>
    have h1 := h .nil
    have h2 := h (.map [])
    simp only [DataW.atKey, hf] at h1 h2
    rw [← h1] at h2; cases h2
theorem grown_below {w w' : World} (h : Below w.heap.size w w') : w.grownBy w' none := ⟨h.os, h.tape, h.output, h.size, fun k hk _ => h.block k hk⟩
theorem see_came {S : Nat → Bs → Option En} {w0 : World} {A : Nat → Bs → Option Addr} {C : Nat → Bs → Nat} {es0 : List (Lit × DataW Value)} {pd : Lit → DataW Value → Bool} {left : Lit → Bool} {x c : Value} {kl : Lit} {yd : DataW Value} {yp : List MemPlace}
    (hap : es0.Pairwise (fun p q => p.1 ≠ q.1)) (h2 : ∀ i p, i ≤ 100 → p.length ≤ 1048576 → has (.map es0) (spotK i p) = (S i p).isSome)
    (h3 : ∀ i p e, i ≤ 100 → p.length ≤ 1048576 → S i p = some e → (∀ z, (DataW.map es0).atKey (spotK i p) z = .held (itV e (A i p) (C i p))) ∧ Reads .i64 w0 (A i p) e.chunks)
    (h4 : ∀ kl, has (.map es0) kl = true → ∃ i p, i ≤ 100 ∧ p.length ≤ 1048576 ∧ kl = spotK i p)
    (hkey : keyOf Tryz.prog 104 x = some kl) (hlx : left kl = true) (hv : RVs c = some (yd, yp)) (hat : ∀ z, (Fk pd es0 left).atKey kl z = yd) :
    ∃ i p e, i ≤ 100 ∧ p.length ≤ 1048576 ∧ kl = spotK i p ∧ x = spotV i p ∧ c = itV e (A i p) (C i p) ∧ S i p = some e := by
  have hk := spotLaw.key hkey
  have hc := at_cameK hap hk hlx hat
  obtain ⟨q, hq, hqk⟩ := at_has (show ∀ z, (DataW.map (es0.filter fun p => !pd p.1 p.2 || left p.1)).atKey kl z = yd from hat)
  have hq0 := (List.mem_filter.1 hq).1
  have hhas : has (.map es0) kl = true := List.any_eq_true.2 ⟨q, hq0, by rw [hqk]; exact WideAt.sameKey_self hk⟩
  obtain ⟨i, p, hi, hp, rfl⟩ := h4 kl hhas
  have hx : x = spotV i p := spotLaw.inj hkey (spot_key hi hp)
  rw [h2 i p hi hp] at hhas
  obtain ⟨e, he⟩ := Option.isSome_iff_exists.1 hhas
  have h5 := (h3 i p e hi hp he).1 .nil
  have h6 := WideAt.atKey_mem (H := Value) (entries := es0) (d := q.2) .nil hk hap (by rw [← hqk]; exact hq0)
  have h7 := hc q hq0 hqk
  rw [h6, h7] at h5
  simp only [RVs, Option.some.injEq, Prod.mk.injEq] at hv
  have h8 := hv.1.trans h5
  simp only [DataW.held.injEq] at h8
  exact ⟨i, p, e, hi, hp, rfl, hx, h8, he⟩
set_option maxRecDepth 100000 in
set_option maxHeartbeats 4000000 in
theorem deleteFunc_any (b N : Nat) (S : Nat → Bs → Option En) (fn : FuncId) (cap : Array Value) (f : Nat → Bs → Bool) (w0 w : World) (h : SeeM w0 w b N S) (hf : AsksM w b S fn cap f) :
    Calls Tryz.prog 173 #[.map (some b), .func (.func fn) #[] cap] w fun r w' => r = .returned (.tuple #[]) ∧ SeeM w0 w' b N (fun i p => if f i p then none else S i p) ∧ Kept (fun x => x = b) w w' := by
  obtain ⟨Dt, A, C, h1, h2, h3, h4⟩ := h
  obtain ⟨pk, hpk⟩ := key_pred f
  obtain ⟨es0, rfl, hap, hkeys⟩ := h1.entries spotLaw
  have hown := h1
  have eg := hf.1
  have HF := hide hf.2
  have H2 := hide h2
  have H3 := hide h3
  have H4 := hide h4
  have HP := hide hpk
  have HEnd := hide (show ∀ w', w'.ownsMap Tryz.prog 104 RVs b N (Lib.deleteFuncD (fun k _ => pk k) (.map es0)) → SeeM w0 w' b N (fun i p => if f i p then none else S i p) from fun w' ho => by
    refine ⟨_, A, C, ho, fun i p hi hp => ?_, fun i p e hi hp he => ?_, fun kl hkl => ?_⟩
    · rw [drop_has, H2.out i p hi hp, HP.out i p hi hp]
      cases hx : f i p <;> simp [hx]
    · have hfi : f i p = false := by
        cases hx : f i p
        · rfl
        · simp [hx] at he
      have hS : S i p = some e := by simpa [hfi] using he
      obtain ⟨g1, g2⟩ := H3.out i p e hi hp hS
      exact ⟨fun z => by rw [dropK_at (by rw [HP.out i p hi hp]; exact hfi)]; exact g1 z, g2⟩
    · rw [drop_has] at hkl
      exact H4.out kl (by simp at hkl; exact hkl.1))
  clear h2 h3 h4 hpk hf h1
  go_enter Tryz.func173, Tryz.ntmps173
  go_wp2_with (first
    | (at_range; refine wpList_range_own _ rfl _ 101 rfl 104 66 spotLaw Tryz.underlying101 RVs b N _ rfl hown ?_; intro w0 hrg0 hg0 hs0)
    | go_in)
  go_frame
  go_loopw [8] (fun _ wr => ∃ (left : Lit → Bool) (cnt : Nat), wr.ranges Tryz.prog 104 RVs b w.heap.size N (Fk (fun k _ => pk k) es0 left) left cnt ∧ w.grownBy wr (some b))
    (fun _ wr => wr.rangeLeft b w.heap.size)
  case atStart => exact ⟨_, _, by rw [Fk_start hkeys]; exact hrg0, hg0.but _⟩
  case round =>
    obtain ⟨left, cnt, hrg, hgw⟩ := hrel
    go_wp2_with (first
      | (at_next; refine wpList_next_ranges _ rfl _ rfl 104 spotLaw RVs id id (fun key _ _ => ⟨key, rfl⟩) (fun v _ _ => ⟨v, rfl⟩) b w.heap.size N _ _ _ rfl hrg ?_ ?_)
      | go_in)
    · intro _ hl0
      go_wp2
      go_end0
      exact ⟨rfl, HEnd.out _ (by rw [← Fk_end hl0]; exact hrg.owns), see_grown hgw⟩
    · intro x c kl yd yp w1 cnt1 hkey hlx hv hat hrg1 hlt hg1 hs1 hen
      obtain ⟨i, p, e, hi, hp, rfl, hx, hcc, he⟩ := see_came hap H2.out H3.out H4.out hkey hlx hv hat
      have hgw1 := hgw.andThen hg1 (fun j hj => by cases hj; exact Or.inl (Nat.le_refl _))
      have hx2 : x = spotV i p := hx
      have hc2 : c = itV e (A i p) (C i p) := hcc
      subst hx2 hc2
      clear hx hcc
      have BA := hide (below_alloc w1 (.cells #[.int .i64 i, .string (str p)] 104))
      have BB := hide (below_alloc (w1.alloc (.cells #[.int .i64 i, .string (str p)] 104)) (.cells #[.int .i64 e.size, .slice (A i p) e.chunks.length (C i p), .string (str e.path), .int .i64 e.kind] 66))
      have BC := hide (below_next BA.out BB.out)
      have YC := hide ((Box.new w1 (.int .i64 i) (.string (str p)) 104).below BB.out)
      have hc := HF.out i p e (A i p) (C i p) _ hi hp (see_grown (hgw1.andThen (grown_below BC.out) (fun j hj => by cases hj)))
      rw [hs1] at YC
      have HPK := hide (HP.out i p hi hp)
      have HHat := hide hat
      have HKy := hide hkey
      unfold spotV itV at hc hen ⊢
      clear BA BB he hat hkey hv
      cases hp2 : f i p
      · rw [hp2] at hc
        have HC := hide hc
        have hpk2 : pk (spotK i p) = false := HPK.out.trans hp2
        clear hc hp2
        go_wp2_with go_in
        refine HC.out.mono ?_
        rintro r w2 ⟨rfl, hb2⟩
        have hg2 := grown_below (below_next BC.out hb2)
        have hrg2 := hrg1.kept hg2 (by simp) (by simp)
        clear hb2 hen
        go_wp2_with go_in
        go_roundw
        case rel => exact ⟨_, cnt1, by rw [← Fk_stays hap (spotLaw.key HKy.out) hlx hpk2 HHat.out]; exact hrg2, hgw1.andThen hg2 (fun j hj => by cases hj)⟩
        case measure => rw [hrg2.left_eq, hrg.left_eq]; exact hlt
      · rw [hp2] at hc
        have HC := hide hc
        have hpk2 : pk (spotK i p) = true := HPK.out.trans hp2
        clear hc hp2
        go_wp2_with go_in
        refine HC.out.mono ?_
        rintro r w2 ⟨rfl, hb2⟩
        have hg2 := grown_below (below_next BC.out hb2)
        have hrg2 := hrg1.kept hg2 (by simp) (by simp)
        obtain ⟨⟨y0, y1⟩, y2, y3⟩ := YC.out.below hb2
        clear hb2 hen
        go_wp2_with (first
          | (at_delete; refine wpList_delete_ranges _ rfl _ _ 101 104 rfl 66 spotLaw Tryz.underlying101 RVs b w.heap.size N _ _ _ rfl hrg2 _ _ rfl HKy.out ?_; intro w3 cnt3 hrg3 hle hturn; go_frame)
          | go_in)
        rw [strike_twice] at hrg3
        go_roundw
        case rel => exact ⟨_, cnt3, by rw [← Fk_struck hap (spotLaw.key HKy.out) hlx hpk2 HHat.out]; exact hrg3, (hgw1.andThen hg2 (fun j hj => by cases hj)).andThen hturn.grown (fun j hj => by cases hj; exact Or.inr rfl)⟩
        case measure => rw [hrg3.left_eq, hrg.left_eq]; omega
end Go.Proofs.YtebgfaohhhgdpaaGreat

namespace Go.Proofs.YtebgfaohhhgdpaaGreat
open Go.RowKit Go.Maps Go.Shelf
set_option linter.unusedVariables false

structure CameS (w0 : World) (S : Nat → Bs → Option En) (left : Lit → Bool) (ss : List ((Nat × Bs) × Rw)) : Prop where
  one : (ss.map Prod.fst).Nodup
  was : ∀ x ∈ ss, x.1.1 ≤ 100 ∧ x.1.2.length ≤ 1048576 ∧ S x.1.1 x.1.2 = some x.2.e ∧ Reads .i64 w0 x.2.a x.2.e.chunks ∧ left (spotK x.1.1 x.1.2) = false
  all : ∀ i p e, i ≤ 100 → p.length ≤ 1048576 → S i p = some e → left (spotK i p) = false → (i, p) ∈ ss.map Prod.fst
theorem CameS.step {w0 : World} {S : Nat → Bs → Option En} {left : Lit → Bool} {ss : List ((Nat × Bs) × Rw)} {i : Nat} {p : Bs} {r : Rw} (h : CameS w0 S left ss) (hi : i ≤ 100) (hp : p.length ≤ 1048576) (hl : left (spotK i p) = true) (hS : S i p = some r.e) (hr : Reads .i64 w0 r.a r.e.chunks) :
    CameS w0 S (fun z => left z && !z.sameKey (spotK i p)) (ss ++ [((i, p), r)]) := by
  have hself : (spotK i p).sameKey (spotK i p) = true := WideAt.sameKey_self (spot_isKey hi hp)
  refine ⟨?_, fun x hx => ?_, fun j q e hj hq he hlf => ?_⟩
  · rw [List.map_append, List.nodup_append]
    refine ⟨h.one, by simp, fun y hy z hz e => ?_⟩
    simp only [List.map_cons, List.map_nil, List.mem_singleton] at hz
    subst hz; subst e
    obtain ⟨x, hx, hxy⟩ := List.mem_map.1 hy
    have := (h.was x hx).2.2.2.2
    rw [hxy, hl] at this; cases this
  · rcases List.mem_append.1 hx with hx | hx
    · obtain ⟨a1, a2, a3, a4, a5⟩ := h.was x hx
      exact ⟨a1, a2, a3, a4, by simp [a5]⟩
    · simp only [List.mem_singleton] at hx
      subst hx
      exact ⟨hi, hp, hS, hr, by simp [hself]⟩
  · rw [List.map_append, List.mem_append]
    cases hl2 : left (spotK j q)
    · exact Or.inl (h.all j q e hj hq he hl2)
    · rw [hl2] at hlf
      have hk := WideAt.sameKey_eq (show (spotK j q).sameKey (spotK i p) = true by simpa using hlf)
      obtain ⟨rfl, rfl⟩ := spotK_inj hj hi hq hp hk
      exact Or.inr (by simp)

set_option maxRecDepth 100000 in
set_option maxHeartbeats 2000000 in
theorem values1_in (F : Fence) (n : Nat) (hF : F.fn 206) (hro : F.round = none) (hn : 1 ≤ n) (l Bm b N : Nat) (S : Nat → Bs → Option En) (w0 : World) (J : List Rw → World → Prop)
    (hY : ∀ pre (r : Rw) W, J pre W → pre.length < N → (∃ i p, S i p = some r.e) → Reads .i64 w0 r.a r.e.chunks → YieldAt F (n - 1) Tryz.prog l #[itV r.e r.a r.c] W fun e W' => e = .returned (.bool true) ∧ J (pre ++ [r]) W' ∧ KeepsWalks W W')
    (W : World) (hJ : AbidesFrom W.heap.size J) (hm : W.cell? ⟨Bm, 0, none⟩ = some (.map (some b))) (hS : SeeM w0 W b N S) (h0 : J [] W) :
    CallsIn F n Tryz.prog 206 #[.func (.yield l) #[] #[], .pointer (some ⟨Bm, 0, none⟩)] W fun e W' => (∃ v, e = .returned v) ∧ ∃ ss : List ((Nat × Bs) × Rw), ss.length ≤ N ∧ CameS w0 S (fun _ => false) ss ∧ J (ss.map Prod.snd) W' := by
  obtain ⟨Dt, A, C, h1, h2, h3, h4⟩ := hS
  obtain ⟨es0, rfl, hap, hkeys⟩ := h1.entries spotLaw
  have hown := h1
  have H2 := hide h2
  have H3 := hide h3
  have H4 := hide h4
  clear h2 h3 h4 h1
  refine callsIn_of_wp Tryz.func206 rfl hF ?_ hro
  simp only [Tryz.ntmps206, List.size_toArray, List.length_cons, List.length_nil, Nat.reduceAdd, Nat.reduceSub, Array.replicate_succ, Array.replicate_zero, List.push_toArray, List.append_toArray, List.nil_append, List.cons_append]
  gi_wp2_with (first
    | (gi_at_range; refine wpListIn_range_own _ rfl _ 101 rfl 104 66 spotLaw Tryz.underlying101 _ b N _ rfl hown ?_; intro v0 hrg0 hg0 hs0)
    | gi_in)
  go_frame
  gi_loopw [7] (fun _ wr => ∃ (left : Lit → Bool) (cnt : Nat) (ss : List ((Nat × Bs) × Rw)), wr.ranges Tryz.prog 104 RVs b W.heap.size N (.map es0) left cnt ∧ ss.length + cnt ≤ N ∧ CameS w0 S (fun z => Maps.has (.map es0) z && left z) ss ∧ J (ss.map Prod.snd) wr)
    (fun _ wr => wr.rangeLeft b W.heap.size)
  case atStart =>
    exact ⟨_, _, [], hrg0, by simpa using hown.size_le, ⟨by simp, fun x hx => by simp at hx, fun i p e hi hp he hl => by
      rw [Bool.and_self, H2.out i p hi hp, he] at hl; cases hl⟩, hJ [] W v0 none h0 hg0 (fun r e => by cases e)⟩
  case round =>
    obtain ⟨left, cnt, ss, hrg, hcs, hC, hJs⟩ := hrel
    gi_wp2_with (first
      | (gi_at_next; refine wpListIn_next_ranges _ rfl _ rfl 104 spotLaw RVs id id (fun key _ _ => ⟨key, rfl⟩) (fun v _ _ => ⟨v, rfl⟩) b W.heap.size N _ _ _ rfl hrg ?_ ?_)
      | gi_in)
    · intro hc0 hl0
      gi_wp2
      go_end0
      refine ⟨⟨_, rfl⟩, ss, by omega, ?_, hJs⟩
      have : (fun z => Maps.has (.map es0) z && left z) = fun _ => false := funext fun z => by simp [hl0 z]
      rw [this] at hC
      exact hC
    · intro x c kl yd yp w2 cnt2 hkey hlk hv hat hrg2 hlt hg2 hs2 hen
      have hFk : Fk (fun _ _ => false) es0 left = .map es0 := by simp [Fk]
      obtain ⟨i, p, e, hi, hp, rfl, hx, hcc, he⟩ := see_came (pd := fun _ _ => false) hap H2.out H3.out H4.out hkey hlk hv (by rw [hFk]; exact hat)
      have hx2 : x = spotV i p := hx
      have hc2 : c = itV e (A i p) (C i p) := hcc
      subst hx2 hc2
      clear hx hcc hFk
      have hrd := (H3.out i p e hi hp he).2
      have hhas : Maps.has (.map es0) (spotK i p) = true := by rw [H2.out i p hi hp, he]; rfl
      have hC2 := hC.step (r := ⟨e, A i p, C i p⟩) hi hp (by rw [hhas, hlk]; rfl) he hrd
      have hJ2 : J (ss.map Prod.snd) w2 := hJ _ wr w2 (some W.heap.size) hJs hg2 (fun r e => by cases e; exact ⟨Nat.le_refl _, hrg.iter_walk⟩)
      have hJ3 := hJ _ w2 (w2.alloc (.cells #[.int .i64 e.size, .slice (A i p) e.chunks.length (C i p), .string (str e.path), .int .i64 e.kind] 66)) none hJ2 (World.grownBy_alloc _ _ _) (fun r e => by cases e)
      have hrg3 := hrg2.kept (World.grownBy_alloc w2 (.cells #[.int .i64 e.size, .slice (A i p) e.chunks.length (C i p), .string (str e.path), .int .i64 e.kind] 66) none) (by simp) (by simp)
      obtain ⟨fn, tmps, assign, body, hy, hR⟩ := hY _ ⟨e, A i p, C i p⟩ _ hJ3 (by rw [List.length_map]; omega) ⟨i, p, he⟩ hrd
      unfold itV at hy hen
      unfold spotV at hen
      unfold itV spotV
      clear hC hJs hJ2 hv hat hkey
      gi_wp2
      refine hR.mono ?_
      rintro e W3 ⟨rfl, hJ3, hk3⟩
      gi_wp2
      have hrg4 := hrg3.of_walks hk3
      go_roundw
      case rel => exact ⟨_, cnt2, ss ++ [((i, p), ⟨_, A i p, C i p⟩)], hrg4, by simp; omega, by simpa [Bool.and_assoc] using hC2, by simpa using hJ3⟩
      case measure => rw [hrg4.left_eq, hrg.left_eq]; exact hlt
end Go.Proofs.YtebgfaohhhgdpaaGreat

namespace Go.Proofs.YtebgfaohhhgdpaaGreat
open Go.RowKit Go.Maps Go.Shelf
set_option linter.unusedVariables false

def loopOf : Option Code → Code × Code
  | some (.seq _ (.seq (.seq _ (.block _ (.rangeFunc _ _ a b))) _)) => (a, b)
  | _ => (.ret, .ret)
def apRecI (cs : Code × Code) (fn : FuncId) (sv : Value) (Bs D : Nat) (st : LoopState) (pend : Option Code) : Loop :=
  { state := st, pending := pend, fn, tmps := #[.slice none 0 0, sv, .pointer (some ⟨Bs, 0, none⟩), undef, .slice none 0 0, undef, sv, undef, undef, undef, undef, undef, undef], params := #[7], assign := cs.1, body := cs.2, defers := D }
structure ApAtI (cs : Code × Code) (w0 : World) (fn : FuncId) (sv : Value) (Bs l D : Nat) (rs : List Rw) (W : World) : Prop where
  box : ∃ v, W.heap[Bs]? = some (.cells #[v] 57 (0, 0)) ∧ W.ownsRow w0.heap.size 66 4 v rs.length (rowI rs) ∧ (v = .slice none 0 0 ↔ rs = [])
  L : W.heap[l]? = some (.loop (apRecI cs fn sv Bs D .ready none))
  K : W.heap[D]? = some (.deferred (some []))
  below : Below w0.heap.size w0 W
theorem ap_abidesI (cs : Code × Code) (w0 : World) (fn : FuncId) (sv : Value) (Bs l D B : Nat) (hB : w0.heap.size ≤ B) : AbidesFrom B (ApAtI cs w0 fn sv Bs l D) := fun s W W' row h hg hrow => by
  have hrow' : ∀ r, row = some r → ∃ o : Obj, W.heap[r]? = some o ∧ o.isWalk = true := fun r e => (hrow r e).2
  obtain ⟨v, hv, hr, hn⟩ := h.box
  exact ⟨⟨v, (grownBy_keeps hg hrow' hv rfl).trans hv, ownsRow_abides_a hr hg hrow', hn⟩, (grownBy_keeps hg hrow' h.L rfl).trans h.L, (grownBy_keeps hg hrow' h.K rfl).trans h.K,
    h.below.grown hg h.below.size (fun k e => Nat.le_trans hB (hrow k e).1)⟩
set_option maxRecDepth 100000 in
set_option maxHeartbeats 4000000 in
theorem apYieldI (cs : Code × Code) (hcs : cs = loopOf Tryz.f217.body) (F : Fence) (m : Nat) (w0 : World) (fn : FuncId) (hfn : F.fn fn) (sv : Value) (Bs l D : Nat) (hBl : Bs ≠ l) (hDl : D ≠ l) (hDB : D ≠ Bs) (h0B : w0.heap.size ≤ Bs) (h0l : w0.heap.size ≤ l)
    (rs : List Rw) (r : Rw) (W : World) (h : ApAtI cs w0 fn sv Bs l D rs W) (hlen : rs.length < 1000) :
    YieldAt F m Tryz.prog l #[itV r.e r.a r.c] W fun e W' => e = .returned (.bool true) ∧ ApAtI cs w0 fn sv Bs l D (rs ++ [r]) W' ∧ KeepsWalks W W' := by
  have hne : 57 ≠ 66 := by decide
  obtain ⟨i0, hi, hz0, hz1, hz2⟩ := info_parts Tryz.infoIt
  have hlW : l < W.heap.size := (Array.getElem?_eq_some_iff.1 h.L).1
  refine ⟨fn, #[.slice none 0 0, sv, .pointer (some ⟨Bs, 0, none⟩), undef, .slice none 0 0, undef, sv, itV r.e r.a r.c, undef, undef, undef, undef, undef], cs.1, cs.2, by simpa [apRecI] using run_yield (P := Tryz.prog) (args := #[itV r.e r.a r.c]) h.L rfl, roundIn_of_wpIn hfn ?_⟩
  have F0 := Box4.new W (.int .i64 r.e.size) (.slice r.a r.e.chunks.length r.c) (.string (str r.e.path)) (.int .i64 r.e.kind) 66
  have hA := ap_abidesI cs w0 fn sv Bs l D w0.heap.size (Nat.le_refl _) rs W (W.alloc (.cells #[.int .i64 r.e.size, .slice r.a r.e.chunks.length r.c, .string (str r.e.path), .int .i64 r.e.kind] 66)) none h (World.grownBy_alloc _ _ _) (fun j e => by cases e)
  have hkA : KeepsWalks W (W.alloc (.cells #[.int .i64 r.e.size, .slice r.a r.e.chunks.length r.c, .string (str r.e.path), .int .i64 r.e.kind] 66)) := KeepsWalks.alloc _ _
  have hsA : W.heap.size < (W.alloc (.cells #[.int .i64 r.e.size, .slice r.a r.e.chunks.length r.c, .string (str r.e.path), .int .i64 r.e.kind] 66)).heap.size := by simp
  obtain ⟨v, hv, hrow, _⟩ := hA.box
  have hl : l < (W.alloc (.cells #[.int .i64 r.e.size, .slice r.a r.e.chunks.length r.c, .string (str r.e.path), .int .i64 r.e.kind] 66)).heap.size := (Array.getElem?_eq_some_iff.1 hA.L).1
  have hbr := run_beginRound (P := Tryz.prog) hA.L rfl
  have hcs2 := hcs
  simp only [loopOf, Tryz.f217] at hcs2
  have hc1 := congrArg Prod.fst hcs2
  have hc2' := congrArg Prod.snd hcs2
  simp only at hc1 hc2'
  rw [hc1, hc2']
  clear hcs hcs2 hc1 hc2'
  unfold itV
  obtain ⟨WA, hWA⟩ : ∃ WA, W.alloc (.cells #[.int .i64 r.e.size, .slice r.a r.e.chunks.length r.c, .string (str r.e.path), .int .i64 r.e.kind] 66) = WA := ⟨_, rfl⟩
  rw [hWA] at hbr F0 hA hkA hsA hrow hv hl
  obtain ⟨W2, hW2⟩ : ∃ W2, WA.putObj l (.loop { apRecI cs fn sv Bs D .ready none with state := .busy }) = W2 := ⟨_, rfl⟩
  rw [hW2] at hbr
  have hg2 : WA.grownBy W2 (some l) := by rw [← hW2]; exact grownBy_putObj_a _ _ _
  have hk2 : KeepsWalks W W2 := hkA.trans (by rw [← hW2]; exact KeepsWalks.putObj _ hA.L rfl)
  have hv2 : W2.heap[Bs]? = some (.cells #[v] 57 (0, 0)) := by rw [← hW2]; exact (World.putObj_heap_other hBl).trans hv
  have hK2 : W2.heap[D]? = some (.deferred (some [])) := by rw [← hW2]; exact (World.putObj_heap_other hDl).trans hA.K
  have hL2 : W2.heap[l]? = some (.loop { apRecI cs fn sv Bs D .ready none with state := .busy }) := by rw [← hW2]; exact World.putObj_heap_same hl
  have hrow2 : W2.ownsRow w0.heap.size 66 4 v rs.length (rowI rs) := hrow.kept hg2 (ownsRow_ne_a hrow hA.L (fun cur e => by first | cases e | exact hne (Obj.cells.inj e).2.1))
  have hb2 : Below w0.heap.size w0 W2 := hA.below.grown hg2 hA.below.size (fun k e => by cases e; exact h0l)
  have hblk : W2.heap[W.heap.size]? = WA.heap[W.heap.size]? := hg2.block _ hsA (fun e => by have := Option.some.inj e; omega)
  obtain ⟨⟨g0, g1, g2, g3⟩, gf⟩ := F0
  have f0 := (World.cell?_of_block (a := ⟨W.heap.size, 0, none⟩) hblk).trans g0
  have f1 := (World.cell?_of_block (a := ⟨W.heap.size, 1, none⟩) hblk).trans g1
  have f2 := (World.cell?_of_block (a := ⟨W.heap.size, 2, none⟩) hblk).trans g2
  have f3 := (World.cell?_of_block (a := ⟨W.heap.size, 3, none⟩) hblk).trans g3
  clear g0 g1 g2 g3 gf hblk
  obtain ⟨hc2, hf2⟩ := cell_of_box_a hv2
  have hBlt : Bs < W2.heap.size := (Array.getElem?_eq_some_iff.1 hv2).1
  have hl2 : l < W2.heap.size := (Array.getElem?_eq_some_iff.1 hL2).1
  have hDlt : D < W2.heap.size := (Array.getElem?_eq_some_iff.1 hK2).1
  have ne_of : ∀ {j : Nat} {o : Obj}, W2.heap[j]? = some o → (∀ cur, o ≠ .cells cur 66 (0, 0)) → some j ≠ v.ownBlock := fun hj hno => by
    rcases ownsRow_ne_a hrow2 hj hno with e | e
    · rw [e]; simp
    · exact fun e' => e e'.symm
  clear hW2
  have hNEWS : ∀ j u, (cellsI r)[j]? = some u → (W2.alloc (.cells #[.int .i64 r.e.size, .slice r.a r.e.chunks.length r.c, .string (str r.e.path), .int .i64 r.e.kind] 66)).cell? ((⟨W2.heap.size, 0, none⟩ : Addr).add j) = some u := fun j u hj => by
    have hj4 : j < 4 := by have := (List.getElem?_eq_some_iff.1 hj).1; exact this
    have : j = 0 ∨ j = 1 ∨ j = 2 ∨ j = 3 := by omega
    rcases this with rfl | rfl | rfl | rfl <;> (simp [cellsI] at hj; subst hj; simp [Addr.add])
  gi_wp2_with (first
    | (gi_at_builtin; refine wpListIn_append_own _ rfl _ _ 57 rfl w0.heap.size 66 i0 (.agg #[.int .i64 0, .slice none 0 0, .string ⟨#[]⟩, .int .i64 0]) 4 56 Tryz.underlying57 hi hz0 hz1 hz2 rfl (by decide) _ _ _ rfl (hrow2.alloc _) ⟨W2.heap.size, 0, none⟩ 1 1 (cellsI r) rfl rfl hNEWS (by intro u hu; exact rowI_one [r] u (by simpa [rowI] using hu)) (by unfold maxLen; omega) (by omega) (by have := hb2.size; simp; omega) ?_; intro v' w3 hown' hg3 hnil3
       have hv3 : w3.heap[Bs]? = some (.cells #[v] 57 (0, 0)) := (hg3.block Bs (by simp; omega) (ne_of hv2 (fun cur e => by first | cases e | exact hne (Obj.cells.inj e).2.1))).trans ((Below.heap_alloc _ _ Bs hBlt).trans hv2)
       obtain ⟨hc3, hf3⟩ := cell_of_box_a hv3
       obtain ⟨g', cap', cur', rfl, hbase', hgb', hr1, hr2, hr3, hr4⟩ : ∃ g' cap' cur', v' = .slice (some ⟨g', 0, none⟩) (rs.length + 1) cap' ∧ w0.heap.size ≤ g' ∧ w3.heap[g']? = some (.cells cur' 66 (0, 0)) ∧ rs.length + 1 ≤ cap' ∧ cap' ≤ maxLen ∧ cur'.size = cap' * 4 ∧ cur'.toList.take ((rs.length + 1) * 4) = rowI rs ++ cellsI r := by
         rcases hown'.2 with ⟨_, h0⟩ | h'
         · exact absurd h0 (by omega)
         · exact h'
       go_frame)
    | gi_round_op_a)
  have hg3' : (W2.alloc (.cells #[.int .i64 r.e.size, .slice r.a r.e.chunks.length r.c, .string (str r.e.path), .int .i64 r.e.kind] 66)).grownBy w3 v.ownBlock := hg3
  have hL3 : w3.heap[l]? = some (.loop { apRecI cs fn sv Bs D .ready none with state := .busy }) := (hg3'.block l (by simp; omega) (ne_of hL2 (fun cur e => by first | cases e | exact hne (Obj.cells.inj e).2.1))).trans ((Below.heap_alloc _ _ l hl2).trans hL2)
  have hK3 : w3.heap[D]? = some (.deferred (some [])) := (hg3'.block D (by simp; omega) (ne_of hK2 (fun cur e => by first | cases e | exact hne (Obj.cells.inj e).2.1))).trans ((Below.heap_alloc _ _ D hDlt).trans hK2)
  obtain ⟨w4, hw4⟩ : ∃ w4, w3.setCell ⟨Bs, 0, none⟩ (.slice (some ⟨g', 0, none⟩) (rs.length + 1) cap') = w4 := ⟨_, rfl⟩
  rw [hw4]
  have hg4 : w3.grownBy w4 (some Bs) := by rw [← hw4]; exact grownBy_setCell0_a _ _ _
  have hv4 : w4.heap[Bs]? = some (.cells #[.slice (some ⟨g', 0, none⟩) (rs.length + 1) cap'] 57 (0, 0)) := by rw [← hw4]; exact heap_setCell_box_a _ hv3
  have hL4 : w4.heap[l]? = some (.loop { apRecI cs fn sv Bs D .ready none with state := .busy }) := (hg4.block l (Array.getElem?_eq_some_iff.1 hL3).1 (fun e => hBl (by cases e; rfl))).trans hL3
  have hK4 : w4.heap[D]? = some (.deferred (some [])) := (hg4.block D (Array.getElem?_eq_some_iff.1 hK3).1 (fun e => hDB (by cases e; rfl))).trans hK3
  have hrow4 := hown'.kept hg4 (ownsRow_ne_a hown' hv3 (fun cur e => by first | cases e | exact hne (Obj.cells.inj e).2.1))
  have hl4 : l < w4.heap.size := (Array.getElem?_eq_some_iff.1 hL4).1
  have hb3 : Below w0.heap.size w0 w3 := (hb2.alloc hb2.size _).grown hg3' (by have := hb2.size; simp; omega) (fun k e => (hrow2.lt k e).1)
  have hb4 : Below w0.heap.size w0 w4 := hb3.grown hg4 hb3.size (fun k e => by cases e; exact h0B)
  have hk4 : KeepsWalks W w4 := ((hk2.trans (KeepsWalks.alloc _ _)).trans (KeepsWalks.of_grownBy hg3' (ownsRow_not_walk_a (hrow2.alloc _)))).trans (by rw [← hw4]; exact KeepsWalks.setCell _ _ _)
  clear hw4
  refine ⟨_, _, run_endRound none hL4, rfl, ⟨⟨_, (World.putObj_heap_other hBl).trans hv4, ?_, by simp⟩, World.putObj_heap_same hl4, (World.putObj_heap_other hDl).trans hK4, hb4.grown (grownBy_putObj_a _ _ _) hb4.size (fun k e => by cases e; exact h0l)⟩, hk4.trans (KeepsWalks.putObj _ hL4 rfl)⟩
  have := hrow4.kept (grownBy_putObj_a w4 l (.loop { { apRecI cs fn sv Bs D .ready none with state := .busy } with state := if (none : Option Code).isNone then .ready else .done, pending := none })) (ownsRow_ne_a hrow4 hL4 (fun cur e => by first | cases e | exact hne (Obj.cells.inj e).2.1))
  simpa [rowI_append, rowI] using this
end Go.Proofs.YtebgfaohhhgdpaaGreat

namespace Go.Proofs.YtebgfaohhhgdpaaGreat
open Go.RowKit Go.Maps
set_option linter.unusedVariables false
attribute [local go_sem ↓] Go.wp_at_zero Go.wp_at_succ

theorem kept_below {w w1 w2 : World} {b B : Nat} (h1 : Below B w w1) (h2 : Kept (fun x => x = b) w1 w2) (hB : B ≤ w1.heap.size) (hb : B ≤ b) : Below B w w2 :=
  ⟨h2.os.trans h1.os, h2.tape.trans h1.tape, h2.output.trans h1.output, Nat.le_trans h1.size h2.size, fun k hk => (h2.block k (by omega) (by omega)).trans (h1.block k hk)⟩
def leftS (S : Nat → Bs → Option En) (i : Nat) (p : Bs) : Option En := if goneS S i p then none else S i p
set_option maxRecDepth 100000 in
set_option maxHeartbeats 3200000 in
theorem seen_any (b N : Nat) (S : Nat → Bs → Option En) (w0 w : World) (h : SeeM w0 w b N S) :
    Calls Tryz.prog 134 #[.map (some b)] w fun r w' => ∃ b2, r = .returned (.map (some b2)) ∧ w.heap.size ≤ b2 ∧ SeeM w0 w' b2 N (leftS S) ∧ Below w.heap.size w w' := by
  have B0 := hide (below_alloc w (.cells #[.map (some b)] 101))
  have hx0 : (w.alloc (.cells #[.map (some b)] 101)).cell? ⟨w.heap.size, 0, none⟩ = some (.map (some b)) := by simp
  have hs0 : (w.alloc (.cells #[.map (some b)] 101)).heap.size = w.heap.size + 1 := by simp
  have HM0 := hide (h.below B0.out)
  have hlt := h.lt
  clear h
  go_enter Tryz.func134, Tryz.ntmps134
  go_wp2_with fail
  generalize w.alloc (.cells #[.map (some b)] 101) = W0 at *
  refine (cloneSee_any b N S w0 W0 HM0.out).mono ?_
  rintro r w1 ⟨rfl, hM1, hb1⟩
  rw [hs0] at hM1
  have M1 := hide hM1
  have MO := hide (HM0.out.below hb1)
  have hx1 := (hb1.cell (p := ⟨w.heap.size, 0, none⟩) (by show w.heap.size < W0.heap.size; omega)).trans hx0
  have B1 := hide (below_next B0.out hb1)
  have hsz := hb1.size
  have hb2lt := hM1.lt
  clear hM1 hb1 HM0 hx0
  have HA := hide (show AsksM w1 (w.heap.size + 1) S 174 #[.pointer (some ⟨w.heap.size, 0, none⟩)] (goneS S) from
    ⟨enters_of Tryz.func174 (by kernel_rfl) rfl, fun i p e x cc W hi hp hk =>
      seenLit_any b N i w.heap.size p S e x cc w0 W (MO.out.kept hk (by omega)) hp ((hk.cell (p := ⟨w.heap.size, 0, none⟩) (by show w.heap.size < w1.heap.size; omega) (by show ¬ w.heap.size = w.heap.size + 1; omega)).trans hx1)⟩)
  have HD := hide (deleteFunc_any (w.heap.size + 1) N S _ _ (goneS S) w0 w1 M1.out HA.out)
  go_wp2_with fail
  refine HD.out.mono ?_
  rintro r w2 ⟨rfl, hM2, hk2⟩
  have M2 := hide hM2
  have B2 := hide (kept_below B1.out hk2 (by omega) (by omega))
  clear hM2 hk2 HD HA M1 MO
  go_wp2_with fail
  go_ret
  exact ⟨_, rfl, by omega, M2.out, B2.out⟩
end Go.Proofs.YtebgfaohhhgdpaaGreat

