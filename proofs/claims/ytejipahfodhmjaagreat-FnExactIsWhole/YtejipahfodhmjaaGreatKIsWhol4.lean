/-
  Texts put together: IteB Bytes Cut Ints EntG EntC EntW EntP IteC LayR Digest IntsR TreL.
-/
import Derived.Test.YtejipahfodhmjaaGreatKIsWhol3
import Derived.Test.YtejipahfodhmjaaGreatKIsWhol1
import Derived.Lib.SliceRun
import Derived.Deep.AppendLies
import Derived.Deep.DrawnRows
import Derived.Test.YtejipahfodhmjaaGreatKIsWhol2
namespace Go.Proofs.YtejipahfodhmjaaGreat
open Go.RowKit
set_option linter.unusedVariables false

theorem hasDir_cons (es : List En) (q : Bs) (k : Nat) {e : En} (h : es[k]? = some e) : hasDir (es.drop k) q = ((decide (e.path = q) && dirK e.kind) || hasDir (es.drop (k + 1)) q) := by
  rw [drop_at h]; simp [hasDir]

set_option maxRecDepth 100000 in
set_option maxHeartbeats 1600000 in
theorem parentFault_any (a : Option Addr) (c n : Nat) (es : List En) (p : Bs) (w : World) (h : RdE w a es) (hn : n = es.length) (hl : es.length ≤ 1048576) (hf : faultP p = 0) (hp : p.length ≤ 1048576) :
    Calls Tryz.prog 167 #[.slice a n c, .string (str p)] w fun r w' => r = .returned (.int .i64 (if homeP es p then 0 else 9)) ∧ Below w.heap.size w w' := by
  subst hn
  have HR := hide h
  clear h
  obtain ⟨F, hF⟩ : ∃ F : Int, F = if homeP es p then 0 else 9 := ⟨_, rfl⟩
  rw [← hF]
  by_cases h0 : parentP p = []
  · have HE := hide (show F = 0 from by rw [hF]; simp [homeP, h0])
    have HP := hide (par_none hf (parentP_nil.1 h0))
    clear h0 hf hF
    go_enter Tryz.func167, Tryz.ntmps167
    go_wp2_with fail
    refine (implParentOf_any _ _ (by rw [str_size]; omega)).mono ?_
    rintro r w1 ⟨rfl, hb1⟩
    rw [str_data, HP.out.1, HP.out.2]
    have HB1 := hide (below_next hb1 (below_alloc w1 (.cells #[.int .i64 4, .string (str [])] 241)))
    clear hb1
    go_wp2_with fail
    go_ret
    exact ⟨ret_int HE.out.symm, HB1.out⟩
  · have HE := hide (show F = if hasDir es (parentP p) then 0 else 9 from by rw [hF]; simp [homeP, h0])
    have HP := hide (par_good hf (fun e => h0 (parentP_nil.2 e)))
    have HQ : Hid (parT p = parentP p) := hide HP.out.2
    clear h0 hf hF
    go_enter Tryz.func167, Tryz.ntmps167
    go_wp2_with fail
    refine (implParentOf_any _ _ (by rw [str_size]; omega)).mono ?_
    rintro r w1 ⟨rfl, hb1⟩
    rw [str_data, HP.out.1, HQ.out]
    generalize parentP p = q at *
    have X1 := hide (Box.new w1 (.int .i64 0) (.string (str q)) 241)
    have HB1 := hide (below_next hb1 (below_alloc w1 (.cells #[.int .i64 0, .string (str q)] 241)))
    clear hb1 HP HQ
    go_wp2_with fail
    generalize w1.alloc (.cells #[.int .i64 0, .string (str q)] 241) = W1 at *
    generalize w1.heap.size = b1 at *
    go_loopw [15] (fun i wr => ∃ k : Nat, k ≤ es.length ∧ i = .int .i64 k ∧ Hid (hasDir es q = hasDir (es.drop k) q) ∧ Hid (Below W1.heap.size W1 wr)) (fun i _ => es.length - (intOf i).toNat)
    case atStart => exact ⟨0, Nat.zero_le _, rfl, hide (by simp), hide (Below.refl _ _)⟩
    case round =>
      obtain ⟨k, hk, rfl, HF, HW⟩ := hrel
      have HR1 := hide (HR.out.below (below_next HB1.out HW.out))
      obtain ⟨⟨t0, t1⟩, t2, t3⟩ := X1.out.below HW.out
      by_cases hlt : k < es.length
      · obtain ⟨b, off, e, x, cc, rfl, hb, he, c0, c1, c2, c3, hr⟩ := HR1.out.at hlt
        have HX := hide he
        clear he hr
        have HF2 := hide (HF.out.trans (hasDir_cons es q k HX.out))
        have hb1w : b1 < wr.heap.size := World.block_lt_of_cell? _ _ t0
        by_cases hq : e.path = q
        · have hs1 := str_yes hq
          cases hd : dirK e.kind
          · have HO := hide (show hasDir es q = hasDir (es.drop (k + 1)) q from by rw [HF2.out]; simp [hd])
            have HD := hide hd
            clear hd hq
            go_wp2_with fail
            refine (itemOf_any _ _ _ _ _ _ _).mono ?_
            rintro r w3 ⟨rfl, hb3⟩
            go_wp2_with fail
            refine (isDir_any _ _ _ _ _ _ _).mono ?_
            rintro r w4 ⟨rfl, hb4⟩
            rw [HD.out]
            have HW4 := hide (below_next HW.out (below_next (below_alloc wr _) (below_next hb3 hb4)))
            clear hb3 hb4
            go_wp2_with fail
            go_roundw
            case rel => exact ⟨k + 1, by omega, by go_num, HO, HW4⟩
            case measure => simp [intOf]; omega
          · have HO := hide (show hasDir es q = true from by rw [HF2.out]; simp [hd, hq])
            have HD := hide hd
            clear hd hq
            go_wp2_with fail
            refine (itemOf_any _ _ _ _ _ _ _).mono ?_
            rintro r w3 ⟨rfl, hb3⟩
            go_wp2_with fail
            refine (isDir_any _ _ _ _ _ _ _).mono ?_
            rintro r w4 ⟨rfl, hb4⟩
            rw [HD.out]
            have HW4 := hide (below_next HW.out (below_next (below_alloc wr _) (below_next hb3 hb4)))
            clear hb3 hb4
            go_wp2_with fail
            go_ret
            exact ⟨ret_int (by rw [HE.out, HO.out]; rfl), below_next HB1.out HW4.out⟩
        · have hs1 := str_no hq
          have HO := hide (show hasDir es q = hasDir (es.drop (k + 1)) q from by rw [HF2.out]; simp [hq])
          clear hq
          go_wp2_with fail
          go_roundw
          case rel => exact ⟨k + 1, by omega, by go_num, HO, hide (below_next HW.out (below_alloc wr _))⟩
          case measure => simp [intOf]; omega
      · have HO := hide (show hasDir es q = false from by rw [HF.out, List.drop_eq_nil_of_le (by omega)]; rfl)
        go_wp2_with fail
        go_ret
        exact ⟨ret_int (by rw [HE.out, HO.out]; rfl), below_next HB1.out HW.out⟩

set_option maxRecDepth 100000 in
set_option maxHeartbeats 1600000 in
theorem entriesFault_any (a : Option Addr) (c n : Nat) (es : List En) (w : World) (h : RdE w a es) (hn : n = es.length) (hl : es.length ≤ 1048576) (hs : SmallE es) :
    Calls Tryz.prog 142 #[.slice a n c] w fun r w' => r = .returned (.int .i64 (layFromH (homeP es) none es)) ∧ Below w.heap.size w w' := by
  subst hn
  obtain ⟨F, hF⟩ : ∃ F : Int, F = layFromH (homeP es) (prevE es 0) (es.drop 0) := ⟨_, rfl⟩
  have e0 : layFromH (homeP es) none es = F := by rw [hF]; simp [prevE]
  rw [e0]
  have HE := hide hF
  have HR := hide h
  have HS := hide hs
  clear h hs e0 hF
  go_enter Tryz.func142, Tryz.ntmps142
  go_wp2_with fail
  go_loopw [9] (fun i wr => ∃ k : Nat, k ≤ es.length ∧ i = .int .i64 k ∧ Hid (F = layFromH (homeP es) (prevE es k) (es.drop k)) ∧ Hid (Below w.heap.size w wr)) (fun i _ => es.length - (intOf i).toNat)
  case atStart => exact ⟨0, Nat.zero_le _, rfl, HE, hide (Below.refl _ _)⟩
  case round =>
    obtain ⟨k, hk, rfl, HF, HW⟩ := hrel
    have HR1 := hide (HR.out.below HW.out)
    by_cases hlt : k < es.length
    · obtain ⟨b, off, e, x, cc, rfl, hb, he, c0, c1, c2, c3, hr⟩ := HR1.out.at hlt
      have HX := hide he
      have HRc := hide (hr.below (below_alloc wr (.cells #[.string (str e.path), .int .i64 e.kind, .int .i64 e.size, .slice x e.chunks.length cc] 40)))
      have hsm := HS.out e (List.mem_of_getElem? he)
      have HN := hide (below_next HW.out (below_alloc wr (.cells #[.string (str e.path), .int .i64 e.kind, .int .i64 e.size, .slice x e.chunks.length cc] 40)))
      have F4 := hide (Four.new wr (.string (str e.path)) (.int .i64 e.kind) (.int .i64 e.size) (.slice x e.chunks.length cc) 40)
      clear he hr
      go_wp2_with fail
      clear c0 c1 c2 c3
      generalize wr.alloc (.cells #[.string (str e.path), .int .i64 e.kind, .int .i64 e.size, .slice x e.chunks.length cc] 40) = W1 at *
      generalize wr.heap.size = b1 at *
      refine (implEntryFault_any e _ _ _ _ HRc.out rfl hsm.1 hsm.2).mono ?_
      rintro r w1 ⟨rfl, hb1⟩
      obtain ⟨f0, f1, f2, f3⟩ := F4.out.below hb1
      have HW1 := hide (below_next HN.out hb1)
      have HR2 := hide (HR.out.below HW1.out)
      clear hb1 HRc F4 HN HR1 HW
      by_cases hz : entFault e = 0
      · have hpz := entFault_zero hz
        have HPZ := hide hpz
        have HZ := hide hz
        rw [hz]
        clear hz hpz
        cases k with
        | zero =>
          have HL := hide (show lowE (prevE es 0) e = false from rfl)
          go_wp2_with fail
          go_quiet (fail)
          go_wp2_with fail
          have HW2 := hide (below_drewN HW1.out nq)
          have HR3 := hide (HR2.out.below (below_drewN (Below.refl w1.heap.size w1) nq))
          clear HW1 HR2
          generalize w1.drewN nq = W at *
          refine (parentFault_any _ c es.length es e.path W HR3.out rfl hl HPZ.out hsm.1).mono ?_
          rintro r w4 ⟨rfl, hb4⟩
          have HW3 := hide (below_next HW2.out hb4)
          clear hb4
          cases hh : homeP es e.path
          · have HO := hide (layH_home HF.out HX.out HZ.out HL.out hh)
            clear hh
            go_wp2_with fail
            go_ret
            exact ⟨ret_int HO.out.symm, HW3.out⟩
          · have HO := hide (layH_next HF.out HX.out HZ.out HL.out hh)
            clear hh
            go_wp2_with fail
            go_roundw
            case rel => exact ⟨1, by omega, by go_num, HO, HW3⟩
            case measure => simp [intOf]; omega
        | succ j =>
          have hg : (0 : Int) < ((j + 1 : Nat) : Int) := by omega
          obtain ⟨b2, off2, e2, x2, cc2, hbb, hb2, he2, d0, d1, d2, d3, hr2⟩ := HR2.out.at (show j < es.length by omega)
          simp only [Option.some.injEq, Addr.mk.injEq, and_true] at hbb
          obtain ⟨rfl, rfl⟩ := hbb
          have HL := hide (show lowE (prevE es (j + 1)) e = (Op.bytesLess e.path e2.path || (e.path == e2.path)) from by simp [prevE, lowE, he2])
          clear he2 d1 d2 d3 hr2
          cases hlow : (Op.bytesLess (str e.path).toList (str e2.path).toList || ((str e.path).toList == (str e2.path).toList))
          · have HL2 := hide (show lowE (prevE es (j + 1)) e = false from by rw [HL.out]; rw [str_toList, str_toList] at hlow; exact hlow)
            go_wp2_with fail
            go_quiet (fail)
            go_wp2_with fail
            have HW2 := hide (below_drewN HW1.out nq)
            have HR3 := hide (HR2.out.below (below_drewN (Below.refl w1.heap.size w1) nq))
            clear HW1 HR2
            generalize w1.drewN nq = W at *
            refine (parentFault_any _ c es.length es e.path W HR3.out rfl hl HPZ.out hsm.1).mono ?_
            rintro r w4 ⟨rfl, hb4⟩
            have HW3 := hide (below_next HW2.out hb4)
            clear hb4
            cases hh : homeP es e.path
            · have HO := hide (layH_home HF.out HX.out HZ.out HL2.out hh)
              clear hh
              go_wp2_with fail
              go_ret
              exact ⟨ret_int HO.out.symm, HW3.out⟩
            · have HO := hide (layH_next HF.out HX.out HZ.out HL2.out hh)
              clear hh
              go_wp2_with fail
              go_roundw
              case rel => exact ⟨j + 1 + 1, by omega, by go_num, HO, HW3⟩
              case measure => simp [intOf]; omega
          · have HL2 := hide (show lowE (prevE es (j + 1)) e = true from by rw [HL.out]; rw [str_toList, str_toList] at hlow; exact hlow)
            have HO := hide (layH_low HF.out HX.out HZ.out HL2.out)
            go_wp2_with fail
            go_quiet (fail)
            go_wp2_with fail
            go_ret
            exact ⟨ret_int HO.out.symm, below_drewN HW1.out _⟩
      · have HZ := hide (layH_bad HF.out HX.out hz)
        have hz2 : (entFault e != 0) = true := by simp; exact hz
        clear hz
        go_wp2_with fail
        go_ret
        exact ⟨ret_int HZ.out.symm, HW1.out⟩
    · have HZ := hide (layH_end HF.out (by omega))
      go_wp2_with fail
      go_ret
      exact ⟨ret_int HZ.out.symm, HW.out⟩

set_option maxRecDepth 100000 in
theorem implLayerFault_any (a : Option Addr) (c n : Nat) (es : List En) (w : World) (h : RdE w a es) (hn : n = es.length) (hl : es.length ≤ 1048576) (hs : SmallE es) :
    Calls Tryz.prog 104 #[.slice a n c] w fun r w' => r = .returned (.int .i64 (layFaultP es)) ∧ Below w.heap.size w w' := by
  subst hn
  by_cases hm : 12 < es.length
  · have HE := hide (layFaultP_many hm)
    have hm2 : (12 : Int) < (es.length : Int) := by omega
    clear h hs
    go_enter Tryz.func104, Tryz.ntmps104
    go_wp2_with fail
    go_ret
    exact ⟨ret_int HE.out.symm, Below.refl _ _⟩
  · have HE : Hid (layFaultP es = layFromH (homeP es) none es) := hide (by simp [layFaultP, hm])
    have hm2 : ¬ (12 : Int) < (es.length : Int) := by omega
    have HF := hide (entriesFault_any a c es.length es w h rfl hl hs)
    clear h hs hm
    generalize layFaultP es = F at HE ⊢
    go_enter Tryz.func104, Tryz.ntmps104
    go_wp2_with fail
    refine HF.out.mono ?_
    rintro r w1 ⟨rfl, hb⟩
    have HB := hide hb
    clear hb
    go_wp2_with fail
    go_ret
    exact ⟨ret_int HE.out.symm, HB.out⟩

end Go.Proofs.YtejipahfodhmjaaGreat

namespace Go.Proofs.YtejipahfodhmjaaGreat
open Go.RowKit
set_option linter.unusedVariables false

theorem Tryz.infoU8 : (Tryz.prog.info? 5).map (fun i => (i.zero, i.size, i.bytes)) = some (some (.int .u8 0), 1, 1) := by kernel_rfl

set_option maxHeartbeats 400000 in
theorem toByteS_any (a : Option Addr) (cap : Nat) (zs : List Int) (w : World) (h : Reads .u8 w a zs) (hl : zs.length ≤ 1048576) :
    Calls Tryz.prog 111 #[.slice a zs.length cap] w fun e w' => e = .returned (.slice (some ⟨w.heap.size, 0, none⟩) zs.length zs.length) ∧
      w'.rowIs w.heap.size 5 zs.length (fun i => .int .u8 (zs.getD i 0)) ∧ Below w.heap.size w w' := by
  have hmk := run_make_row' (P := Tryz.prog) 22 5 (.int .u8 0) 1 Tryz.underlying22 Tryz.infoU8 rfl .i64 .i64 zs.length (by omega) (by omega)
  go_enter Tryz.func111, Tryz.ntmps111
  go_wp2
  go_loopw [4] (fun i wr => ∃ k : Nat, k ≤ zs.length ∧ i = .int .i64 k ∧ wr.rowIs w.heap.size 5 zs.length (fun j => if j < k then .int .u8 (zs.getD j 0) else .int .u8 0) ∧ Below w.heap.size w wr) (fun i _ => zs.length - (intOf i).toNat)
  case atStart => exact ⟨0, Nat.zero_le _, rfl, (World.rowIs_made w _ _ _).congr (by simp), (Below.refl _ _).alloc (Nat.le_refl _) _⟩
  case round =>
    obtain ⟨k, hk, rfl, hrow, hbel⟩ := hrel
    by_cases hlt : k < zs.length
    · obtain ⟨b, off, rfl, hb, hc⟩ := h (by intro e; simp [e] at hlt)
      obtain ⟨z, hz⟩ : ∃ z, z = zs.getD k 0 := ⟨_, rfl⟩
      have hc1 : wr.cell? ⟨b, off + k, none⟩ = some (.int .u8 z) := (hbel.cell (p := ⟨b, off + k, none⟩) hb).trans (by rw [hz]; exact hc k hlt)
      have hf : wr.frozen? ⟨w.heap.size, k, none⟩ = false := hrow.frozen k
      have hc0 : wr.cell? ⟨w.heap.size, k, none⟩ = some (.int .u8 0) := by rw [hrow.cell hlt, if_neg (by omega)]
      have HZ := hide hz
      clear hz
      have HR := hide hrow
      have HB := hide hbel
      have HC := hide hc
      clear hrow hbel hc h
      go_wp2
      go_roundw
      case rel => exact ⟨k + 1, by omega, by go_num, by rw [HZ.out]; exact row_step (f := fun j => .int .u8 (zs.getD j 0)) (z := fun _ => .int .u8 0) HR.out, HB.out.setCell (Nat.le_refl _) _⟩
      case measure => simp [intOf]; omega
    · go_wp2
      go_ret
      exact ⟨rfl, hrow.congr (fun i hi => by rw [if_pos (by omega)]), hbel⟩


set_option maxHeartbeats 400000 in
theorem eqByteS_any (a b : Option Addr) (ca cb : Nat) (xs ys : List Int) (w : World) (ha : Reads .u8 w a xs) (hb : Reads .u8 w b ys) (hl : xs.length ≤ 1048576) (hl2 : ys.length ≤ 1048576) :
    Calls Tryz.prog 113 #[.slice a xs.length ca, .slice b ys.length cb] w fun e w' => e = .returned (.bool (xs == ys)) ∧ ∃ n, w' = w.drewN n := by
  by_cases hlen : xs.length = ys.length
  · have hne : ((xs.length : Int) != (ys.length : Int)) = false := by simp [hlen]
    go_enter Tryz.func113, Tryz.ntmps113
    go_wp2
    go_loopw [5] (fun i wr => ∃ k : Nat, k ≤ xs.length ∧ i = .int .i64 k ∧ xs.take k = ys.take k ∧ ∃ n, wr = w.drewN n) (fun i _ => xs.length - (intOf i).toNat)
    case atStart => exact ⟨0, Nat.zero_le _, rfl, rfl, 0, rfl⟩
    case round =>
      obtain ⟨k, hk, rfl, htk, n, rfl⟩ := hrel
      have HT := hide htk
      clear htk
      by_cases hlt : k < xs.length
      · obtain ⟨b1, o1, rfl, hb1, hc1⟩ := ha (by intro e; simp [e] at hlt)
        obtain ⟨b2, o2, rfl, hb2, hc2⟩ := hb (by intro e; rw [e] at hlen; simp at hlen; simp [hlen] at hlt)
        obtain ⟨x, hx⟩ : ∃ x, x = xs.getD k 0 := ⟨_, rfl⟩
        obtain ⟨y, hy⟩ : ∃ y, y = ys.getD k 0 := ⟨_, rfl⟩
        have c1 : w.cell? ⟨b1, o1 + k, none⟩ = some (.int .u8 x) := by rw [hx]; exact hc1 k hlt
        have c2 : w.cell? ⟨b2, o2 + k, none⟩ = some (.int .u8 y) := by rw [hy]; exact hc2 k (by omega)
        have HX := hide hx
        have HY := hide hy
        clear hc1 hc2 ha hb hx hy
        have hk2 : k < ys.length := by omega
        by_cases heq : x = y
        · have hb : (x != y) = false := by simp [heq]
          have HE := hide heq
          clear heq
          go_wp2
          go_quiet (fail)
          go_wp2
          go_roundw
          case rel => exact ⟨k + 1, by omega, by go_num, take_eq_step hlt hk2 HT.out (by rw [← HX.out, ← HY.out]; exact HE.out), _, rfl⟩
          case measure => simp [intOf]; omega
        · have hb : (x != y) = true := by simp [heq]
          go_wp2
          go_quiet (fail)
          go_wp2
          go_ret
          exact ⟨ret_bool (ne_of_getD (k := k) (by rw [← HX.out, ← HY.out]; exact heq)).symm, _, World.drewN_drewN _ _ _⟩
      · go_wp2
        go_ret
        exact ⟨ret_bool (eq_of_take (k := k) (by omega) (by omega) HT.out).symm, _, rfl⟩
  · have hne : ((xs.length : Int) != (ys.length : Int)) = true := by simp; omega
    go_enter Tryz.func113, Tryz.ntmps113
    go_wp2
    go_ret
    have e : (xs == ys) = false := by simp; intro e; exact hlen (by rw [e])
    exact ⟨ret_bool e.symm, 0, rfl⟩


theorem toByteS_own (a : Option Addr) (cap : Nat) (zs : List Int) (w : World) (h : Reads .u8 w a zs) (hl : zs.length ≤ 1048576) :
    Calls Tryz.prog 111 #[.slice a zs.length cap] w fun e w' => ∃ g, e = .returned (.slice (some ⟨g, 0, none⟩) zs.length zs.length) ∧ w.heap.size ≤ g ∧ w'.ownsRow w.heap.size 5 1 (.slice (some ⟨g, 0, none⟩) zs.length zs.length) zs.length (zs.map (Value.int .u8)) ∧ Below w.heap.size w w' := by
  refine (toByteS_any a cap zs w h hl).mono ?_
  rintro e w' ⟨rfl, hr, hb⟩
  exact ⟨_, rfl, Nat.le_refl _, ownsRow_of_row hr (Nat.le_refl _) (by unfold maxLen; omega), hb⟩

theorem eqByteS_b (a b : Option Addr) (ca cb : Nat) (xs : List Int) (w : World) (ha : Reads .u8 w a xs) (hb : Reads .u8 w b xs) (hl : xs.length ≤ 1048576) :
    Calls Tryz.prog 113 #[.slice a xs.length ca, .slice b xs.length cb] w fun e w' => e = .returned (.bool true) ∧ Below w.heap.size w w' := by
  refine (eqByteS_any a b ca cb xs xs w ha hb hl hl).mono ?_
  rintro e w' ⟨rfl, m, rfl⟩
  exact ⟨ret_bool (by simp), below_drewN (Below.refl _ _) m⟩

end Go.Proofs.YtejipahfodhmjaaGreat

namespace Go.Proofs.YtejipahfodhmjaaGreat
open Go.RowKit
set_option linter.unusedVariables false

theorem reads_news {w : World} {b off : Nat} {zs : List Int} {k : IntKind} (hc : ∀ i, i < zs.length → w.cell? ⟨b, off + i, none⟩ = some (.int k (zs.getD i 0))) :
    ∀ j u, (zs.map (Value.int k))[j]? = some u → w.cell? ((⟨b, off, none⟩ : Addr).add j) = some u := by
  intro j u hj
  have hadd : (⟨b, off, none⟩ : Addr).add j = ⟨b, off + j, none⟩ := by unfold Addr.add; split <;> simp_all
  have hjl : j < zs.length := by
    rcases Nat.lt_or_ge j zs.length with h | h
    · exact h
    · rw [List.getElem?_eq_none (by simpa using h)] at hj; simp at hj
  rw [hadd, hc j hjl]
  simp [hjl] at hj
  simp [List.getD_eq_getElem?_getD, hjl, hj]

theorem ints_one (k : IntKind) (zs : List Int) : ∀ u ∈ zs.map (Value.int k), u.oneCell' = true := by
  intro u hu
  obtain ⟨z, _, rfl⟩ := List.mem_map.1 hu
  rfl

def piece (zs : List Int) (i : Nat) : List Int := (zs.drop (8 * i)).take 8
def cut (zs : List Int) : List (List Int) := (List.range ((zs.length + 7) / 8)).map (piece zs)
end Go.Proofs.YtejipahfodhmjaaGreat

namespace Go.Proofs.YtejipahfodhmjaaGreat
open Go.RowKit
set_option linter.unusedVariables false

theorem Tryz.infoI64 : (Tryz.prog.info? 2).map (fun i => (i.zero, i.size, i.bytes)) = some (some (.int .i64 0), 1, 8) := by kernel_rfl

set_option maxHeartbeats 400000 in
theorem eqInt64S_any (a b : Option Addr) (ca cb : Nat) (xs ys : List Int) (w : World) (ha : Reads .i64 w a xs) (hb : Reads .i64 w b ys) (hl : xs.length ≤ 1048576) (hl2 : ys.length ≤ 1048576) :
    Calls Tryz.prog 148 #[.slice a xs.length ca, .slice b ys.length cb] w fun e w' => e = .returned (.bool (xs == ys)) ∧ ∃ n, w' = w.drewN n := by
  by_cases hlen : xs.length = ys.length
  · have hne : ((xs.length : Int) != (ys.length : Int)) = false := by simp [hlen]
    go_enter Tryz.func148, Tryz.ntmps148
    go_wp2
    go_loopw [5] (fun i wr => ∃ k : Nat, k ≤ xs.length ∧ i = .int .i64 k ∧ xs.take k = ys.take k ∧ ∃ n, wr = w.drewN n) (fun i _ => xs.length - (intOf i).toNat)
    case atStart => exact ⟨0, Nat.zero_le _, rfl, rfl, 0, rfl⟩
    case round =>
      obtain ⟨k, hk, rfl, htk, n, rfl⟩ := hrel
      have HT := hide htk
      clear htk
      by_cases hlt : k < xs.length
      · obtain ⟨b1, o1, rfl, hb1, hc1⟩ := ha (by intro e; simp [e] at hlt)
        obtain ⟨b2, o2, rfl, hb2, hc2⟩ := hb (by intro e; rw [e] at hlen; simp at hlen; simp [hlen] at hlt)
        obtain ⟨x, hx⟩ : ∃ x, x = xs.getD k 0 := ⟨_, rfl⟩
        obtain ⟨y, hy⟩ : ∃ y, y = ys.getD k 0 := ⟨_, rfl⟩
        have c1 : w.cell? ⟨b1, o1 + k, none⟩ = some (.int .i64 x) := by rw [hx]; exact hc1 k hlt
        have c2 : w.cell? ⟨b2, o2 + k, none⟩ = some (.int .i64 y) := by rw [hy]; exact hc2 k (by omega)
        have HX := hide hx
        have HY := hide hy
        clear hc1 hc2 ha hb hx hy
        have hk2 : k < ys.length := by omega
        by_cases heq : x = y
        · have hb : (x != y) = false := by simp [heq]
          have HE := hide heq
          clear heq
          go_wp2
          go_quiet (fail)
          go_wp2
          go_roundw
          case rel => exact ⟨k + 1, by omega, by go_num, take_eq_step hlt hk2 HT.out (by rw [← HX.out, ← HY.out]; exact HE.out), _, rfl⟩
          case measure => simp [intOf]; omega
        · have hb : (x != y) = true := by simp [heq]
          go_wp2
          go_quiet (fail)
          go_wp2
          go_ret
          exact ⟨ret_bool (ne_of_getD (k := k) (by rw [← HX.out, ← HY.out]; exact heq)).symm, _, World.drewN_drewN _ _ _⟩
      · go_wp2
        go_ret
        exact ⟨ret_bool (eq_of_take (k := k) (by omega) (by omega) HT.out).symm, _, rfl⟩
  · have hne : ((xs.length : Int) != (ys.length : Int)) = true := by simp; omega
    go_enter Tryz.func148, Tryz.ntmps148
    go_wp2
    go_ret
    have e : (xs == ys) = false := by simp; intro e; exact hlen (by rw [e])
    exact ⟨ret_bool e.symm, 0, rfl⟩



theorem eqInt64S_b (a b : Option Addr) (ca cb : Nat) (xs : List Int) (w : World) (ha : Reads .i64 w a xs) (hb : Reads .i64 w b xs) (hl : xs.length ≤ 1048576) :
    Calls Tryz.prog 148 #[.slice a xs.length ca, .slice b xs.length cb] w fun e w' => e = .returned (.bool true) ∧ Below w.heap.size w w' := by
  refine (eqInt64S_any a b ca cb xs xs w ha hb hl hl).mono ?_
  rintro e w' ⟨rfl, m, rfl⟩
  exact ⟨ret_bool (by simp), below_drewN (Below.refl _ _) m⟩


set_option maxHeartbeats 400000 in
theorem toInt64S_any (a : Option Addr) (cap : Nat) (zs : List Int) (w : World) (h : Reads .i64 w a zs) (hl : zs.length ≤ 1048576) :
    Calls Tryz.prog 147 #[.slice a zs.length cap] w fun e w' => e = .returned (.slice (some ⟨w.heap.size, 0, none⟩) zs.length zs.length) ∧
      w'.rowIs w.heap.size 2 zs.length (fun i => .int .i64 (zs.getD i 0)) ∧ Below w.heap.size w w' := by
  have hmk := run_make_row' (P := Tryz.prog) 31 2 (.int .i64 0) 8 Tryz.underlying31 Tryz.infoI64 rfl .i64 .i64 zs.length (by omega) (by omega)
  go_enter Tryz.func147, Tryz.ntmps147
  go_wp2
  go_loopw [4] (fun i wr => ∃ k : Nat, k ≤ zs.length ∧ i = .int .i64 k ∧ wr.rowIs w.heap.size 2 zs.length (fun j => if j < k then .int .i64 (zs.getD j 0) else .int .i64 0) ∧ Below w.heap.size w wr) (fun i _ => zs.length - (intOf i).toNat)
  case atStart => exact ⟨0, Nat.zero_le _, rfl, (World.rowIs_made w _ _ _).congr (by simp), (Below.refl _ _).alloc (Nat.le_refl _) _⟩
  case round =>
    obtain ⟨k, hk, rfl, hrow, hbel⟩ := hrel
    by_cases hlt : k < zs.length
    · obtain ⟨b, off, rfl, hb, hc⟩ := h (by intro e; simp [e] at hlt)
      obtain ⟨z, hz⟩ : ∃ z, z = zs.getD k 0 := ⟨_, rfl⟩
      have hc1 : wr.cell? ⟨b, off + k, none⟩ = some (.int .i64 z) := (hbel.cell (p := ⟨b, off + k, none⟩) hb).trans (by rw [hz]; exact hc k hlt)
      have hf : wr.frozen? ⟨w.heap.size, k, none⟩ = false := hrow.frozen k
      have hc0 : wr.cell? ⟨w.heap.size, k, none⟩ = some (.int .i64 0) := by rw [hrow.cell hlt, if_neg (by omega)]
      have HZ := hide hz
      clear hz
      have HR := hide hrow
      have HB := hide hbel
      have HC := hide hc
      clear hrow hbel hc h
      go_wp2
      go_roundw
      case rel => exact ⟨k + 1, by omega, by go_num, by rw [HZ.out]; exact row_step (f := fun j => .int .i64 (zs.getD j 0)) (z := fun _ => .int .i64 0) HR.out, HB.out.setCell (Nat.le_refl _) _⟩
      case measure => simp [intOf]; omega
    · go_wp2
      go_ret
      exact ⟨rfl, hrow.congr (fun i hi => by rw [if_pos (by omega)]), hbel⟩


end Go.Proofs.YtejipahfodhmjaaGreat

namespace Go.Proofs.YtejipahfodhmjaaGreat
open Go.RowKit Go.Maps
set_option linter.unusedVariables false

theorem Tryz.infoEn : (Tryz.prog.info? 40).map (fun i => (i.zero, i.size, i.bytes)) = some (some (.agg #[.string ⟨#[]⟩, .int .i64 0, .int .i64 0, .slice none 0 0]), 4, 56) := by kernel_rfl

structure Rw where
  e : En
  a : Option Addr
  c : Nat
def cellsR (r : Rw) : List Value := [.string (str r.e.path), .int .i64 r.e.kind, .int .i64 r.e.size, .slice r.a r.e.chunks.length r.c]
def rowR (rs : List Rw) : List Value := rs.flatMap cellsR
theorem rowR_length : ∀ rs : List Rw, (rowR rs).length = rs.length * 4
  | [] => rfl
  | r :: rs => by
    have := rowR_length rs
    simp only [rowR, List.flatMap_cons, List.length_append, List.length_cons] at this ⊢
    rw [this]; simp [cellsR]; omega
theorem rowR_get : ∀ (rs : List Rw) (i q : Nat) (r : Rw), rs[i]? = some r → q < 4 → (rowR rs)[i * 4 + q]? = (cellsR r)[q]?
  | [], i, q, r, h, _ => by simp at h
  | x :: rs, 0, q, r, h, hq => by
    simp only [List.getElem?_cons_zero, Option.some.injEq] at h
    subst h
    simp only [rowR, List.flatMap_cons, Nat.zero_mul, Nat.zero_add]
    rw [List.getElem?_append_left (by simp [cellsR]; omega)]
  | x :: rs, i + 1, q, r, h, hq => by
    have := rowR_get rs i q r (by simpa using h) hq
    rw [← this]
    simp only [rowR, List.flatMap_cons]
    rw [List.getElem?_append_right (by simp [cellsR]; omega)]
    congr 1
    simp [cellsR]; omega
def SE (B : Nat) (w : World) (v : Value) (es : List En) : Prop :=
  ∃ rs : List Rw, rs.map Rw.e = es ∧ w.ownsRow B 40 4 v es.length (rowR rs) ∧ ∀ r ∈ rs, Reads .i64 w r.a r.e.chunks
def GE (B T : Nat) (w : World) (v : Value) (es : List En) : Prop :=
  ∃ rs : List Rw, rs.map Rw.e = es ∧ w.ownsRow B 40 4 v es.length (rowR rs) ∧
    (∀ r ∈ rs, w.ownsRow B 2 1 (.slice r.a r.e.chunks.length r.c) r.e.chunks.length (r.e.chunks.map (Value.int .i64))) ∧
    rs.Pairwise (fun r r' => ∀ g, r.a.map Addr.block = some g → r'.a.map Addr.block ≠ some g) ∧
    (∀ r ∈ rs, ∀ g, r.a.map Addr.block = some g → g < T) ∧ ∀ b, v.ownBlock = some b → b < T

theorem ownInts_reads {w : World} {B : Nat} {e : TypeId} {k : IntKind} {a : Option Addr} {n c : Nat} {zs : List Int} (h : w.ownsRow B e 1 (.slice a n c) n (zs.map (Value.int k))) (hn : n = zs.length) : Reads k w a zs := by
  intro hz
  have h0 : 0 < n := by rw [hn]; exact List.length_pos_iff.2 hz
  obtain ⟨g, cap, hv, hg, hgl, hc, hf⟩ := ownsRow_ints h hn h0
  simp only [Value.slice.injEq, true_and] at hv
  exact ⟨g, 0, hv.1, hgl, fun i hi => by rw [Nat.zero_add]; exact hc i (by omega)⟩
theorem GE.se {B T : Nat} {w : World} {v : Value} {es : List En} (h : GE B T w v es) : SE B w v es := by
  obtain ⟨rs, e, h1, h2, _⟩ := h
  exact ⟨rs, e, h1, fun r hr => ownInts_reads (h2 r hr) rfl⟩
theorem SE.rd {B : Nat} {w : World} {a : Option Addr} {n c : Nat} {es : List En} (h : SE B w (.slice a n c) es) : RdE w a es := by
  intro hz
  obtain ⟨rs, he, h1, h2⟩ := h
  have h0 : 0 < es.length := List.length_pos_iff.2 hz
  have hl : rs.length = es.length := by rw [← he, List.length_map]
  rcases h1.2 with ⟨_, h0'⟩ | ⟨g, cap, cur, h', hb, hh, hnc, hcm, hcs, htake⟩
  · omega
  · simp only [Value.slice.injEq] at h'
    obtain ⟨rfl, rfl, rfl⟩ := h'
    refine ⟨g, 0, fun i => (rs[i]?.map Rw.a).getD none, fun i => (rs[i]?.map Rw.c).getD 0, rfl, (h1.lt g rfl).2, fun i e hi => ?_⟩
    have hi0 : i < es.length := (List.getElem?_eq_some_iff.1 hi).1
    obtain ⟨r, hr⟩ : ∃ r, rs[i]? = some r := ⟨rs[i]'(by omega), List.getElem?_eq_getElem (by omega)⟩
    have hre : r.e = e := by
      have : (rs.map Rw.e)[i]? = some r.e := by rw [List.getElem?_map, hr]; rfl
      rw [he, hi] at this
      exact (Option.some.inj this).symm
    have hc := fun q hq => (h1.cellAt (i * 4 + q) (by omega)).trans (rowR_get rs i q r hr hq)
    simp only [hr, Option.map_some, Option.getD_some, Nat.zero_add]
    rw [← hre]
    exact ⟨hc 0 (by decide), hc 1 (by decide), hc 2 (by decide), hc 3 (by decide), h2 r (List.mem_of_getElem? hr)⟩
theorem GE.rd {B T : Nat} {w : World} {a : Option Addr} {n c : Nat} {es : List En} (h : GE B T w (.slice a n c) es) : RdE w a es := h.se.rd
theorem own_block {a : Option Addr} {n c g : Nat} (hb : (Value.slice a n c).ownBlock = some g) : a.map Addr.block = some g := by
  cases a with
  | none => simp [Value.ownBlock] at hb
  | some x => simpa [Value.ownBlock] using hb
theorem block_own {a : Option Addr} {n c g : Nat} (hb : a.map Addr.block = some g) : (Value.slice a n c).ownBlock = some g := by
  cases a with
  | none => simp at hb
  | some x => simpa [Value.ownBlock] using hb
theorem GE.kept {S : Nat → Prop} {B T : Nat} {w w' : World} {v : Value} {es : List En} (h : GE B T w v es) (hk : Kept S w w') (hS : ∀ b, B ≤ b → b < T → ¬ S b) : GE B T w' v es := by
  obtain ⟨rs, he, h1, h2, h3, h4, h5⟩ := h
  exact ⟨rs, he, ownsRow_kept h1 hk (fun b hb => hS b (h1.lt b hb).1 (h5 b hb)), fun r hr => ownsRow_kept (h2 r hr) hk (fun b hb => hS b ((h2 r hr).lt b hb).1 (h4 r hr b (own_block hb))), h3, h4, h5⟩
theorem GE.below {B T : Nat} {w w' : World} {v : Value} {es : List En} (h : GE B T w v es) (hk : Below w.heap.size w w') : GE B T w' v es :=
  h.kept (S := fun _ => False) (Kept.of_below hk) (fun _ _ _ => id)
end Go.Proofs.YtejipahfodhmjaaGreat

namespace Go.Proofs.YtejipahfodhmjaaGreat
open Go.RowKit Go.Maps
set_option linter.unusedVariables false
attribute [local go_sem ↓] Go.wp_at_zero Go.wp_at_succ

theorem wpList_append_take {P : Program} {wr : World} {ops : Array Oper} {rest : List Oper} {o : Oper} {a : Act} {Q : Exit → Act → World → Prop} (hgd : o.guard = none) (s x : Operand) (t : TypeId)
    (ho : o.op = .call { callee := .builtin .append, args := #[s, x], argTypes := #[t, t] })
    (base : Nat) (e : TypeId) (i : TypeInfo) (k : IntKind) (bytes : Nat) (hu : P.underlying t = some (.slice e)) (hi : P.info? e = some i) (hz : i.zero = some (.int k 0))
    (hsize : i.size = 1) (hby : i.bytes = bytes) (g c n : Nat) (ys : List Int) (hs : a.eval s = .slice (some ⟨g, 0, none⟩) n c) (hown : wr.ownsRow base e 1 (.slice (some ⟨g, 0, none⟩) n c) n (ys.map (Value.int k)))
    (xa : Option Addr) (m cap : Nat) (zs : List Int) (hx : a.eval x = .slice xa m cap) (hm : m = zs.length) (hr : Reads k wr xa zs)
    (N : Nat) (hN : n + m = N) (h63 : n + m ≤ maxLen) (hbytes : (n + m) * bytes ≤ 140737488355328) (hbase : base ≤ wr.heap.size)
    (h : ∀ av cv w', w'.ownsRow base e 1 (.slice av N cv) N ((ys ++ zs).map (Value.int k)) → Kept (fun b => b = g) wr w' → wpList P ops Q rest (a.put o.dst (.slice av N cv)) w') :
    wpList P ops Q (o :: rest) a wr := by
  subst hN
  cases xa with
  | some ad =>
    refine wpList_append_own _ hgd s x t ho base e i (.int k 0) 1 bytes hu hi hz hsize hby rfl (by decide) _ n _ hs hown ad m cap (zs.map (Value.int k)) hx (by simp [hm]) (fun j u hj => ?_) (ints_one _ _) h63 hbytes hbase ?_
    · have h0 : zs ≠ [] := fun e => by subst e; simp at hj
      obtain ⟨b, off, e1, hb, hc⟩ := hr h0
      simp only [Option.some.injEq] at e1
      subst e1
      exact reads_news hc j u hj
    · intro v' w' ho' hg _
      rw [← List.map_append] at ho'
      obtain ⟨av, cv, rfl⟩ := ownsRow_shape ho'
      exact h av cv w' ho' ⟨hg.os, hg.tape, hg.output, hg.size, fun q hq hn => hg.block q hq (fun e => hn (by simp [Value.ownBlock] at e; exact e))⟩
  | none =>
    have h0 : zs = [] := by
      by_cases h0 : zs = []
      · exact h0
      · obtain ⟨b, off, e1, _⟩ := hr h0; cases e1
    subst h0
    simp only [List.length_nil] at hm
    subst hm
    have hc : n ≤ c := ownsRow_cap hown
    have hrun : (Builtin.append_ #[t, t] o.type #[.slice (some ⟨g, 0, none⟩) n c, .slice none 0 cap]).run P wr = .ok (.slice (some ⟨g, 0, none⟩) (n + 0) c) wr := by
      simp [Builtin.append_, run_underlying hu, sizeOf, typeInfo, hi, Builtin.lenOf, Builtin.firstCells, storeCells, hc]
    refine wpList_plain hgd fun K hK => ?_
    unfold Oper.wp execOp
    simp only [ho, resolve, invoke, builtin, Sem.run_bind, Sem.run_pure, Result.andThen_ok, List.map_toArray, List.map_cons, List.map_nil, hs, hx, hrun]
    exact hK _ _ (h _ _ wr (by simpa using hown) (Kept.refl _ _))

end Go.Proofs.YtejipahfodhmjaaGreat

namespace Go.Proofs.YtejipahfodhmjaaGreat
open Go.RowKit Go.Maps
set_option linter.unusedVariables false
attribute [local go_sem ↓] Go.wp_at_zero Go.wp_at_succ

def goesE (p : Bs) (also : Bool) (e : En) : Bool := belowB e.path p || (also && decide (e.path = p))
def restE (es : List En) (p : Bs) (also : Bool) : List En := es.filter fun e => !(goesE p also e)
theorem restE_len (es : List En) (p : Bs) (also : Bool) : (restE es p also).length ≤ es.length := List.length_filter_le _ _
end Go.Proofs.YtejipahfodhmjaaGreat

namespace Go.Proofs.YtejipahfodhmjaaGreat
open Go.RowKit Go.Maps
set_option linter.unusedVariables false
attribute [local go_sem ↓] Go.wp_at_zero Go.wp_at_succ

def lowN (es : List En) (p : Bs) : Nat := (es.takeWhile fun x => Op.bytesLess x.path p).length
def putAt (rs : List En) (e : En) : List En := rs.take (lowN rs e.path) ++ e :: rs.drop (lowN rs e.path)
theorem add_addr (b o j : Nat) : (⟨b, o, none⟩ : Addr).add j = ⟨b, o + j, none⟩ := by unfold Addr.add; split <;> simp_all
end Go.Proofs.YtejipahfodhmjaaGreat

namespace Go.Proofs.YtejipahfodhmjaaGreat
open Go.RowKit Go.Maps
set_option linter.unusedVariables false
attribute [local go_sem ↓] Go.wp_at_zero Go.wp_at_succ

theorem Tryz.infoIt : (Tryz.prog.info? 91).map (fun i => (i.zero, i.size, i.bytes)) = some (some (.agg #[.int .i64 0, .slice none 0 0, .string ⟨#[]⟩, .int .i64 0]), 4, 56) := by kernel_rfl

def cellsI (r : Rw) : List Value := [.int .i64 r.e.size, .slice r.a r.e.chunks.length r.c, .string (str r.e.path), .int .i64 r.e.kind]
def rowI (rs : List Rw) : List Value := rs.flatMap cellsI
theorem rowI_append (a b : List Rw) : rowI (a ++ b) = rowI a ++ rowI b := by simp [rowI]
theorem rowI_get : ∀ (rs : List Rw) (i q : Nat) (r : Rw), rs[i]? = some r → q < 4 → (rowI rs)[i * 4 + q]? = (cellsI r)[q]?
  | [], i, q, r, h, _ => by simp at h
  | x :: rs, 0, q, r, h, hq => by
    simp only [List.getElem?_cons_zero, Option.some.injEq] at h
    subst h
    simp only [rowI, List.flatMap_cons, Nat.zero_mul, Nat.zero_add]
    rw [List.getElem?_append_left (by simp [cellsI]; omega)]
  | x :: rs, i + 1, q, r, h, hq => by
    have := rowI_get rs i q r (by simpa using h) hq
    rw [← this]
    simp only [rowI, List.flatMap_cons]
    rw [List.getElem?_append_right (by simp [cellsI]; omega)]
    congr 1
    simp [cellsI]; omega
theorem rowI_one (rs : List Rw) : ∀ u ∈ rowI rs, u.oneCell' = true := by
  intro u hu
  simp only [rowI, List.mem_flatMap] at hu
  obtain ⟨r, _, hr⟩ := hu
  simp only [cellsI, List.mem_cons, List.not_mem_nil, or_false] at hr
  rcases hr with rfl | rfl | rfl | rfl <;> rfl
def RdI (w : World) (a : Option Addr) (es : List En) : Prop :=
  es ≠ [] → ∃ (b off : Nat) (A : Nat → Option Addr) (C : Nat → Nat), a = some ⟨b, off, none⟩ ∧ b < w.heap.size ∧ ∀ i e, es[i]? = some e →
    w.cell? ⟨b, off + i * 4, none⟩ = some (.int .i64 e.size) ∧ w.cell? ⟨b, off + i * 4 + 1, none⟩ = some (.slice (A i) e.chunks.length (C i)) ∧ w.cell? ⟨b, off + i * 4 + 2, none⟩ = some (.string (str e.path)) ∧
    w.cell? ⟨b, off + i * 4 + 3, none⟩ = some (.int .i64 e.kind) ∧ Reads .i64 w (A i) e.chunks
theorem RdI.below {w w' : World} {a : Option Addr} {es : List En} (h : RdI w a es) (hk : Below w.heap.size w w') : RdI w' a es := by
  intro hz
  obtain ⟨b, off, A, C, e, hb, hc⟩ := h hz
  refine ⟨b, off, A, C, e, Nat.lt_of_lt_of_le hb hk.size, fun i x hx => ?_⟩
  obtain ⟨c0, c1, c2, c3, r⟩ := hc i x hx
  exact ⟨(hk.cell (p := ⟨b, off + i * 4, none⟩) hb).trans c0, (hk.cell (p := ⟨b, off + i * 4 + 1, none⟩) hb).trans c1, (hk.cell (p := ⟨b, off + i * 4 + 2, none⟩) hb).trans c2, (hk.cell (p := ⟨b, off + i * 4 + 3, none⟩) hb).trans c3, r.below hk⟩
theorem RdI.at {w : World} {a : Option Addr} {es : List En} (h : RdI w a es) {k : Nat} (hk : k < es.length) :
    ∃ b off e x c, a = some ⟨b, off, none⟩ ∧ b < w.heap.size ∧ es[k]? = some e ∧ w.cell? ⟨b, off + k * 4, none⟩ = some (.int .i64 e.size) ∧ w.cell? ⟨b, off + k * 4 + 1, none⟩ = some (.slice x e.chunks.length c) ∧ w.cell? ⟨b, off + k * 4 + 2, none⟩ = some (.string (str e.path)) ∧
      w.cell? ⟨b, off + k * 4 + 3, none⟩ = some (.int .i64 e.kind) ∧ Reads .i64 w x e.chunks := by
  obtain ⟨b, off, A, C, e, hb, hc⟩ := h (by intro e; simp [e] at hk)
  have hx : es[k]? = some es[k] := List.getElem?_eq_getElem hk
  obtain ⟨c0, c1, c2, c3, r⟩ := hc k _ hx
  exact ⟨b, off, es[k], A k, C k, e, hb, hx, c0, c1, c2, c3, r⟩
end Go.Proofs.YtejipahfodhmjaaGreat

namespace Go.Proofs.YtejipahfodhmjaaGreat
set_option linter.unusedVariables false

theorem bl_irrefl : ∀ a : Bs, Op.bytesLess a a = false
  | [] => rfl
  | c :: a => by simp [Op.bytesLess, bl_irrefl a]
theorem bl_trans : ∀ a b c : Bs, Op.bytesLess a b = true → Op.bytesLess b c = true → Op.bytesLess a c = true
  | a, [], c, h, _ => by cases a <;> simp [Op.bytesLess] at h
  | [], b :: bs, [], _, h2 => by simp [Op.bytesLess] at h2
  | [], b :: bs, c :: cs, _, _ => by simp [Op.bytesLess]
  | a :: xs, b :: ys, [], _, h2 => by simp [Op.bytesLess] at h2
  | a :: xs, b :: ys, c :: zs, h1, h2 => by
    simp only [Op.bytesLess, Bool.or_eq_true, decide_eq_true_eq, Bool.and_eq_true, beq_iff_eq] at h1 h2 ⊢
    rcases h1 with h1 | ⟨rfl, h1⟩
    · rcases h2 with h2 | ⟨rfl, h2⟩
      · exact .inl (UInt8.lt_trans h1 h2)
      · exact .inl h1
    · rcases h2 with h2 | ⟨rfl, h2⟩
      · exact .inl h2
      · exact .inr ⟨rfl, bl_trans xs ys zs h1 h2⟩
theorem bl_total : ∀ a b : Bs, Op.bytesLess a b = false → a ≠ b → Op.bytesLess b a = true
  | [], [], _, h => absurd rfl h
  | [], b :: bs, h, _ => by simp [Op.bytesLess] at h
  | a :: xs, [], _, _ => by simp [Op.bytesLess]
  | a :: xs, b :: ys, h, hn => by
    simp only [Op.bytesLess, Bool.or_eq_false_iff, decide_eq_false_iff_not, Bool.and_eq_false_iff, beq_eq_false_iff_ne] at h
    simp only [Op.bytesLess, Bool.or_eq_true, decide_eq_true_eq, Bool.and_eq_true, beq_iff_eq]
    by_cases e : a = b
    · subst e
      refine .inr ⟨rfl, bl_total xs ys ?_ (fun x => hn (by rw [x]))⟩
      rcases h.2 with h2 | h2
      · exact absurd rfl h2
      · exact h2
    · refine .inl ?_
      have h1 := h.1
      rw [UInt8.lt_iff_toNat_lt] at h1 ⊢
      have : a.toNat ≠ b.toNat := fun x => e (UInt8.toNat_inj.1 x)
      omega
theorem bl_asymm {a b : Bs} (h : Op.bytesLess a b = true) : Op.bytesLess b a = false := by
  cases h2 : Op.bytesLess b a
  · rfl
  · have := bl_trans a b a h h2
    rw [bl_irrefl] at this
    cases this
theorem bl_ne {a b : Bs} (h : Op.bytesLess a b = true) : a ≠ b := fun e => by rw [e, bl_irrefl] at h; cases h

def Rise (es : List En) : Prop := es.Pairwise fun x y => Op.bytesLess x.path y.path = true
theorem lowE_some {q e : En} (h : lowE (some q) e = false) : Op.bytesLess q.path e.path = true := by
  simp only [lowE, Bool.or_eq_false_iff, beq_eq_false_iff_ne] at h
  exact bl_total _ _ h.1 h.2
theorem lowE_of {q e : En} (h : Op.bytesLess q.path e.path = true) : lowE (some q) e = false := by
  simp only [lowE, Bool.or_eq_false_iff, beq_eq_false_iff_ne]
  exact ⟨bl_asymm h, fun x => bl_ne h x.symm⟩
theorem layFromH_zero {H : Bs → Bool} : ∀ {l : List En} {prev : Option En}, layFromH H prev l = 0 ↔ (∀ e ∈ l, entFault e = 0 ∧ H e.path = true) ∧ Rise l ∧ ∀ q, prev = some q → ∀ e ∈ l, Op.bytesLess q.path e.path = true
  | [], prev => by simp [layFromH, Rise]
  | x :: r, prev => by
    have ih := layFromH_zero (H := H) (l := r) (prev := some x)
    have hx : entBadH H prev x = 0 ↔ entFault x = 0 ∧ lowE prev x = false ∧ H x.path = true := by
      unfold entBadH
      by_cases h1 : entFault x = 0
      · simp only [h1, if_true, true_and]
        cases h2 : lowE prev x
        · cases h3 : H x.path <;> simp
        · simp
      · simp [h1]
    simp only [layFromH]
    by_cases hb : entBadH H prev x = 0
    · rw [if_pos hb, ih]
      obtain ⟨h1, h2, h3⟩ := hx.1 hb
      constructor
      · rintro ⟨a1, a2, a3⟩
        refine ⟨fun e he => ?_, List.pairwise_cons.2 ⟨fun e he => a3 x rfl e he, a2⟩, fun q hq e he => ?_⟩
        · rcases List.mem_cons.1 he with rfl | he
          · exact ⟨h1, h3⟩
          · exact a1 e he
        · subst hq
          have := lowE_some h2
          rcases List.mem_cons.1 he with rfl | he
          · exact this
          · exact bl_trans _ _ _ this (a3 x rfl e he)
      · rintro ⟨a1, a2, a3⟩
        refine ⟨fun e he => a1 e (List.mem_cons_of_mem _ he), (List.pairwise_cons.1 a2).2, fun q hq e he => ?_⟩
        cases hq
        exact (List.pairwise_cons.1 a2).1 e he
    · rw [if_neg hb]
      constructor
      · intro h; exact absurd h hb
      · rintro ⟨a1, a2, a3⟩
        exfalso
        refine hb (hx.2 ⟨(a1 x List.mem_cons_self).1, ?_, (a1 x List.mem_cons_self).2⟩)
        cases prev with
        | none => rfl
        | some q => exact lowE_of (a3 q rfl x List.mem_cons_self)
theorem rise_find {es : List En} (h : Rise es) {e : En} (he : e ∈ es) : findE es e.path = some e := by
  induction es with
  | nil => simp at he
  | cons x r ih =>
    have hp := List.pairwise_cons.1 h
    rcases List.mem_cons.1 he with rfl | he
    · simp [findE]
    · have := hp.1 e he
      rw [findE, List.find?_cons]
      have hn : x.path ≠ e.path := bl_ne this
      simp only [hn, decide_false]
      exact ih hp.2 he
theorem find_mem {es : List En} {p : Bs} {e : En} (h : findE es p = some e) : e ∈ es ∧ e.path = p := by
  refine ⟨List.mem_of_find?_eq_some h, ?_⟩
  have := List.find?_some h
  simpa using this
theorem find_none {es : List En} {p : Bs} (h : ∀ e ∈ es, e.path ≠ p) : findE es p = none := by
  rw [findE, List.find?_eq_none]
  intro e he
  simpa using h e he
theorem homeP_iff {es : List En} {p : Bs} : homeP es p = true ↔ parentP p = [] ∨ ∃ d ∈ es, d.path = parentP p ∧ dirK d.kind = true := by
  unfold homeP hasDir
  by_cases h : parentP p = []
  · simp [h]
  · simp [h]
theorem homeP_eq {es : List En} (h : Rise es) (p : Bs) : homeP es p = homeE es p := by
  unfold homeP homeE
  by_cases h0 : parentP p = []
  · simp [h0]
  · rw [if_neg h0, if_neg h0]
    cases hf : findE es (parentP p) with
    | none =>
      rw [hasDir, List.any_eq_false]
      intro x hx
      have := List.find?_eq_none.1 hf x hx
      simp only [decide_eq_true_eq] at this
      simp [this]
    | some d =>
      obtain ⟨hd, hdp⟩ := find_mem hf
      cases hk : dirK d.kind
      · show hasDir es (parentP p) = dirK d.kind
        rw [hk, hasDir, List.any_eq_false]
        intro x hx
        by_cases hxp : x.path = parentP p
        · have := rise_find h hx
          rw [hxp, hf] at this
          cases this
          simp [hk]
        · simp [hxp]
      · show hasDir es (parentP p) = dirK d.kind
        rw [hk, hasDir, List.any_eq_true]
        exact ⟨d, hd, by simp [hdp, hk]⟩
structure Right (es : List En) : Prop where
  len : es.length ≤ 12
  ent : ∀ e ∈ es, entFault e = 0
  rise : Rise es
  home : ∀ e ∈ es, homeP es e.path = true
theorem right_P {es : List En} : layFaultP es = 0 ↔ Right es := by
  unfold layFaultP
  by_cases h : 12 < es.length
  · rw [if_pos h]
    exact ⟨fun x => (by cases x), fun x => (by have := x.len; omega)⟩
  · rw [if_neg h, layFromH_zero]
    exact ⟨fun ⟨a, b, _⟩ => ⟨by omega, fun e he => (a e he).1, b, fun e he => (a e he).2⟩, fun x => ⟨fun e he => ⟨x.ent e he, x.home e he⟩, x.rise, fun q hq => by cases hq⟩⟩
theorem right_E {es : List En} : layFault es = 0 ↔ Right es := by
  unfold layFault
  by_cases h : 12 < es.length
  · rw [if_pos h]
    exact ⟨fun x => (by cases x), fun x => (by have := x.len; omega)⟩
  · rw [if_neg h, layFrom_H, layFromH_zero]
    exact ⟨fun ⟨a, b, _⟩ => ⟨by omega, fun e he => (a e he).1, b, fun e he => by rw [homeP_eq b]; exact (a e he).2⟩, fun x => ⟨fun e he => ⟨x.ent e he, by rw [← homeP_eq x.rise]; exact x.home e he⟩, x.rise, fun q hq => by cases hq⟩⟩

theorem belowB_iff {p t : Bs} : belowB p t = true ↔ ∃ r, r ≠ [] ∧ p = t ++ 47 :: r := by
  simp only [belowB, Bool.and_eq_true, decide_eq_true_eq, beq_iff_eq]
  constructor
  · rintro ⟨⟨hl, ht⟩, hh⟩
    cases e : p.drop t.length with
    | nil => rw [e] at hh; simp at hh
    | cons c r =>
      rw [e] at hh
      simp at hh
      subst hh
      refine ⟨r, ?_, ?_⟩
      · intro h0
        have := congrArg List.length e
        rw [List.length_drop, h0] at this
        simp at this
        omega
      · rw [← e]
        conv => lhs; rw [← List.take_append_drop t.length p, ht]
  · rintro ⟨r, hr, rfl⟩
    have := List.length_pos_iff.2 hr
    simp
    first | done | omega
theorem below_trans {p q t : Bs} (h1 : belowB p q = true) (h2 : belowB q t = true) : belowB p t = true := by
  obtain ⟨r, hr, rfl⟩ := belowB_iff.1 h1
  obtain ⟨s, hs, rfl⟩ := belowB_iff.1 h2
  exact belowB_iff.2 ⟨s ++ 47 :: r, by simp, by simp⟩
theorem below_len {p t : Bs} (h : belowB p t = true) : t.length < p.length := by
  obtain ⟨r, hr, rfl⟩ := belowB_iff.1 h
  simp
theorem parent_above {p : Bs} (hp : faultP p = 0) (h : parentP p ≠ []) : faultP (parentP p) = 0 ∧ belowB p (parentP p) = true := by
  have hm : parentP p ∈ aboveN (cutB p.tail) := by
    have hne : aboveN (cutB p.tail) ≠ [] := fun e => h (parentP_nil.2 e)
    unfold parentP
    rw [List.getLastD_eq_getLast?, List.getLast?_eq_some_getLast hne]
    exact List.getLast_mem _
  exact (above_iff hp).1 hm
theorem mem_putAt {bs : List En} {e x : En} : x ∈ putAt bs e ↔ x = e ∨ x ∈ bs := by
  have hb : x ∈ bs ↔ x ∈ bs.take (lowN bs e.path) ∨ x ∈ bs.drop (lowN bs e.path) := by
    conv => lhs; rw [← List.take_append_drop (lowN bs e.path) bs]
    exact List.mem_append
  unfold putAt
  rw [List.mem_append, List.mem_cons, hb]
  exact ⟨fun h => h.elim (fun h => .inr (.inl h)) (fun h => h.elim .inl (fun h => .inr (.inr h))), fun h => h.elim (fun h => .inr (.inl h)) (fun h => h.elim .inl (fun h => .inr (.inr h)))⟩
theorem low_take {p : Bs} : ∀ (bs : List En), ∀ x ∈ bs.take (lowN bs p), Op.bytesLess x.path p = true
  | [], x, hx => by simp [lowN] at hx
  | b :: bs, x, hx => by
    unfold lowN at hx
    rw [List.takeWhile_cons] at hx
    cases h : Op.bytesLess b.path p
    · rw [h] at hx; simp at hx
    · rw [h] at hx
      simp only [if_true, List.length_cons, List.take_succ_cons, List.mem_cons] at hx
      rcases hx with rfl | hx
      · exact h
      · exact low_take bs x hx
theorem low_drop {p : Bs} : ∀ (bs : List En), Rise bs → (∀ x ∈ bs, x.path ≠ p) → ∀ x ∈ bs.drop (lowN bs p), Op.bytesLess p x.path = true
  | [], _, _, x, hx => by simp at hx
  | b :: bs, hr, hn, x, hx => by
    unfold lowN at hx
    rw [List.takeWhile_cons] at hx
    cases h : Op.bytesLess b.path p
    · rw [h] at hx
      simp only [if_false, Bool.false_eq_true, List.length_nil, List.drop_zero] at hx
      have hb := bl_total _ _ h (hn b List.mem_cons_self)
      rcases List.mem_cons.1 hx with rfl | hx
      · exact hb
      · exact bl_trans _ _ _ hb ((List.pairwise_cons.1 hr).1 x hx)
    · rw [h] at hx
      simp only [if_true, List.length_cons, List.drop_succ_cons] at hx
      exact low_drop bs (List.pairwise_cons.1 hr).2 (fun y hy => hn y (List.mem_cons_of_mem _ hy)) x hx
theorem rise_putAt {bs : List En} {e : En} (h : Rise bs) (hn : ∀ x ∈ bs, x.path ≠ e.path) : Rise (putAt bs e) := by
  unfold putAt Rise
  rw [List.pairwise_append]
  refine ⟨h.sublist (List.take_sublist _ _), List.pairwise_cons.2 ⟨fun x hx => low_drop bs h hn x hx, h.sublist (List.drop_sublist _ _)⟩, fun x hx y hy => ?_⟩
  have h1 := low_take bs x hx
  rcases List.mem_cons.1 hy with rfl | hy
  · exact h1
  · exact bl_trans _ _ _ h1 (low_drop bs h hn y hy)
end Go.Proofs.YtejipahfodhmjaaGreat

namespace Go.Proofs.YtejipahfodhmjaaGreat
open Go.RowKit
set_option linter.unusedVariables false

def fnvStep (h z : Int) : Int := bits BinOp.xor IntKind.u32 h z * 16777619 % 4294967296
def fnv (zs : List Int) : Int := zs.foldl fnvStep 2166136261
def digest (zs : List Int) : Int := wrap64 (bits BinOp.xor IntKind.u32 (fnv zs) ((zs.length : Int) * 65536 % 4294967296))
theorem fnv_step {zs : List Int} {k : Nat} {z : Int} (hk : k < zs.length) (hz : zs.getD k 0 = z) : fnv (zs.take (k + 1)) = fnvStep (fnv (zs.take k)) z := by
  unfold fnv
  rw [List.take_succ_eq_append_getElem hk, List.foldl_append]
  simp [List.getD_eq_getElem?_getD, hk] at hz
  simp [hz]

set_option maxHeartbeats 400000 in
theorem specDigestOf_any (a : Option Addr) (cap : Nat) (zs : List Int) (w : World) (h : Reads .u8 w a zs) (hu : U8 zs) (hl : zs.length ≤ 1048576) :
    Calls Tryz.prog 122 #[.slice a zs.length cap] w fun e w' => e = .returned (.int .i64 (digest zs)) ∧ w' = w := by
  go_enter Tryz.func122, Tryz.ntmps122
  go_wp2
  go_loop [3, 4] (fun h i => ∃ k : Nat, k ≤ zs.length ∧ i = .int .i64 k ∧ h = .int .u32 (fnv (zs.take k))) (fun _ i => zs.length - (intOf i).toNat)
  case atStart => exact ⟨0, Nat.zero_le _, rfl, rfl⟩
  case round =>
    obtain ⟨k, hk, rfl, rfl⟩ := hrel
    generalize hx : fnv (zs.take k) = x
    have HX := hide hx
    clear hx
    by_cases hlt : k < zs.length
    · obtain ⟨b, off, rfl, hb, hc⟩ := h (by intro e; simp [e] at hlt)
      have hz01 := hu.get k
      have hc1 := hc k hlt
      generalize hz : zs.getD k 0 = z at hz01 hc1
      have HZ := hide hz
      have HC := hide hc
      clear hc h hz
      go_wp2
      go_round
      case rel => exact ⟨k + 1, by omega, by go_num, by rw [fnv_step hlt HZ.out, HX.out]; rfl⟩
      case measure => simp [intOf]; omega
    · go_wp2
      go_ret
      exact ⟨ret_int (by unfold digest; rw [← HX.out, List.take_of_length_le (by omega)]), rfl⟩

set_option maxHeartbeats 400000 in
theorem implDigestOf_any (a : Option Addr) (cap : Nat) (zs : List Int) (w : World) (h : Reads .u8 w a zs) (hu : U8 zs) (hl : zs.length ≤ 1048576) :
    Calls Tryz.prog 52 #[.slice a zs.length cap] w fun e w' => e = .returned (.int .i64 (digest zs)) ∧ w' = w := by
  go_enter Tryz.func52, Tryz.ntmps52
  go_wp2
  go_loop [3, 5, 8] (fun h _ i => ∃ k : Nat, k ≤ zs.length ∧ i = .int .i64 k ∧ h = .int .u32 (fnv (zs.take k))) (fun _ _ i => zs.length - (intOf i).toNat)
  case atStart => exact ⟨0, Nat.zero_le _, rfl, rfl⟩
  case round =>
    obtain ⟨k, hk, rfl, rfl⟩ := hrel
    generalize hx : fnv (zs.take k) = x
    have HX := hide hx
    clear hx
    by_cases hlt : k < zs.length
    · obtain ⟨b, off, rfl, hb, hc⟩ := h (by intro e; simp [e] at hlt)
      have hz01 := hu.get k
      have hc1 := hc k hlt
      generalize hz : zs.getD k 0 = z at hz01 hc1
      have HZ := hide hz
      have HC := hide hc
      clear hc h hz
      go_wp2
      go_round
      case rel => exact ⟨k + 1, by omega, by go_num, by rw [fnv_step hlt HZ.out, HX.out]; rfl⟩
      case measure => simp [intOf]; omega
    · go_wp2
      go_ret
      exact ⟨ret_int (by unfold digest; rw [← HX.out, List.take_of_length_le (by omega)]), rfl⟩

end Go.Proofs.YtejipahfodhmjaaGreat

namespace Go.Proofs.YtejipahfodhmjaaGreat
open Go.RowKit
set_option linter.unusedVariables false

def G1 (B T : Nat) (w : World) (v : Value) (ds : List Int) : Prop :=
  w.ownsRow B 2 1 v ds.length (ds.map (Value.int .i64)) ∧ ∀ b, v.ownBlock = some b → b < T
theorem G1.mk {B : Nat} {w : World} {v : Value} {ds : List Int} {n : Nat} (h : w.ownsRow B 2 1 v n (ds.map (Value.int .i64))) (hn : n = ds.length) : G1 B w.heap.size w v ds := by
  subst hn
  exact ⟨h, fun b hb => (h.lt b hb).2⟩
end Go.Proofs.YtejipahfodhmjaaGreat

namespace Go.Proofs.YtejipahfodhmjaaGreat
set_option linter.unusedVariables false

def treeK (k : Int) : Bool := decide (k = 1 ∨ k = 2)
theorem parent_take {ns : List Bs} (h : 1 < ns.length) : (aboveN ns).getLastD [] = joinB (ns.take (ns.length - 1)) := by
  obtain ⟨m, hm⟩ : ∃ m, ns.length - 1 = m + 1 := ⟨ns.length - 2, by omega⟩
  unfold aboveN
  rw [hm, List.range_succ, List.map_append, List.getLastD_eq_getLast?]
  simp
theorem below_step {x p : Bs} (hx : faultP x = 0) (hp : faultP p = 0) (h : belowB x p = true) : parentP x ≠ [] ∧ (parentP x = p ∨ belowB (parentP x) p = true) := by
  have hm := (above_iff hx).2 ⟨hp, h⟩
  have hne : aboveN (cutB x.tail) ≠ [] := fun e => by rw [e] at hm; simp at hm
  have h0 : parentP x ≠ [] := fun e => hne (parentP_nil.1 e)
  refine ⟨h0, ?_⟩
  obtain ⟨ns, hN, hxe, hc, -⟩ := faultP_zero hx
  rw [hc] at hm hne
  obtain ⟨k, hk0, hk1, hpk⟩ := mem_aboveN.1 hm
  have hpar : parentP x = joinB (ns.take (ns.length - 1)) := by unfold parentP; rw [hc]; exact parent_take (by omega)
  by_cases hk : k = ns.length - 1
  · exact .inl (by rw [hpar, hpk, hk])
  · refine .inr ?_
    have hT : Names (ns.take (ns.length - 1)) := names_take hN (by omega)
    have hf := faultP_of hT
    rw [hpar]
    refine ((above_iff hf).1 ?_).2
    rw [cut_of hT, mem_aboveN]
    refine ⟨k, hk0, by rw [List.length_take]; omega, ?_⟩
    rw [hpk, List.take_take, Nat.min_eq_left (by omega)]
end Go.Proofs.YtejipahfodhmjaaGreat

