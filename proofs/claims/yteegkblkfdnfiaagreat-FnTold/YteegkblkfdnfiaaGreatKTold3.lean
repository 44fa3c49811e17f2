/-
  Texts put together: IteB Bytes Cut Ints EntG EntC EntA EntW EntP.
-/
import Derived.Test.YteegkblkfdnfiaaGreatKTold2
import Derived.Test.YteegkblkfdnfiaaGreatKTold1
import Derived.Lib.SliceRun
import Derived.Deep.AppendLies
import Derived.Deep.DrawnRows
namespace Go.Proofs.YteegkblkfdnfiaaGreat
open Go.RowKit
set_option linter.unusedVariables false

theorem hasDir_cons (es : List En) (q : Bs) (k : Nat) {e : En} (h : es[k]? = some e) : hasDir (es.drop k) q = ((decide (e.path = q) && dirK e.kind) || hasDir (es.drop (k + 1)) q) := by
  rw [drop_at h]; simp [hasDir]

set_option maxRecDepth 100000 in
set_option maxHeartbeats 1600000 in
theorem parentFault_any (a : Option Addr) (c n : Nat) (es : List En) (p : Bs) (w : World) (h : RdE w a es) (hn : n = es.length) (hl : es.length ≤ 1048576) (hf : faultP p = 0) (hp : p.length ≤ 1048576) :
    Calls Tryz.prog 134 #[.slice a n c, .string (str p)] w fun r w' => r = .returned (.int .i64 (if homeP es p then 0 else 9)) ∧ Below w.heap.size w w' := by
  subst hn
  have HR := hide h
  clear h
  obtain ⟨F, hF⟩ : ∃ F : Int, F = if homeP es p then 0 else 9 := ⟨_, rfl⟩
  rw [← hF]
  by_cases h0 : parentP p = []
  · have HE := hide (show F = 0 from by rw [hF]; simp [homeP, h0])
    have HP := hide (par_none hf (parentP_nil.1 h0))
    clear h0 hf hF
    go_enter Tryz.func134, Tryz.ntmps134
    go_wp2_with fail
    refine (implParentOf_any _ _ (by rw [str_size]; omega)).mono ?_
    rintro r w1 ⟨rfl, hb1⟩
    rw [str_data, HP.out.1, HP.out.2]
    have HB1 := hide (below_next hb1 (below_alloc w1 (.cells #[.int .i64 4, .string (str [])] 203)))
    clear hb1
    go_wp2_with fail
    go_ret
    exact ⟨ret_int HE.out.symm, HB1.out⟩
  · have HE := hide (show F = if hasDir es (parentP p) then 0 else 9 from by rw [hF]; simp [homeP, h0])
    have HP := hide (par_good hf (fun e => h0 (parentP_nil.2 e)))
    have HQ : Hid (parT p = parentP p) := hide HP.out.2
    clear h0 hf hF
    go_enter Tryz.func134, Tryz.ntmps134
    go_wp2_with fail
    refine (implParentOf_any _ _ (by rw [str_size]; omega)).mono ?_
    rintro r w1 ⟨rfl, hb1⟩
    rw [str_data, HP.out.1, HQ.out]
    generalize parentP p = q at *
    have X1 := hide (Box.new w1 (.int .i64 0) (.string (str q)) 203)
    have HB1 := hide (below_next hb1 (below_alloc w1 (.cells #[.int .i64 0, .string (str q)] 203)))
    clear hb1 HP HQ
    go_wp2_with fail
    generalize w1.alloc (.cells #[.int .i64 0, .string (str q)] 203) = W1 at *
    generalize w1.heap.size = b1 at *
    go_loopw [15] (fun i wr => ∃ k : Nat, k ≤ es.length ∧ i = .int .i64 k ∧ Hid (hasDir es q = hasDir (es.drop k) q) ∧ Hid (Below W1.heap.size W1 wr)) (fun i _ => es.length - (intOf i).toNat)
    case atStart => exact ⟨0, Nat.zero_le _, rfl, hide (by simp), hide (Below.refl _ _)⟩
    case round =>
      obtain ⟨k, hk, rfl, HF, HW⟩ := hrel
      have HR1 := hide (HR.out.below (below_next HB1.out HW.out))
      obtain ⟨⟨t0, t1⟩, t2, t3⟩ := X1.out.below HW.out
      by_cases hlt : k < es.length
      · obtain ⟨b, off, e, x, cc, rfl, hb, he, c0, c1, c2, c3, hr⟩ := HR1.out.at hlt
        have HX := hide he
        clear he hr
        have HF2 := hide (HF.out.trans (hasDir_cons es q k HX.out))
        have hb1w : b1 < wr.heap.size := World.block_lt_of_cell? _ _ t0
        by_cases hq : e.path = q
        · have hs1 := str_yes hq
          cases hd : dirK e.kind
          · have HO := hide (show hasDir es q = hasDir (es.drop (k + 1)) q from by rw [HF2.out]; simp [hd])
            have HD := hide hd
            clear hd hq
            go_wp2_with fail
            refine (itemOf_any _ _ _ _ _ _ _).mono ?_
            rintro r w3 ⟨rfl, hb3⟩
            go_wp2_with fail
            refine (isDir_any _ _ _ _ _ _ _).mono ?_
            rintro r w4 ⟨rfl, hb4⟩
            rw [HD.out]
            have HW4 := hide (below_next HW.out (below_next (below_alloc wr _) (below_next hb3 hb4)))
            clear hb3 hb4
            go_wp2_with fail
            go_roundw
            case rel => exact ⟨k + 1, by omega, by go_num, HO, HW4⟩
            case measure => simp [intOf]; omega
          · have HO := hide (show hasDir es q = true from by rw [HF2.out]; simp [hd, hq])
            have HD := hide hd
            clear hd hq
            go_wp2_with fail
            refine (itemOf_any _ _ _ _ _ _ _).mono ?_
            rintro r w3 ⟨rfl, hb3⟩
            go_wp2_with fail
            refine (isDir_any _ _ _ _ _ _ _).mono ?_
            rintro r w4 ⟨rfl, hb4⟩
            rw [HD.out]
            have HW4 := hide (below_next HW.out (below_next (below_alloc wr _) (below_next hb3 hb4)))
            clear hb3 hb4
            go_wp2_with fail
            go_ret
            exact ⟨ret_int (by rw [HE.out, HO.out]; rfl), below_next HB1.out HW4.out⟩
        · have hs1 := str_no hq
          have HO := hide (show hasDir es q = hasDir (es.drop (k + 1)) q from by rw [HF2.out]; simp [hq])
          clear hq
          go_wp2_with fail
          go_roundw
          case rel => exact ⟨k + 1, by omega, by go_num, HO, hide (below_next HW.out (below_alloc wr _))⟩
          case measure => simp [intOf]; omega
      · have HO := hide (show hasDir es q = false from by rw [HF.out, List.drop_eq_nil_of_le (by omega)]; rfl)
        go_wp2_with fail
        go_ret
        exact ⟨ret_int (by rw [HE.out, HO.out]; rfl), below_next HB1.out HW.out⟩

set_option maxRecDepth 100000 in
set_option maxHeartbeats 1600000 in
theorem entriesFault_any (a : Option Addr) (c n : Nat) (es : List En) (w : World) (h : RdE w a es) (hn : n = es.length) (hl : es.length ≤ 1048576) (hs : SmallE es) :
    Calls Tryz.prog 84 #[.slice a n c] w fun r w' => r = .returned (.int .i64 (layFromH (homeP es) none es)) ∧ Below w.heap.size w w' := by
  subst hn
  obtain ⟨F, hF⟩ : ∃ F : Int, F = layFromH (homeP es) (prevE es 0) (es.drop 0) := ⟨_, rfl⟩
  have e0 : layFromH (homeP es) none es = F := by rw [hF]; simp [prevE]
  rw [e0]
  have HE := hide hF
  have HR := hide h
  have HS := hide hs
  clear h hs e0 hF
  go_enter Tryz.func84, Tryz.ntmps84
  go_wp2_with fail
  go_loopw [9] (fun i wr => ∃ k : Nat, k ≤ es.length ∧ i = .int .i64 k ∧ Hid (F = layFromH (homeP es) (prevE es k) (es.drop k)) ∧ Hid (Below w.heap.size w wr)) (fun i _ => es.length - (intOf i).toNat)
  case atStart => exact ⟨0, Nat.zero_le _, rfl, HE, hide (Below.refl _ _)⟩
  case round =>
    obtain ⟨k, hk, rfl, HF, HW⟩ := hrel
    have HR1 := hide (HR.out.below HW.out)
    by_cases hlt : k < es.length
    · obtain ⟨b, off, e, x, cc, rfl, hb, he, c0, c1, c2, c3, hr⟩ := HR1.out.at hlt
      have HX := hide he
      have HRc := hide (hr.below (below_alloc wr (.cells #[.string (str e.path), .int .i64 e.kind, .int .i64 e.size, .slice x e.chunks.length cc] 50)))
      have hsm := HS.out e (List.mem_of_getElem? he)
      have HN := hide (below_next HW.out (below_alloc wr (.cells #[.string (str e.path), .int .i64 e.kind, .int .i64 e.size, .slice x e.chunks.length cc] 50)))
      have F4 := hide (Four.new wr (.string (str e.path)) (.int .i64 e.kind) (.int .i64 e.size) (.slice x e.chunks.length cc) 50)
      clear he hr
      go_wp2_with fail
      clear c0 c1 c2 c3
      generalize wr.alloc (.cells #[.string (str e.path), .int .i64 e.kind, .int .i64 e.size, .slice x e.chunks.length cc] 50) = W1 at *
      generalize wr.heap.size = b1 at *
      refine (implEntryFault_any e _ _ _ _ HRc.out rfl hsm.1 hsm.2).mono ?_
      rintro r w1 ⟨rfl, hb1⟩
      obtain ⟨f0, f1, f2, f3⟩ := F4.out.below hb1
      have HW1 := hide (below_next HN.out hb1)
      have HR2 := hide (HR.out.below HW1.out)
      clear hb1 HRc F4 HN HR1 HW
      by_cases hz : entFault e = 0
      · have hpz := entFault_zero hz
        have HPZ := hide hpz
        have HZ := hide hz
        rw [hz]
        clear hz hpz
        cases k with
        | zero =>
          have HL := hide (show lowE (prevE es 0) e = false from rfl)
          go_wp2_with fail
          go_quiet (fail)
          go_wp2_with fail
          have HW2 := hide (below_drewN HW1.out nq)
          have HR3 := hide (HR2.out.below (below_drewN (Below.refl w1.heap.size w1) nq))
          clear HW1 HR2
          generalize w1.drewN nq = W at *
          refine (parentFault_any _ c es.length es e.path W HR3.out rfl hl HPZ.out hsm.1).mono ?_
          rintro r w4 ⟨rfl, hb4⟩
          have HW3 := hide (below_next HW2.out hb4)
          clear hb4
          cases hh : homeP es e.path
          · have HO := hide (layH_home HF.out HX.out HZ.out HL.out hh)
            clear hh
            go_wp2_with fail
            go_ret
            exact ⟨ret_int HO.out.symm, HW3.out⟩
          · have HO := hide (layH_next HF.out HX.out HZ.out HL.out hh)
            clear hh
            go_wp2_with fail
            go_roundw
            case rel => exact ⟨1, by omega, by go_num, HO, HW3⟩
            case measure => simp [intOf]; omega
        | succ j =>
          have hg : (0 : Int) < ((j + 1 : Nat) : Int) := by omega
          obtain ⟨b2, off2, e2, x2, cc2, hbb, hb2, he2, d0, d1, d2, d3, hr2⟩ := HR2.out.at (show j < es.length by omega)
          simp only [Option.some.injEq, Addr.mk.injEq, and_true] at hbb
          obtain ⟨rfl, rfl⟩ := hbb
          have HL := hide (show lowE (prevE es (j + 1)) e = (Op.bytesLess e.path e2.path || (e.path == e2.path)) from by simp [prevE, lowE, he2])
          clear he2 d1 d2 d3 hr2
          cases hlow : (Op.bytesLess (str e.path).toList (str e2.path).toList || ((str e.path).toList == (str e2.path).toList))
          · have HL2 := hide (show lowE (prevE es (j + 1)) e = false from by rw [HL.out]; rw [str_toList, str_toList] at hlow; exact hlow)
            go_wp2_with fail
            go_quiet (fail)
            go_wp2_with fail
            have HW2 := hide (below_drewN HW1.out nq)
            have HR3 := hide (HR2.out.below (below_drewN (Below.refl w1.heap.size w1) nq))
            clear HW1 HR2
            generalize w1.drewN nq = W at *
            refine (parentFault_any _ c es.length es e.path W HR3.out rfl hl HPZ.out hsm.1).mono ?_
            rintro r w4 ⟨rfl, hb4⟩
            have HW3 := hide (below_next HW2.out hb4)
            clear hb4
            cases hh : homeP es e.path
            · have HO := hide (layH_home HF.out HX.out HZ.out HL2.out hh)
              clear hh
              go_wp2_with fail
              go_ret
              exact ⟨ret_int HO.out.symm, HW3.out⟩
            · have HO := hide (layH_next HF.out HX.out HZ.out HL2.out hh)
              clear hh
              go_wp2_with fail
              go_roundw
              case rel => exact ⟨j + 1 + 1, by omega, by go_num, HO, HW3⟩
              case measure => simp [intOf]; omega
          · have HL2 := hide (show lowE (prevE es (j + 1)) e = true from by rw [HL.out]; rw [str_toList, str_toList] at hlow; exact hlow)
            have HO := hide (layH_low HF.out HX.out HZ.out HL2.out)
            go_wp2_with fail
            go_quiet (fail)
            go_wp2_with fail
            go_ret
            exact ⟨ret_int HO.out.symm, below_drewN HW1.out _⟩
      · have HZ := hide (layH_bad HF.out HX.out hz)
        have hz2 : (entFault e != 0) = true := by simp; exact hz
        clear hz
        go_wp2_with fail
        go_ret
        exact ⟨ret_int HZ.out.symm, HW1.out⟩
    · have HZ := hide (layH_end HF.out (by omega))
      go_wp2_with fail
      go_ret
      exact ⟨ret_int HZ.out.symm, HW.out⟩

set_option maxRecDepth 100000 in
theorem implLayerFault_any (a : Option Addr) (c n : Nat) (es : List En) (w : World) (h : RdE w a es) (hn : n = es.length) (hl : es.length ≤ 1048576) (hs : SmallE es) :
    Calls Tryz.prog 41 #[.slice a n c] w fun r w' => r = .returned (.int .i64 (layFaultP es)) ∧ Below w.heap.size w w' := by
  subst hn
  by_cases hm : 12 < es.length
  · have HE := hide (layFaultP_many hm)
    have hm2 : (12 : Int) < (es.length : Int) := by omega
    clear h hs
    go_enter Tryz.func41, Tryz.ntmps41
    go_wp2_with fail
    go_ret
    exact ⟨ret_int HE.out.symm, Below.refl _ _⟩
  · have HE : Hid (layFaultP es = layFromH (homeP es) none es) := hide (by simp [layFaultP, hm])
    have hm2 : ¬ (12 : Int) < (es.length : Int) := by omega
    have HF := hide (entriesFault_any a c es.length es w h rfl hl hs)
    clear h hs hm
    generalize layFaultP es = F at HE ⊢
    go_enter Tryz.func41, Tryz.ntmps41
    go_wp2_with fail
    refine HF.out.mono ?_
    rintro r w1 ⟨rfl, hb⟩
    have HB := hide hb
    clear hb
    go_wp2_with fail
    go_ret
    exact ⟨ret_int HE.out.symm, HB.out⟩

def askP (es : List En) (p : Bs) : Int := if layFaultP es = 0 then faultP p else layFaultP es
set_option maxRecDepth 100000 in
theorem implAsk_any (a : Option Addr) (c n : Nat) (es : List En) (p : Bs) (w : World) (h : RdE w a es) (hn : n = es.length) (hl : es.length ≤ 1048576) (hs : SmallE es) (hp : p.length ≤ 1048576) :
    Calls Tryz.prog 161 #[.slice a n c, .string (str p)] w fun r w' => r = .returned (.int .i64 (askP es p)) ∧ Below w.heap.size w w' := by
  have HF := hide (implLayerFault_any a c n es w h hn hl hs)
  clear hn hl
  clear h hs
  unfold askP
  generalize layFaultP es = F at HF ⊢
  by_cases hz : F = 0
  · rw [if_pos hz]
    subst hz
    go_enter Tryz.func161, Tryz.ntmps161
    go_wp2_with fail
    refine HF.out.mono ?_
    rintro r w1 ⟨rfl, hb⟩
    have HB := hide hb
    clear hb
    go_wp2_with fail
    refine (implPathFault_any _ _ (by rw [str_size]; omega)).mono ?_
    rintro r w2 ⟨rfl, hb2⟩
    rw [str_data]
    have HB2 := hide (below_next HB.out hb2)
    clear hb2
    go_wp2_with fail
    go_ret
    exact ⟨rfl, HB2.out⟩
  · rw [if_neg hz]
    have hz2 : (F != 0) = true := by simp; exact hz
    clear hz
    go_enter Tryz.func161, Tryz.ntmps161
    go_wp2_with fail
    refine HF.out.mono ?_
    rintro r w1 ⟨rfl, hb⟩
    have HB := hide hb
    clear hb
    go_wp2_with fail
    go_ret
    exact ⟨rfl, HB.out⟩

end Go.Proofs.YteegkblkfdnfiaaGreat

namespace Go.Proofs.YteegkblkfdnfiaaGreat
open Go.RowKit
set_option linter.unusedVariables false

theorem Tryz.infoU8 : (Tryz.prog.info? 5).map (fun i => (i.zero, i.size, i.bytes)) = some (some (.int .u8 0), 1, 1) := by kernel_rfl


end Go.Proofs.YteegkblkfdnfiaaGreat

namespace Go.Proofs.YteegkblkfdnfiaaGreat
open Go.RowKit
set_option linter.unusedVariables false

theorem reads_news {w : World} {b off : Nat} {zs : List Int} {k : IntKind} (hc : ∀ i, i < zs.length → w.cell? ⟨b, off + i, none⟩ = some (.int k (zs.getD i 0))) :
    ∀ j u, (zs.map (Value.int k))[j]? = some u → w.cell? ((⟨b, off, none⟩ : Addr).add j) = some u := by
  intro j u hj
  have hadd : (⟨b, off, none⟩ : Addr).add j = ⟨b, off + j, none⟩ := by unfold Addr.add; split <;> simp_all
  have hjl : j < zs.length := by
    rcases Nat.lt_or_ge j zs.length with h | h
    · exact h
    · rw [List.getElem?_eq_none (by simpa using h)] at hj; simp at hj
  rw [hadd, hc j hjl]
  simp [hjl] at hj
  simp [List.getD_eq_getElem?_getD, hjl, hj]

theorem ints_one (k : IntKind) (zs : List Int) : ∀ u ∈ zs.map (Value.int k), u.oneCell' = true := by
  intro u hu
  obtain ⟨z, _, rfl⟩ := List.mem_map.1 hu
  rfl

theorem own_of_ownsRow {w : World} {base : Nat} {e : TypeId} {k : IntKind} {v : Value} {n : Nat} {zs : List Int} (h : w.ownsRow base e 1 v n (zs.map (Value.int k))) (hn : n = zs.length) (hz : 0 < n) :
    ∃ g cap, v = .slice (some ⟨g, 0, none⟩) n cap ∧ base ≤ g ∧ g < w.heap.size ∧ Own k w (some ⟨g, 0, none⟩) zs := by
  obtain ⟨g, cap, hv, hg, hgl, hc, hf⟩ := ownsRow_ints h hn hz
  exact ⟨g, cap, hv, hg, hgl, fun _ => ⟨g, 0, rfl, hgl, fun i hi => ⟨by rw [Nat.zero_add]; exact hc i (by omega), hf _⟩⟩⟩

theorem wpList_append_fresh {P : Program} {wr : World} {ops : Array Oper} {rest : List Oper} {o : Oper} {a : Act} {Q : Exit → Act → World → Prop} (hgd : o.guard = none) (s x : Operand) (t : TypeId)
    (ho : o.op = .call { callee := .builtin .append, args := #[s, x], argTypes := #[t, t] })
    (e : TypeId) (i : TypeInfo) (k : IntKind) (bytes : Nat) (ht : P.underlying t = some (.slice e)) (hi : P.info? e = some i) (hz : i.zero = some (.int k 0))
    (hsize : i.size = 1) (hby : i.bytes = bytes) (hs : a.eval s = .slice (some ⟨wr.heap.size, 0, none⟩) 0 0)
    (b off n cap : Nat) (zs : List Int) (hx : a.eval x = .slice (some ⟨b, off, none⟩) n cap) (hn : n = zs.length) (hb : b < wr.heap.size) (hc : ∀ i, i < zs.length → wr.cell? ⟨b, off + i, none⟩ = some (.int k (zs.getD i 0)))
    (h0 : 0 < zs.length) (h63 : zs.length ≤ maxLen) (hbytes : zs.length * bytes ≤ 140737488355328)
    (h : ∀ g c w', w'.ownsRow wr.heap.size e 1 (.slice (some ⟨g, 0, none⟩) n c) n (zs.map (Value.int k)) → wr.heap.size ≤ g → g < w'.heap.size → Below wr.heap.size wr w' → wpList P ops Q rest (a.put o.dst (.slice (some ⟨g, 0, none⟩) n c)) w') :
    wpList P ops Q (o :: rest) a (wr.alloc (.cells #[] e)) := by
  have hown : (wr.alloc (.cells #[] e)).ownsRow wr.heap.size e 1 (.slice (some ⟨wr.heap.size, 0, none⟩) 0 0) 0 [] := World.ownsRow_made wr #[] 0 (Nat.le_refl _) (Nat.zero_le _) rfl
  have hn2 : ∀ j u, (zs.map (Value.int k))[j]? = some u → (wr.alloc (.cells #[] e)).cell? ((⟨b, off, none⟩ : Addr).add j) = some u := fun j u hj => (World.grownBy_alloc wr (.cells #[] e) none).cell (reads_news hc j u hj) (by simp)
  refine wpList_append_own _ hgd s x t ho wr.heap.size e i (.int k 0) 1 bytes ht hi hz hsize hby rfl (by decide) _ _ _ hs hown ⟨b, off, none⟩ n cap (zs.map (Value.int k)) hx (by simp [hn]) hn2 (ints_one _ _) (by omega) (by rw [Nat.zero_add, hn]; exact hbytes) (by simp) ?_
  intro v' w' hown' hgrow _
  rw [Nat.zero_add, List.nil_append] at hown'
  obtain ⟨g, c, rfl, hg, hgl, _⟩ := own_of_ownsRow hown' hn (by omega)
  refine h g c w' hown' hg hgl ?_
  exact ((Below.refl _ _).alloc (Nat.le_refl _) _).grown hgrow (by simp) (fun k hk => by simp [Value.ownBlock] at hk; omega)

set_option maxHeartbeats 400000 in
theorem clone_any (b off cap : Nat) (zs : List Int) (w : World) (hc : ∀ i, i < zs.length → w.cell? ⟨b, off + i, none⟩ = some (.int .u8 (zs.getD i 0))) (hb : b < w.heap.size) (h0 : 0 < zs.length) (hl : zs.length ≤ 1048576) (n : Nat) (hn : n = zs.length) :
    Calls Tryz.prog 149 #[.slice (some ⟨b, off, none⟩) n cap] w fun e w' => ∃ g c, e = .returned (.slice (some ⟨g, 0, none⟩) n c) ∧ w'.ownsRow w.heap.size 5 1 (.slice (some ⟨g, 0, none⟩) n c) n (zs.map (Value.int .u8)) ∧ w.heap.size ≤ g ∧ g < w'.heap.size ∧ Below w.heap.size w w' := by
  obtain ⟨i0, hi, hz0, hz1, hz2⟩ := info_parts Tryz.infoU8
  have heq := fun w => Lib.run_eql_slice_nil (P := Tryz.prog) w 22 5 (some ⟨b, off, none⟩) n cap 0 0 Tryz.underlying22
  have HC := hide hc
  have HN := hide hn
  clear hc hn
  go_enter Tryz.func149, Tryz.ntmps149
  go_wp2_with (at_builtin; refine wpList_append_fresh rfl (.tmp 5) (.tmp 6) 22 rfl 5 i0 .u8 1 Tryz.underlying22 hi hz0 hz1 hz2 rfl b off n cap zs rfl HN.out hb HC.out h0 (by unfold maxLen; omega) (by omega) ?_)
  intro g c w' hown hg hgl hbel
  have HO := hide hown
  have HB := hide hbel
  clear hown hbel
  go_wp2
  go_ret
  exact ⟨g, c, rfl, HO.out, hg, hgl, HB.out⟩

def piece (zs : List Int) (i : Nat) : List Int := (zs.drop (8 * i)).take 8
def cut (zs : List Int) : List (List Int) := (List.range ((zs.length + 7) / 8)).map (piece zs)
theorem cut_length (zs : List Int) : (cut zs).length = (zs.length + 7) / 8 := by simp [cut]
theorem piece_length (zs : List Int) (i : Nat) : (piece zs i).length = min 8 (zs.length - 8 * i) := by simp [piece]
theorem piece_getD (zs : List Int) (i t : Nat) (h : t < (piece zs i).length) : (piece zs i).getD t 0 = zs.getD (8 * i + t) 0 := by
  rw [piece_length] at h
  have h8 : t < 8 := by omega
  simp [piece, List.getD_eq_getElem?_getD, h8, List.getElem?_drop]

def Grow2 (B : Nat) (w : World) (v : Value) (P : Nat → List Int) (j : Nat) : Prop :=
  ∃ A C : Nat → Nat, w.ownsRow B 22 1 v j ((List.range j).map fun i => .slice (some ⟨A i, 0, none⟩) (P i).length (C i)) ∧
    (∀ i, i < j → w.ownsRow B 5 1 (.slice (some ⟨A i, 0, none⟩) (P i).length (C i)) (P i).length ((P i).map (Value.int .u8))) ∧
    ∀ i i', i < j → i' < j → A i = A i' → i = i'

theorem Grow2.below {B : Nat} {w w' : World} {v : Value} {P : Nat → List Int} {j : Nat} (h : Grow2 B w v P j) (hk : Below w.heap.size w w') : Grow2 B w' v P j := by
  obtain ⟨A, C, h1, h2, h3⟩ := h
  exact ⟨A, C, ownsRow_below h1 hk, fun i hi => ownsRow_below (h2 i hi) hk, h3⟩

theorem Grow2.push {B : Nat} {w w1 w2 : World} {v v' : Value} {P : Nat → List Int} {j g c : Nat} {A C : Nat → Nat}
    (h1 : w.ownsRow B 22 1 v j ((List.range j).map fun i => .slice (some ⟨A i, 0, none⟩) (P i).length (C i)))
    (h2 : ∀ i, i < j → w.ownsRow B 5 1 (.slice (some ⟨A i, 0, none⟩) (P i).length (C i)) (P i).length ((P i).map (Value.int .u8)))
    (h3 : ∀ i i', i < j → i' < j → A i = A i' → i = i') (hB : B ≤ w.heap.size) (hbel : Below w.heap.size w w1)
    {n1 n2 : Nat} (hown : w1.ownsRow w.heap.size 5 1 (.slice (some ⟨g, 0, none⟩) n1 c) n1 ((P j).map (Value.int .u8))) (hg : w.heap.size ≤ g)
    (hv' : w2.ownsRow B 22 1 v' (j + 1) ((List.range j).map (fun i => Value.slice (some ⟨A i, 0, none⟩) (P i).length (C i)) ++ [.slice (some ⟨g, 0, none⟩) n2 c]))
    (hk : Kept (fun b => v.ownBlock = some b) w1 w2) (hn1 : n1 = (P j).length) (hn2 : n2 = (P j).length) : Grow2 B w2 v' P (j + 1) := by
  subst hn1 hn2
  have hA : ∀ i, i < j → A i < w.heap.size := fun i hi => ((h2 i hi).lt (A i) rfl).2
  have k1 := ownsRow_below h1 hbel
  refine ⟨fun i => if i = j then g else A i, fun i => if i = j then c else C i, ?_, ?_, ?_⟩
  · rw [List.range_succ, List.map_append]
    have e : (List.range j).map (fun i => Value.slice (some ⟨if i = j then g else A i, 0, none⟩) (P i).length (if i = j then c else C i)) = (List.range j).map (fun i => Value.slice (some ⟨A i, 0, none⟩) (P i).length (C i)) := by
      apply List.map_congr_left
      intro i hi
      have : i ≠ j := by have := List.mem_range.1 hi; omega
      simp [this]
    rw [e]
    simpa using hv'
  · intro i hi
    by_cases e : i = j
    · subst e
      simp only [if_true]
      exact ownsRow_kept (ownsRow_mono hown hB) hk (fun b hb hS => ownsRow_apart k1 hown (by decide) hS hb)
    · simp only [if_neg e]
      have k2 := ownsRow_below (h2 i (by omega)) hbel
      exact ownsRow_kept k2 hk (fun b hb hS => ownsRow_apart k1 k2 (by decide) hS hb)
  · intro i i' hi hi' he
    by_cases e : i = j
    · by_cases e' : i' = j
      · omega
      · simp only [if_pos e, if_neg e'] at he
        have := hA i' (by omega)
        omega
    · by_cases e' : i' = j
      · simp only [if_neg e, if_pos e'] at he
        have := hA i (by omega)
        omega
      · simp only [if_neg e, if_neg e'] at he
        exact h3 i i' (by omega) (by omega) he

theorem Tryz.infoBs : (Tryz.prog.info? 22).map (fun i => (i.zero, i.size, i.bytes)) = some (some (.slice none 0 0), 1, 24) := by kernel_rfl

set_option maxRecDepth 100000 in
set_option maxHeartbeats 800000 in
theorem l1Cut_any (a : Option Addr) (cap : Nat) (zs : List Int) (w : World) (h : Reads .u8 w a zs) (hcap : zs.length ≤ cap) (hl : zs.length ≤ 1048576) :
    Calls Tryz.prog 254 #[.slice a zs.length cap] w fun e w' => ∃ v, e = .returned v ∧ Grow2 w.heap.size w' v (piece zs) (cut zs).length ∧ Below w.heap.size w w' := by
  obtain ⟨i0, hi, hz0, hz1, hz2⟩ := info_parts Tryz.infoU8
  obtain ⟨i1, ki, kz0, kz1, kz2⟩ := info_parts Tryz.infoBs
  go_enter Tryz.func254, Tryz.ntmps254
  go_wp2
  go_loopw [3, 4, 5] (fun v i _ wr => ∃ j : Nat, 8 * j < zs.length + 8 ∧ i = .int .i64 (8 * (j : Int)) ∧ Grow2 w.heap.size wr v (piece zs) j ∧ Below w.heap.size w wr) (fun _ i _ _ => zs.length + 8 - (intOf i).toNat)
  case atStart => exact ⟨0, by omega, rfl, ⟨fun _ => 0, fun _ => 0, World.ownsRow_made w #[] 0 (Nat.le_refl _) (Nat.zero_le _) rfl, fun i hi => absurd hi (by omega), fun i i' hi => absurd hi (by omega)⟩, (Below.refl _ _).alloc (Nat.le_refl _) _⟩
  case round =>
    obtain ⟨j, hj, rfl, hgrow, hbel⟩ := hrel
    have hsz := hbel.size
    by_cases hlt : 8 * j < zs.length
    · obtain ⟨b, off, rfl, hb, hc⟩ := h (by intro e; simp [e] at hlt)
      obtain ⟨A, C, h1, h2, h3⟩ := hgrow
      have hlt' : 8 * (j : Int) < (zs.length : Int) := by omega
      have H1 := hide h1
      have H2 := hide h2
      have H3 := hide h3
      have HB := hide hbel
      have HC := hide hc
      clear h1 h2 h3 hbel hc h
      have hb' : b < wr.heap.size := Nat.lt_of_lt_of_le hb hsz
      have hcp : ∀ t, t < (piece zs j).length → wr.cell? ⟨b, off + 8 * j + t, none⟩ = some (.int .u8 ((piece zs j).getD t 0)) := fun t ht => by
        rw [piece_getD zs j t ht, Nat.add_assoc]
        exact (HB.out.cell (p := ⟨b, off + (8 * j + t), none⟩) hb).trans (HC.out (8 * j + t) (by rw [piece_length] at ht; omega))
      have HCP := hide hcp
      have hp0 : 0 < (piece zs j).length := by rw [piece_length]; omega
      have hp1 : (piece zs j).length ≤ maxLen := by rw [piece_length]; unfold maxLen; omega
      have hp2 : (piece zs j).length * 1 ≤ 140737488355328 := by rw [piece_length]; omega
      have hm1 : j + 1 ≤ maxLen := by unfold maxLen; omega
      have hm2 : (j + 1) * 24 ≤ 140737488355328 := by omega
      clear hcp
      by_cases hm : (zs.length : Int) < 8 * (j : Int) + 8
      · have hpl : zs.length - 8 * j = (piece zs j).length := by rw [piece_length]; omega
        have HPL := hide hpl
        clear hpl
        go_wp2_with (first | (at_builtin; refine wpList_append_fresh rfl (.tmp 19) (.tmp 23) 22 rfl 5 i0 .u8 1 Tryz.underlying22 hi hz0 hz1 hz2 rfl b (off + 8 * j) (zs.length - 8 * j) (cap - 8 * j) (piece zs j) rfl HPL.out hb' HCP.out hp0 hp1 hp2 ?_; intro g c w1 hown1 hg1 hgl1 hbel1; have k1 := hide (ownsRow_below H1.out hbel1); have HO1 := hide hown1; have HB1 := hide hbel1; have hsz1 : w.heap.size ≤ w1.heap.size := Nat.le_trans hsz hbel1.size; clear hown1 hbel1) | (at_builtin; refine wpList_append_one rfl (.tmp 18) (.tmp 25) 138 rfl w.heap.size 22 i1 (.slice none 0 0) 1 24 Tryz.underlying138 ki kz0 kz1 kz2 rfl (by decide) _ _ _ rfl k1.out rfl rfl (by intro u hu; simp at hu; subst hu; rfl) hm1 hm2 hsz1 ?_; intro v' w2 hown2 hkept; have hG : Hid (Grow2 w.heap.size w2 v' (piece zs) (j + 1)) := Grow2.push H1.out H2.out H3.out hsz HB1.out HO1.out hg1 hown2 hkept HPL.out (by first | exact HPL.out | (have := HPL.out; omega)); have hB2 := hide (Kept.below_own (HB.out.trans (HB1.out.mono hsz)) hsz1 k1.out hkept); clear hown2 hkept k1) | go_in)
        go_roundw
        case rel => exact ⟨j + 1, by omega, by go_num, hG.out, hB2.out⟩
        case measure => simp [intOf]; omega
      · have hpl : 8 * j + 8 - 8 * j = (piece zs j).length := by rw [piece_length]; omega
        have HPL := hide hpl
        clear hpl
        go_wp2_with (first | (at_builtin; refine wpList_append_fresh rfl (.tmp 19) (.tmp 23) 22 rfl 5 i0 .u8 1 Tryz.underlying22 hi hz0 hz1 hz2 rfl b (off + 8 * j) (8 * j + 8 - 8 * j) (cap - 8 * j) (piece zs j) rfl HPL.out hb' HCP.out hp0 hp1 hp2 ?_; intro g c w1 hown1 hg1 hgl1 hbel1; have k1 := hide (ownsRow_below H1.out hbel1); have HO1 := hide hown1; have HB1 := hide hbel1; have hsz1 : w.heap.size ≤ w1.heap.size := Nat.le_trans hsz hbel1.size; clear hown1 hbel1) | (at_builtin; refine wpList_append_one rfl (.tmp 18) (.tmp 25) 138 rfl w.heap.size 22 i1 (.slice none 0 0) 1 24 Tryz.underlying138 ki kz0 kz1 kz2 rfl (by decide) _ _ _ rfl k1.out rfl rfl (by intro u hu; simp at hu; subst hu; rfl) hm1 hm2 hsz1 ?_; intro v' w2 hown2 hkept; have hG : Hid (Grow2 w.heap.size w2 v' (piece zs) (j + 1)) := Grow2.push H1.out H2.out H3.out hsz HB1.out HO1.out hg1 hown2 hkept HPL.out (by first | exact HPL.out | (have := HPL.out; omega)); have hB2 := hide (Kept.below_own (HB.out.trans (HB1.out.mono hsz)) hsz1 k1.out hkept); clear hown2 hkept k1) | go_in)
        go_roundw
        case rel => exact ⟨j + 1, by omega, by go_num, hG.out, hB2.out⟩
        case measure => simp [intOf]; omega
    · have hje : j = (cut zs).length := by rw [cut_length]; omega
      subst hje
      go_wp2
      go_ret
      exact ⟨_, rfl, hgrow, hbel⟩


theorem Grow2.mono {B B' : Nat} {w : World} {v : Value} {P : Nat → List Int} {j : Nat} (h : Grow2 B w v P j) (hB : B' ≤ B) : Grow2 B' w v P j := by
  obtain ⟨A, C, h1, h2, h3⟩ := h
  exact ⟨A, C, ownsRow_mono h1 hB, fun i hi => ownsRow_mono (h2 i hi) hB, h3⟩
theorem Grow2.kept {S : Nat → Prop} {B : Nat} {w w' : World} {v : Value} {P : Nat → List Int} {j : Nat} (h : Grow2 B w v P j) (hk : Kept S w w') (hS : ∀ b, B ≤ b → ¬ S b) : Grow2 B w' v P j := by
  obtain ⟨A, C, h1, h2, h3⟩ := h
  exact ⟨A, C, ownsRow_kept h1 hk (fun b hb => hS b (h1.lt b hb).1), fun i hi => ownsRow_kept (h2 i hi) hk (fun b hb => hS b ((h2 i hi).lt b hb).1), h3⟩

set_option maxRecDepth 100000 in
set_option maxHeartbeats 800000 in
theorem implCutChunks_ok (a : Option Addr) (cap : Nat) (zs : List Int) (w : World) (h : Reads .u8 w a zs) (hcap : zs.length ≤ cap) (hl : zs.length ≤ 24) :
    Calls Tryz.prog 105 #[.slice a zs.length cap] w fun e w' => ∃ v, e = .returned (.agg #[.int .i64 0, v]) ∧ Grow2 w.heap.size w' v (piece zs) (cut zs).length ∧ Below w.heap.size w w' := by
  obtain ⟨i1, ki, kz0, kz1, kz2⟩ := info_parts Tryz.infoBs
  have hl' : ¬ (24 : Int) < (zs.length : Int) := by omega
  go_enter Tryz.func105, Tryz.ntmps105
  go_wp2
  go_loopw [3, 4, 5] (fun v i _ wr => ∃ j : Nat, 8 * j < zs.length + 8 ∧ i = .int .i64 (8 * (j : Int)) ∧ Grow2 (w.heap.size + 1) wr v (piece zs) j ∧ wr.cell? ⟨w.heap.size, 0, none⟩ = some (.int .i64 0) ∧ wr.cell? ⟨w.heap.size, 1, none⟩ = some (.slice none 0 0) ∧ wr.frozen? ⟨w.heap.size, 0, none⟩ = false ∧ wr.frozen? ⟨w.heap.size, 1, none⟩ = false ∧ w.heap.size + 1 ≤ wr.heap.size ∧ Below w.heap.size w wr) (fun _ i _ _ => zs.length + 8 - (intOf i).toNat)
  case atStart => exact ⟨0, by omega, rfl, ⟨fun _ => 0, fun _ => 0, World.ownsRow_nil _ _ _ _, fun i hi => absurd hi (by omega), fun i i' hi => absurd hi (by omega)⟩, by simp, by simp, by simp, by simp, by simp, (Below.refl _ _).alloc (Nat.le_refl _) _⟩
  case round =>
    obtain ⟨j, hj, rfl, hgrow, q0, q1, q2, q3, hsz, hbel⟩ := hrel
    by_cases hlt : 8 * j < zs.length
    · obtain ⟨b, off, rfl, hb, hc⟩ := h (by intro e; simp [e] at hlt)
      obtain ⟨A, C, h1, h2, h3⟩ := hgrow
      obtain ⟨av, cv, rfl⟩ := ownsRow_shape h1
      have hlt' : 8 * (j : Int) < (zs.length : Int) := by omega
      have H1 := hide h1
      have H2 := hide h2
      have H3 := hide h3
      have HB := hide hbel
      have HC := hide hc
      clear h1 h2 h3 hbel hc h
      have hb' : b < wr.heap.size := by omega
      have hcp : ∀ t, t < (piece zs j).length → wr.cell? ⟨b, off + 8 * j + t, none⟩ = some (.int .u8 ((piece zs j).getD t 0)) := fun t ht => by
        rw [piece_getD zs j t ht, Nat.add_assoc]
        exact (HB.out.cell (p := ⟨b, off + (8 * j + t), none⟩) hb).trans (HC.out (8 * j + t) (by rw [piece_length] at ht; omega))
      have HCP := hide hcp
      have hp0 : 0 < (piece zs j).length := by rw [piece_length]; omega
      have hp1 : (piece zs j).length ≤ 1048576 := by rw [piece_length]; omega
      have hm1 : j + 1 ≤ maxLen := by unfold maxLen; omega
      have hm2 : (j + 1) * 24 ≤ 140737488355328 := by omega
      clear hcp
      by_cases hm : (zs.length : Int) < 8 * (j : Int) + 8
      · have hpl : zs.length - 8 * j = (piece zs j).length := by rw [piece_length]; omega
        have HPL := hide hpl
        clear hpl
        go_wp2_with (first | (go_at_call 149; refine (clone_any b (off + 8 * j) (cap - 8 * j) (piece zs j) wr HCP.out hb' hp0 hp1 _ (by first | exact HPL.out | (have := HPL.out; omega))).mono ?_; rintro e w1 ⟨g, c, rfl, hown1, hg1, hgl1, hbel1⟩; have k1 := hide (ownsRow_below H1.out hbel1); have HO1 := hide hown1; have HB1 := hide hbel1; have hsz1 : w.heap.size + 1 ≤ w1.heap.size := Nat.le_trans hsz hbel1.size; clear hown1 hbel1) | (at_builtin; refine wpList_append_one rfl (.tmp 21) (.tmp 27) 138 rfl (w.heap.size + 1) 22 i1 (.slice none 0 0) 1 24 Tryz.underlying138 ki kz0 kz1 kz2 rfl (by decide) _ _ _ rfl k1.out rfl rfl (by intro u hu; simp at hu; subst hu; rfl) hm1 hm2 hsz1 ?_; intro v' w2 hown2 hkept; have hG : Hid (Grow2 (w.heap.size + 1) w2 v' (piece zs) (j + 1)) := Grow2.push H1.out H2.out H3.out hsz HB1.out HO1.out hg1 hown2 hkept (by first | exact HPL.out | (have := HPL.out; omega)) (by first | exact HPL.out | (have := HPL.out; omega)); have hN := hide (Kept.below hkept hsz1 (fun k hk' he => by have := (k1.out.lt k he).1; omega)); have hz2 := hide hkept.size; clear hown2 hkept k1))
        have hB1 := (HB1.out.mono hsz).trans hN.out
        go_roundw
        case rel => exact ⟨j + 1, by omega, by go_num, hG.out, (hB1.cell (p := ⟨w.heap.size, 0, none⟩) (by simp)).trans q0, (hB1.cell (p := ⟨w.heap.size, 1, none⟩) (by simp)).trans q1, (hB1.frozen (p := ⟨w.heap.size, 0, none⟩) (by simp)).trans q2, (hB1.frozen (p := ⟨w.heap.size, 1, none⟩) (by simp)).trans q3, Nat.le_trans hsz1 hz2.out, HB.out.trans (hB1.mono (by omega))⟩
        case measure => simp [intOf]; omega
      · have hpl : 8 * j + 8 - 8 * j = (piece zs j).length := by rw [piece_length]; omega
        have HPL := hide hpl
        clear hpl
        go_wp2_with (first | (go_at_call 149; refine (clone_any b (off + 8 * j) (cap - 8 * j) (piece zs j) wr HCP.out hb' hp0 hp1 _ (by first | exact HPL.out | (have := HPL.out; omega))).mono ?_; rintro e w1 ⟨g, c, rfl, hown1, hg1, hgl1, hbel1⟩; have k1 := hide (ownsRow_below H1.out hbel1); have HO1 := hide hown1; have HB1 := hide hbel1; have hsz1 : w.heap.size + 1 ≤ w1.heap.size := Nat.le_trans hsz hbel1.size; clear hown1 hbel1) | (at_builtin; refine wpList_append_one rfl (.tmp 21) (.tmp 27) 138 rfl (w.heap.size + 1) 22 i1 (.slice none 0 0) 1 24 Tryz.underlying138 ki kz0 kz1 kz2 rfl (by decide) _ _ _ rfl k1.out rfl rfl (by intro u hu; simp at hu; subst hu; rfl) hm1 hm2 hsz1 ?_; intro v' w2 hown2 hkept; have hG : Hid (Grow2 (w.heap.size + 1) w2 v' (piece zs) (j + 1)) := Grow2.push H1.out H2.out H3.out hsz HB1.out HO1.out hg1 hown2 hkept (by first | exact HPL.out | (have := HPL.out; omega)) (by first | exact HPL.out | (have := HPL.out; omega)); have hN := hide (Kept.below hkept hsz1 (fun k hk' he => by have := (k1.out.lt k he).1; omega)); have hz2 := hide hkept.size; clear hown2 hkept k1))
        have hB1 := (HB1.out.mono hsz).trans hN.out
        go_roundw
        case rel => exact ⟨j + 1, by omega, by go_num, hG.out, (hB1.cell (p := ⟨w.heap.size, 0, none⟩) (by simp)).trans q0, (hB1.cell (p := ⟨w.heap.size, 1, none⟩) (by simp)).trans q1, (hB1.frozen (p := ⟨w.heap.size, 0, none⟩) (by simp)).trans q2, (hB1.frozen (p := ⟨w.heap.size, 1, none⟩) (by simp)).trans q3, Nat.le_trans hsz1 hz2.out, HB.out.trans (hB1.mono (by omega))⟩
        case measure => simp [intOf]; omega
    · have hje : j = (cut zs).length := by rw [cut_length]; omega
      subst hje
      obtain ⟨av, cv, rfl⟩ : ∃ a c, u3 = .slice a (cut zs).length c := by obtain ⟨A, C, h1, h2, h3⟩ := hgrow; exact ownsRow_shape h1
      have HG := hide hgrow
      have HB := hide hbel
      clear hgrow hbel
      go_wp2
      refine bodyPost_ret (v := .agg #[.int .i64 0, .slice av (cut zs).length cv]) (by simp [results, Tryz.results105, go_sem, q0, q1]) rfl ⟨_, rfl, ?_, (HB.out.setCell (Nat.le_refl _) _).setCell (Nat.le_refl _) _⟩
      exact (HG.out.kept (S := fun b => b = w.heap.size) (Kept.two _ _ _ _ _ _) (fun b hb e => by omega)).mono (by omega)

set_option maxHeartbeats 400000 in
theorem implCutChunks_no (a : Option Addr) (cap : Nat) (zs : List Int) (w : World) (hl : 24 < zs.length) (hl2 : zs.length ≤ 1048576) :
    Calls Tryz.prog 105 #[.slice a zs.length cap] w fun e w' => e = .returned (.agg #[.int .i64 2, .slice none 0 0]) ∧ Below w.heap.size w w' := by
  have hl' : (24 : Int) < (zs.length : Int) := by omega
  go_enter Tryz.func105, Tryz.ntmps105
  go_wp2
  exact bodyPost_ret (v := .agg #[.int .i64 2, .slice none 0 0]) (by simp [results, Tryz.results105, go_sem]) rfl ⟨rfl, (Below.refl _ _).alloc (Nat.le_refl _) _⟩



end Go.Proofs.YteegkblkfdnfiaaGreat

namespace Go.Proofs.YteegkblkfdnfiaaGreat
open Go.RowKit
set_option linter.unusedVariables false

theorem Tryz.infoI64 : (Tryz.prog.info? 2).map (fun i => (i.zero, i.size, i.bytes)) = some (some (.int .i64 0), 1, 8) := by kernel_rfl







end Go.Proofs.YteegkblkfdnfiaaGreat

namespace Go.Proofs.YteegkblkfdnfiaaGreat
open Go.RowKit Go.Maps
set_option linter.unusedVariables false

theorem Tryz.infoEn : (Tryz.prog.info? 50).map (fun i => (i.zero, i.size, i.bytes)) = some (some (.agg #[.string ⟨#[]⟩, .int .i64 0, .int .i64 0, .slice none 0 0]), 4, 56) := by kernel_rfl

structure Rw where
  e : En
  a : Option Addr
  c : Nat
def cellsR (r : Rw) : List Value := [.string (str r.e.path), .int .i64 r.e.kind, .int .i64 r.e.size, .slice r.a r.e.chunks.length r.c]
def rowR (rs : List Rw) : List Value := rs.flatMap cellsR
theorem rowR_append (a b : List Rw) : rowR (a ++ b) = rowR a ++ rowR b := by simp [rowR]
theorem rowR_length : ∀ rs : List Rw, (rowR rs).length = rs.length * 4
  | [] => rfl
  | r :: rs => by
    have := rowR_length rs
    simp only [rowR, List.flatMap_cons, List.length_append, List.length_cons] at this ⊢
    rw [this]; simp [cellsR]; omega
theorem rowR_get : ∀ (rs : List Rw) (i q : Nat) (r : Rw), rs[i]? = some r → q < 4 → (rowR rs)[i * 4 + q]? = (cellsR r)[q]?
  | [], i, q, r, h, _ => by simp at h
  | x :: rs, 0, q, r, h, hq => by
    simp only [List.getElem?_cons_zero, Option.some.injEq] at h
    subst h
    simp only [rowR, List.flatMap_cons, Nat.zero_mul, Nat.zero_add]
    rw [List.getElem?_append_left (by simp [cellsR]; omega)]
  | x :: rs, i + 1, q, r, h, hq => by
    have := rowR_get rs i q r (by simpa using h) hq
    rw [← this]
    simp only [rowR, List.flatMap_cons]
    rw [List.getElem?_append_right (by simp [cellsR]; omega)]
    congr 1
    simp [cellsR]; omega
theorem rowR_one (rs : List Rw) : ∀ u ∈ rowR rs, u.oneCell' = true := by
  intro u hu
  simp only [rowR, List.mem_flatMap] at hu
  obtain ⟨r, _, hr⟩ := hu
  simp only [cellsR, List.mem_cons, List.not_mem_nil, or_false] at hr
  rcases hr with rfl | rfl | rfl | rfl <;> rfl

def SE (B : Nat) (w : World) (v : Value) (es : List En) : Prop :=
  ∃ rs : List Rw, rs.map Rw.e = es ∧ w.ownsRow B 50 4 v es.length (rowR rs) ∧ ∀ r ∈ rs, Reads .i64 w r.a r.e.chunks
def GE (B T : Nat) (w : World) (v : Value) (es : List En) : Prop :=
  ∃ rs : List Rw, rs.map Rw.e = es ∧ w.ownsRow B 50 4 v es.length (rowR rs) ∧
    (∀ r ∈ rs, w.ownsRow B 2 1 (.slice r.a r.e.chunks.length r.c) r.e.chunks.length (r.e.chunks.map (Value.int .i64))) ∧
    rs.Pairwise (fun r r' => ∀ g, r.a.map Addr.block = some g → r'.a.map Addr.block ≠ some g) ∧
    (∀ r ∈ rs, ∀ g, r.a.map Addr.block = some g → g < T) ∧ ∀ b, v.ownBlock = some b → b < T

theorem ownInts_reads {w : World} {B : Nat} {e : TypeId} {k : IntKind} {a : Option Addr} {n c : Nat} {zs : List Int} (h : w.ownsRow B e 1 (.slice a n c) n (zs.map (Value.int k))) (hn : n = zs.length) : Reads k w a zs := by
  intro hz
  have h0 : 0 < n := by rw [hn]; exact List.length_pos_iff.2 hz
  obtain ⟨g, cap, hv, hg, hgl, hc, hf⟩ := ownsRow_ints h hn h0
  simp only [Value.slice.injEq, true_and] at hv
  exact ⟨g, 0, hv.1, hgl, fun i hi => by rw [Nat.zero_add]; exact hc i (by omega)⟩
theorem GE.se {B T : Nat} {w : World} {v : Value} {es : List En} (h : GE B T w v es) : SE B w v es := by
  obtain ⟨rs, e, h1, h2, _⟩ := h
  exact ⟨rs, e, h1, fun r hr => ownInts_reads (h2 r hr) rfl⟩
theorem SE.shape {B : Nat} {w : World} {v : Value} {es : List En} (h : SE B w v es) : ∃ a c, v = .slice a es.length c := by
  obtain ⟨rs, _, h1, _⟩ := h
  exact ownsRow_shape h1
theorem SE.rd {B : Nat} {w : World} {a : Option Addr} {n c : Nat} {es : List En} (h : SE B w (.slice a n c) es) : RdE w a es := by
  intro hz
  obtain ⟨rs, he, h1, h2⟩ := h
  have h0 : 0 < es.length := List.length_pos_iff.2 hz
  have hl : rs.length = es.length := by rw [← he, List.length_map]
  rcases h1.2 with ⟨_, h0'⟩ | ⟨g, cap, cur, h', hb, hh, hnc, hcm, hcs, htake⟩
  · omega
  · simp only [Value.slice.injEq] at h'
    obtain ⟨rfl, rfl, rfl⟩ := h'
    refine ⟨g, 0, fun i => (rs[i]?.map Rw.a).getD none, fun i => (rs[i]?.map Rw.c).getD 0, rfl, (h1.lt g rfl).2, fun i e hi => ?_⟩
    have hi0 : i < es.length := (List.getElem?_eq_some_iff.1 hi).1
    obtain ⟨r, hr⟩ : ∃ r, rs[i]? = some r := ⟨rs[i]'(by omega), List.getElem?_eq_getElem (by omega)⟩
    have hre : r.e = e := by
      have : (rs.map Rw.e)[i]? = some r.e := by rw [List.getElem?_map, hr]; rfl
      rw [he, hi] at this
      exact (Option.some.inj this).symm
    have hc := fun q hq => (h1.cellAt (i * 4 + q) (by omega)).trans (rowR_get rs i q r hr hq)
    simp only [hr, Option.map_some, Option.getD_some, Nat.zero_add]
    rw [← hre]
    exact ⟨hc 0 (by decide), hc 1 (by decide), hc 2 (by decide), hc 3 (by decide), h2 r (List.mem_of_getElem? hr)⟩
theorem GE.rd {B T : Nat} {w : World} {a : Option Addr} {n c : Nat} {es : List En} (h : GE B T w (.slice a n c) es) : RdE w a es := h.se.rd
theorem own_block {a : Option Addr} {n c g : Nat} (hb : (Value.slice a n c).ownBlock = some g) : a.map Addr.block = some g := by
  cases a with
  | none => simp [Value.ownBlock] at hb
  | some x => simpa [Value.ownBlock] using hb
theorem block_own {a : Option Addr} {n c g : Nat} (hb : a.map Addr.block = some g) : (Value.slice a n c).ownBlock = some g := by
  cases a with
  | none => simp at hb
  | some x => simpa [Value.ownBlock] using hb
theorem GE.kept {S : Nat → Prop} {B T : Nat} {w w' : World} {v : Value} {es : List En} (h : GE B T w v es) (hk : Kept S w w') (hS : ∀ b, B ≤ b → b < T → ¬ S b) : GE B T w' v es := by
  obtain ⟨rs, he, h1, h2, h3, h4, h5⟩ := h
  exact ⟨rs, he, ownsRow_kept h1 hk (fun b hb => hS b (h1.lt b hb).1 (h5 b hb)), fun r hr => ownsRow_kept (h2 r hr) hk (fun b hb => hS b ((h2 r hr).lt b hb).1 (h4 r hr b (own_block hb))), h3, h4, h5⟩
theorem GE.mono {B B' T : Nat} {w : World} {v : Value} {es : List En} (h : GE B T w v es) (hB : B' ≤ B) : GE B' T w v es := by
  obtain ⟨rs, he, h1, h2, h3, h4, h5⟩ := h
  exact ⟨rs, he, ownsRow_mono h1 hB, fun r hr => ownsRow_mono (h2 r hr) hB, h3, h4, h5⟩
theorem GE.wide {B T T' : Nat} {w : World} {v : Value} {es : List En} (h : GE B T w v es) (hT : T ≤ T') : GE B T' w v es := by
  obtain ⟨rs, he, h1, h2, h3, h4, h5⟩ := h
  exact ⟨rs, he, h1, h2, h3, fun r hr g hg => Nat.lt_of_lt_of_le (h4 r hr g hg) hT, fun b hb => Nat.lt_of_lt_of_le (h5 b hb) hT⟩
theorem GE.nil (B T : Nat) (w : World) : GE B T w (.slice none 0 0) [] :=
  ⟨[], rfl, World.ownsRow_nil _ _ _ _, fun r hr => by simp at hr, List.Pairwise.nil, fun r hr => by simp at hr, fun b hb => by simp [Value.ownBlock] at hb⟩
theorem GE.push {B : Nat} {w w1 w2 : World} {v v' : Value} {es : List En} {rs : List Rw} {e : En} {a : Option Addr} {c : Nat} (he : rs.map Rw.e = es)
    (h1 : w.ownsRow B 50 4 v es.length (rowR rs))
    (h2 : ∀ r ∈ rs, w.ownsRow B 2 1 (.slice r.a r.e.chunks.length r.c) r.e.chunks.length (r.e.chunks.map (Value.int .i64)))
    (h3 : rs.Pairwise (fun r r' => ∀ g, r.a.map Addr.block = some g → r'.a.map Addr.block ≠ some g)) (hB : B ≤ w.heap.size) (hbel : Below w.heap.size w w1)
    (hown : w1.ownsRow w.heap.size 2 1 (.slice a e.chunks.length c) e.chunks.length (e.chunks.map (Value.int .i64)))
    (hv' : w2.ownsRow B 50 4 v' (es.length + 1) (rowR rs ++ cellsR ⟨e, a, c⟩))
    (hk : Kept (fun b => v.ownBlock = some b) w1 w2) : GE B w2.heap.size w2 v' (es ++ [e]) := by
  have hA : ∀ r ∈ rs, ∀ g', r.a.map Addr.block = some g' → g' < w.heap.size := fun r hr g' hg => ((h2 r hr).lt g' (block_own hg)).2
  have hg0 : ∀ g', a.map Addr.block = some g' → w.heap.size ≤ g' ∧ g' < w1.heap.size := fun g' hg => hown.lt g' (block_own hg)
  have k1 := ownsRow_below h1 hbel
  have hsz := hk.size
  have hsz1 := hbel.size
  refine ⟨rs ++ [⟨e, a, c⟩], by rw [List.map_append, he]; rfl, ?_, ?_, ?_, ?_, fun b hb => (hv'.lt b hb).2⟩
  · rw [rowR_append, List.length_append]
    simpa [rowR] using hv'
  · intro r hr
    rcases List.mem_append.1 hr with hr | hr
    · have k2 := ownsRow_below (h2 r hr) hbel
      exact ownsRow_kept k2 hk (fun b hb hS => ownsRow_apart k1 k2 (by decide) hS hb)
    · simp only [List.mem_singleton] at hr
      subst hr
      exact ownsRow_kept (ownsRow_mono hown hB) hk (fun b hb hS => ownsRow_apart k1 hown (by decide) hS hb)
  · rw [List.pairwise_append]
    refine ⟨h3, List.pairwise_singleton _ _, fun r hr r' hr' g hg hg' => ?_⟩
    simp only [List.mem_singleton] at hr'
    subst hr'
    have := hA r hr g hg
    have := hg0 g hg'
    omega
  · intro r hr g hg
    rcases List.mem_append.1 hr with hr | hr
    · have := hA r hr g hg
      omega
    · simp only [List.mem_singleton] at hr
      subst hr
      have := hg0 g hg
      omega
end Go.Proofs.YteegkblkfdnfiaaGreat

namespace Go.Proofs.YteegkblkfdnfiaaGreat
open Go.RowKit Go.Maps
set_option linter.unusedVariables false
attribute [local go_sem ↓] Go.wp_at_zero Go.wp_at_succ

theorem wpList_append_put {P : Program} {wr : World} {news : Array Value} {ops : Array Oper} {rest : List Oper} {o : Oper} {a : Act} {Q : Exit → Act → World → Prop} (hgd : o.guard = none) (s x : Operand) (t : TypeId)
    (ho : o.op = .call { callee := .builtin .append, args := #[s, x], argTypes := #[t, t] })
    (base : Nat) (e : TypeId) (i : TypeInfo) (z : Value) (size bytes : Nat) (ht : P.underlying t = some (.slice e)) (hi : P.info? e = some i) (hz : i.zero = some z)
    (hsize : i.size = size) (hby : i.bytes = bytes) (hzs : z.cells.size = size) (hsz : 0 < size)
    (v : Value) (n : Nat) (xs : List Value) (hs : a.eval s = v) (hown : wr.ownsRow base e size v n xs)
    (H : Nat) (hH : wr.heap.size = H) (hx : a.eval x = .slice (some ⟨H, 0, none⟩) 1 1) (hl : news.size = size) (h1 : ∀ u ∈ news.toList, u.oneCell' = true)
    (h63 : n + 1 ≤ maxLen) (hbytes : (n + 1) * bytes ≤ 140737488355328) (hbase : base ≤ wr.heap.size)
    (h : ∀ av cv w', w'.ownsRow base e size (.slice av (n + 1) cv) (n + 1) (xs ++ news.toList) → Kept (fun b => v.ownBlock = some b) wr w' → wpList P ops Q rest (a.put o.dst (.slice av (n + 1) cv)) w') :
    wpList P ops Q (o :: rest) a (wr.alloc (.cells news e)) := by
  subst hH
  refine wpList_append_one hgd s x t ho base e i z size bytes ht hi hz hsize hby hzs hsz v n xs hs hown hx hl h1 h63 hbytes hbase fun v' w' h2 h3 => ?_
  obtain ⟨av, cv, rfl⟩ := ownsRow_shape h2
  exact h av cv w' h2 h3

theorem row_addr {w : World} {B : Nat} {e : TypeId} {size n : Nat} {a : Option Addr} {c : Nat} {xs : List Value} (h : w.ownsRow B e size (.slice a n c) n xs) (hn : 0 < n ∨ ∃ g, (Value.slice a n c).ownBlock = some g) : ∃ g, a = some ⟨g, 0, none⟩ ∧ n ≤ c := by
  rcases h.2 with ⟨h', h0⟩ | ⟨g, cap, cur, h', _, _, hnc, _⟩
  · simp only [Value.slice.injEq] at h'
    rcases hn with hn | ⟨g, hg⟩
    · omega
    · rw [h'.1] at hg; simp [Value.ownBlock] at hg
  · simp only [Value.slice.injEq, true_and] at h'
    exact ⟨g, h'.1, by rw [h'.2]; exact hnc⟩
theorem GE.addr {B T : Nat} {w : World} {a : Option Addr} {n c : Nat} {es : List En} (h : GE B T w (.slice a n c) es) (hn : n = es.length) (ho : 0 < n ∨ ∃ g, (Value.slice a n c).ownBlock = some g) : ∃ g, a = some ⟨g, 0, none⟩ ∧ n ≤ c := by
  subst hn
  obtain ⟨rs, _, h1, _⟩ := h
  exact row_addr h1 ho
theorem GE.shape {B T : Nat} {w : World} {v : Value} {es : List En} (h : GE B T w v es) : ∃ a c, v = .slice a es.length c := h.se.shape
theorem take_len {α : Type} {es : List α} {k : Nat} (h : k ≤ es.length) : (es.take k).length = k := by rw [List.length_take]; omega

end Go.Proofs.YteegkblkfdnfiaaGreat

namespace Go.Proofs.YteegkblkfdnfiaaGreat
open Go.RowKit Go.Maps
set_option linter.unusedVariables false
attribute [local go_sem ↓] Go.wp_at_zero Go.wp_at_succ

theorem RdE.one {w : World} {b off : Nat} {es : List En} {k : Nat} {e : En} (h : RdE w (some ⟨b, off, none⟩) es) (he : es[k]? = some e) : RdE w (some ⟨b, off + k * 4, none⟩) [e] := by
  intro _
  have hk := (List.getElem?_eq_some_iff.1 he).1
  obtain ⟨b', off', A, C, e1, hb, hc⟩ := h (by intro e; simp [e] at hk)
  simp only [Option.some.injEq, Addr.mk.injEq, and_true] at e1
  obtain ⟨rfl, rfl⟩ := e1
  refine ⟨b, off + k * 4, fun _ => A k, fun _ => C k, rfl, hb, fun i x hx => ?_⟩
  have hi : i = 0 := by
    have := (List.getElem?_eq_some_iff.1 hx).1
    simp at this
    exact this
  subst hi
  simp only [List.getElem?_cons_zero, Option.some.injEq] at hx
  subst hx
  simp only [Nat.zero_mul, Nat.add_zero]
  exact hc k e he

def ResE (q : Int) (es : List En) (w : World) (r : Ending) (w' : World) : Prop :=
  ∃ av cv, r = .returned (.agg #[.int .i64 q, .slice av es.length cv]) ∧ GE w.heap.size w'.heap.size w' (.slice av es.length cv) es ∧ Below w.heap.size w w'
theorem ResE.of {q : Int} {es : List En} {w w2 w3 : World} {B b n : Nat} {av : Option Addr} {cv : Nat} {u v : Value} (hB : b < B) (hw : w.heap.size ≤ b) (hn : n = es.length) (hG : GE B w3.heap.size w3 (.slice av n cv) es) (hb : Below w.heap.size w w3) :
    ResE q es w (.returned (.agg #[.int .i64 q, .slice av n cv])) ((w3.setCell ⟨b, 0, none⟩ u).setCell ⟨b, 1, none⟩ v) := by
  subst hn
  refine ⟨av, cv, rfl, ?_, (hb.setCell hw _).setCell hw _⟩
  have hs : ((w3.setCell ⟨b, 0, none⟩ u).setCell ⟨b, 1, none⟩ v).heap.size = w3.heap.size := by simp [World.setCell]
  rw [hs]
  exact (hG.kept (Kept.two w3 b 0 1 u v) (fun x h1 _ h2 => by omega)).mono (by omega)
theorem ResE.bad {q : Int} {w w3 : World} {b : Nat} {u v : Value} (hw : w.heap.size ≤ b) (hb : Below w.heap.size w w3) :
    ResE q [] w (.returned (.agg #[.int .i64 q, .slice none 0 0])) ((w3.setCell ⟨b, 0, none⟩ u).setCell ⟨b, 1, none⟩ v) :=
  ⟨none, 0, rfl, GE.nil _ _ _, (hb.setCell hw _).setCell hw _⟩


end Go.Proofs.YteegkblkfdnfiaaGreat

namespace Go.Proofs.YteegkblkfdnfiaaGreat
open Go.RowKit Go.Maps
set_option linter.unusedVariables false
attribute [local go_sem ↓] Go.wp_at_zero Go.wp_at_succ

def goesE (p : Bs) (also : Bool) (e : En) : Bool := belowB e.path p || (also && decide (e.path = p))
def restE (es : List En) (p : Bs) (also : Bool) : List En := es.filter fun e => !(goesE p also e)
theorem restE_len (es : List En) (p : Bs) (also : Bool) : (restE es p also).length ≤ es.length := List.length_filter_le _ _
end Go.Proofs.YteegkblkfdnfiaaGreat

namespace Go.Proofs.YteegkblkfdnfiaaGreat
open Go.RowKit Go.Maps
set_option linter.unusedVariables false
attribute [local go_sem ↓] Go.wp_at_zero Go.wp_at_succ

def keepE (e x : En) : Bool := !(decide (x.path = e.path)) && (dirK e.kind || !(belowB x.path e.path))
def baseE (es : List En) (e : En) : List En := es.filter (keepE e)
def lowN (es : List En) (p : Bs) : Nat := (es.takeWhile fun x => Op.bytesLess x.path p).length
def putAt (rs : List En) (e : En) : List En := rs.take (lowN rs e.path) ++ e :: rs.drop (lowN rs e.path)
def putE (es : List En) (e : En) : List En := putAt (baseE es e) e

theorem step_append_list {P : Program} {w : World} {ops : Array Oper} {o : Oper} {a : Act} {K : Act → World → Prop} {Q : Exit → Act → World → Prop} {E : Prop} (hgd : o.guard = none) (s x : Operand) (t : TypeId)
    (ho : o.op = .call { callee := .builtin .append, args := #[s, x], argTypes := #[t, t] })
    (base : Nat) (e : TypeId) (i : TypeInfo) (z : Value) (size bytes : Nat) (ht : P.underlying t = some (.slice e)) (hi : P.info? e = some i) (hz : i.zero = some z)
    (hsize : i.size = size) (hby : i.bytes = bytes) (hzs : z.cells.size = size) (hsz : 0 < size)
    (v : Value) (n : Nat) (xs : List Value) (hs : a.eval s = v) (hown : w.ownsRow base e size v n xs)
    (ad : Addr) (m c : Nat) (news : List Value) (hx : a.eval x = .slice (some ad) m c) (hl : news.length = m * size) (hnews : ∀ j u, news[j]? = some u → w.cell? (ad.add j) = some u) (h1 : ∀ u ∈ news, u.oneCell' = true)
    (N : Nat) (hN : n + m = N) (h63 : n + m ≤ maxLen) (hbytes : (n + m) * bytes ≤ 140737488355328) (hbase : base ≤ w.heap.size)
    (h : ∀ av cv w', w'.ownsRow base e size (.slice av N cv) N (xs ++ news) → Kept (fun b => v.ownBlock = some b) w w' → K (a.put o.dst (.slice av N cv)) w') :
    if Region.wanted o (yielded ops a.tmps) = true then Oper.wp P o a w K Q else E := by
  have hw : Region.wanted o (yielded ops a.tmps) = true := by simp [Region.wanted, hgd]
  rw [if_pos hw]
  refine wp_append_own w s x t ho base e i z size bytes ht hi hz hsize hby hzs hsz v n xs hs hown ad m c news hx hl hnews h1 h63 hbytes hbase fun v' w' h2 h3 _ => ?_
  rw [hN] at h2
  obtain ⟨av, cv, rfl⟩ := ownsRow_shape h2
  exact h av cv w' h2 ⟨h3.os, h3.tape, h3.output, h3.size, fun q hq hn => h3.block q hq (fun e => hn e.symm)⟩
theorem add_addr (b o j : Nat) : (⟨b, o, none⟩ : Addr).add j = ⟨b, o + j, none⟩ := by unfold Addr.add; split <;> simp_all
theorem news_four {w : World} {H : Nat} {u0 u1 u2 u3 : Value} {t : TypeId} (hH : w.heap.size = H) : ∀ j x, [u0, u1, u2, u3][j]? = some x → (w.alloc (.cells #[u0, u1, u2, u3] t)).cell? ((⟨H, 0, none⟩ : Addr).add j) = some x := by
  subst hH
  intro j x hj
  rw [add_addr, Nat.zero_add, cell_of_row _ w.heap.size j #[u0, u1, u2, u3] t (0, 0) (heap_alloc_new w _)]
  simpa using hj
end Go.Proofs.YteegkblkfdnfiaaGreat

