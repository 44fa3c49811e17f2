/-
  Texts put together: SnqH SnqI SnpQ SnqA.
-/
import Derived.Test.YtolnlfnndnpiiaaGreatKGrows16
import Derived.Test.YtolnlfnndnpiiaaGreatKGrows14
namespace Go.Proofs.YtolnlfnndnpiiaaGreat
open Go.RowKit Go.Maps
set_option linter.unusedVariables false
attribute [local go_sem ↓] Go.wp_at_zero Go.wp_at_succ

theorem wpList_append_none {P : Program} {w : World} {ops : Array Oper} {rest : List Oper} {o : Oper} {a : Act} {Q : Exit → Act → World → Prop} (hgd : o.guard = none) (s x : Operand) (t : TypeId)
    (ho : o.op = .call { callee := .builtin .append, args := #[s, x], argTypes := #[t, t] })
    (e : TypeId) (i : TypeInfo) (hu : P.underlying t = some (.slice e)) (hi : P.info? e = some i)
    (g c n cap : Nat) (hc : n ≤ c) (hs : a.eval s = .slice (some ⟨g, 0, none⟩) n c) (hx : a.eval x = .slice none 0 cap)
    (h : wpList P ops Q rest (a.put o.dst (.slice (some ⟨g, 0, none⟩) n c)) w) :
    wpList P ops Q (o :: rest) a w := by
  have hrun : (Builtin.append_ #[t, t] o.type #[.slice (some ⟨g, 0, none⟩) n c, .slice none 0 cap]).run P w = .ok (.slice (some ⟨g, 0, none⟩) n c) w := by
    simp [Builtin.append_, run_underlying hu, sizeOf, typeInfo, hi, Builtin.lenOf, Builtin.firstCells, storeCells, hc]
  refine wpList_plain hgd fun K hK => ?_
  unfold Oper.wp execOp
  simp only [ho, resolve, invoke, builtin, Sem.run_bind, Sem.run_pure, Result.andThen_ok, List.map_toArray, List.map_cons, List.map_nil, hs, hx, hrun]
  exact hK _ _ h
theorem step_append_none {P : Program} {w : World} {ops : Array Oper} {o : Oper} {a : Act} {K : Act → World → Prop} {Q : Exit → Act → World → Prop} {E : Prop} (hgd : o.guard = none) (s x : Operand) (t : TypeId)
    (ho : o.op = .call { callee := .builtin .append, args := #[s, x], argTypes := #[t, t] })
    (e : TypeId) (i : TypeInfo) (hu : P.underlying t = some (.slice e)) (hi : P.info? e = some i)
    (g c n cap : Nat) (hc : n ≤ c) (hs : a.eval s = .slice (some ⟨g, 0, none⟩) n c) (hx : a.eval x = .slice none 0 cap)
    (h : K (a.put o.dst (.slice (some ⟨g, 0, none⟩) n c)) w) :
    if Region.wanted o (yielded ops a.tmps) = true then Oper.wp P o a w K Q else E := by
  have hw : Region.wanted o (yielded ops a.tmps) = true := by simp [Region.wanted, hgd]
  rw [if_pos hw]
  have hrun : (Builtin.append_ #[t, t] o.type #[.slice (some ⟨g, 0, none⟩) n c, .slice none 0 cap]).run P w = .ok (.slice (some ⟨g, 0, none⟩) n c) w := by
    simp [Builtin.append_, run_underlying hu, sizeOf, typeInfo, hi, Builtin.lenOf, Builtin.firstCells, storeCells, hc]
  unfold Oper.wp execOp
  simp only [ho, resolve, invoke, builtin, Sem.run_bind, Sem.run_pure, Result.andThen_ok, List.map_toArray, List.map_cons, List.map_nil, hs, hx, hrun]
  exact h
set_option maxRecDepth 100000 in
set_option maxHeartbeats 6400000 in
theorem l12New_none (s : Sn) (x : Option Addr) (cc : Nat) (w : World) (hx : RdE w x s.layer) (hs1 : s.name.length ≤ 1048576) (hs2 : s.parent.length ≤ 1048576) (hs3' : s.layer.length ≤ 1048576) (hs4 : SmallE s.layer) :
    Calls Tryz.prog 54 #[.slice none 0 0, .agg #[.string (str s.name), .string (str s.parent), .int .i64 s.kind, .bool s.lease, .slice x s.layer.length cc]] w fun r w' => (growM [] s ≠ 0 ∧ ResM' 0 (growM [] s) [] w r w') ∨ (growM [] s = 0 ∧ ResM' 0 0 (putN [] s) w r w') := by
  obtain ⟨i1, ki, kz0, kz1, kz2⟩ := info_parts Tryz.infoSn
  have X5 := hide ((Box5.new w (.string (str s.name)) (.string (str s.parent)) (.int .i64 s.kind) (.bool s.lease) (.slice x s.layer.length cc) 37).below (below_alloc _ (.cells #[.int .i64 0, .int .i64 0, .slice none 0 0] 28)))
  have X3 := hide (Box3.new (w.alloc (.cells #[.string (str s.name), .string (str s.parent), .int .i64 s.kind, .bool s.lease, .slice x s.layer.length cc] 37)) (.int .i64 0) (.int .i64 0) (.slice none 0 0) 28)
  have hsa : (w.alloc (.cells #[.string (str s.name), .string (str s.parent), .int .i64 s.kind, .bool s.lease, .slice x s.layer.length cc] 37)).heap.size = w.heap.size + 1 := by simp
  rw [hsa] at X3
  clear hsa
  have B0 := hide (below_next (below_alloc w (.cells #[.string (str s.name), .string (str s.parent), .int .i64 s.kind, .bool s.lease, .slice x s.layer.length cc] 37)) (below_alloc _ (.cells #[.int .i64 0, .int .i64 0, .slice none 0 0] 28)))
  have hW0 : ((w.alloc (.cells #[.string (str s.name), .string (str s.parent), .int .i64 s.kind, .bool s.lease, .slice x s.layer.length cc] 37)).alloc (.cells #[.int .i64 0, .int .i64 0, .slice none 0 0] 28)).heap.size = w.heap.size + 2 := by simp
  have HXR := hide (hx.below B0.out)
  have HS4 := hide hs4
  clear hs4 hx
  go_enter Tryz.func54, Tryz.ntmps54
  go_upto_region 1 with fail
  generalize (w.alloc (.cells #[.string (str s.name), .string (str s.parent), .int .i64 s.kind, .bool s.lease, .slice x s.layer.length cc] 37)).alloc (.cells #[.int .i64 0, .int .i64 0, .slice none 0 0] 28) = W0 at *
  obtain ⟨f0, f1, f2, f3, f4⟩ := X5.out.1
  go_wp2_with fail
  refine (l12Name_any s.name W0 hs1).mono ?_
  rintro r w1 ⟨rfl, hw1⟩
  subst hw1
  cases hnm : nmOk s.name
  · have HNK := hide hnm
    clear hnm
    go_wp2_with fail
    have HQ : Hid (growM [] s = 5) := hide (by unfold growM; rw [HNK.out]; rfl)
    refine (l12Reply_any none 0 0 [] 5 _ (RdS.nil _ _) rfl (by simp) ⟨by simp, fun y hy => by simp at hy⟩).mono ?_
    rintro r w9 ⟨av, cv, rfl, hG, hb9⟩
    have G9 := hide hG
    have B9 := hide (below_next B0.out hb9)
    obtain ⟨⟨t0, t1, t2⟩, t3, t4, t5⟩ := X3.out.below hb9
    clear hG hb9
    simp only [List.length_nil] at G9 ⊢
    go_wp2_with fail
    exact bodyPost_ret (v := .agg #[.int .i64 0, .int .i64 5, .slice av 0 cv]) (by simp [results, Tryz.results54, go_sem, t0, t1, t2]) rfl (.inl ⟨by rw [HQ.out]; decide, by rw [HQ.out]; exact ResM'.of (B := w1.heap.size) (by omega) (by omega) rfl G9.out B9.out⟩)
  · have HNK := hide hnm
    clear hnm
    go_wp2_with fail
    refine (l12At_any none 0 0 [] s.name w1 (RdS.nil _ _) rfl (by simp)).mono ?_
    rintro r w2 ⟨rfl, hw2⟩
    subst hw2
    simp only [show plS [] s.name = none from rfl, placeI]
    by_cases hpa : s.parent = []
    · have hpe : (str s.parent).toList.isEmpty = true := by rw [hpa, str_toList]; rfl
      have hdz : deepS [] s.parent = 0 := by unfold deepS; rw [if_pos hpa, lineS_none]; rfl
      have HQ0 : Hid (growM [] s = 0) := hide (by unfold growM; rw [HNK.out, hdz]; simp only [if_true, atS, List.find?_nil, Option.isSome_none, Bool.false_eq_true, if_false]; rw [if_pos hpa]; rfl)
      clear hpa
      go_wp2_with fail
      refine (l12Deep_any none 0 0 [] s.parent w2 (RdS.nil _ _) rfl (by simp) (fun y hy => by simp at hy)).mono ?_
      rintro r w3 ⟨rfl, hw3⟩
      subst hw3
      rw [hdz]
      clear hdz
      go_wp2_with fail
      obtain ⟨W1, hW1⟩ : ∃ W1, W1 = w3 := ⟨_, rfl⟩
      subst hW1
      go_loopw [6] (fun i wr => i = .int .i64 0 ∧ Hid (Below W1.heap.size W1 wr)) (fun i _ => 0)
      case atStart => exact ⟨rfl, hide (Below.refl _ _)⟩
      case round =>
        obtain ⟨rfl, HW⟩ := hrel
        go_wp2_with fail
        go_quiet (fail)
        have HWk := hide (below_drewN HW.out nq)
        clear HW
        generalize wr.drewN nq = W2 at HWk ⊢
        have hsW := HWk.out.size
        go_wp2_with (at_builtin; refine wpList_append_none rfl (.tmp 68) (.tmp 71) 24 rfl 37 i1 Tryz.underlying24 ki W2.heap.size 0 0 0 (Nat.le_refl _) rfl rfl ?_)
        have BW3 := hide (below_alloc W2 (.cells #[] 37))
        have OWN0 : Hid ((W2.alloc (.cells #[] 37)).ownsRow W2.heap.size 37 5 (.slice (some ⟨W2.heap.size, 0, none⟩) 0 0) 0 []) := World.ownsRow_made W2 #[] 0 (Nat.le_refl _) (Nat.zero_le _) rfl
        have hs3 : W2.heap.size ≤ (W2.alloc (.cells #[] 37)).heap.size := BW3.out.size
        generalize W2.alloc (.cells #[] 37) = w3 at *
        have B3 := hide (below_next HWk.out BW3.out)
        have KC : Hid (∀ w5 : World, Below W2.heap.size W2 w5 → w5.cell? ⟨w.heap.size, 0, none⟩ = some (.string (str s.name)) ∧ w5.cell? ⟨w.heap.size, 1, none⟩ = some (.string (str s.parent)) ∧ w5.cell? ⟨w.heap.size, 2, none⟩ = some (.int .i64 s.kind) ∧ w5.cell? ⟨w.heap.size, 3, none⟩ = some (.bool s.lease) ∧ w5.cell? ⟨w.heap.size, 4, none⟩ = some (.slice x s.layer.length cc)) := fun w5 hb5 => (X5.out.below (below_next HWk.out hb5)).1
        obtain ⟨p0, p1, p2, p3, p4⟩ := (X5.out.below B3.out).1
        have OWN1 : Hid ((w3.alloc (.cells #[.string (str s.name), .string (str s.parent), .int .i64 s.kind, .bool s.lease, .slice x s.layer.length cc] 37)).drew.ownsRow W2.heap.size 37 5 (.slice (some ⟨W2.heap.size, 0, none⟩) 0 0) 0 []) := ownsRow_below OWN0.out (below_alloc _ _).drew
        have NEWS1 : Hid (∀ j u, (cellsN ⟨s, x, cc⟩)[j]? = some u → (w3.alloc (.cells #[.string (str s.name), .string (str s.parent), .int .i64 s.kind, .bool s.lease, .slice x s.layer.length cc] 37)).drew.cell? ((⟨w3.heap.size, 0, none⟩ : Addr).add j) = some u) := news_five (t := 37) rfl
        have hm1 : 0 + 1 ≤ maxLen := by unfold maxLen; omega
        have HSm : Hid (SmallS [s]) := hide ⟨by simp, fun y hy => by simp only [List.mem_singleton] at hy; subst hy; exact ⟨hs1, hs2, hs3', HS4.out⟩⟩
        go_region_held3 (fun w' => w'.cell? ⟨w.heap.size, 0, none⟩ = some (.string (str s.name)) ∧ w'.cell? ⟨w.heap.size, 1, none⟩ = some (.string (str s.parent)) ∧ w'.cell? ⟨w.heap.size, 2, none⟩ = some (.int .i64 s.kind) ∧ w'.cell? ⟨w.heap.size, 3, none⟩ = some (.bool s.lease) ∧ w'.cell? ⟨w.heap.size, 4, none⟩ = some (.slice x s.layer.length cc)) (first | exact KC.out _ BB4.out | exact KC.out _ B6.out | go_keep)
          ((first
            | (refine step_append_list (by rfl) (.tmp 73) (.tmp 75) 24 (by rfl) W2.heap.size 37 i1 (.agg #[.string ⟨#[]⟩, .string ⟨#[]⟩, .int .i64 0, .bool false, .slice none 0 0]) 5 72 Tryz.underlying24 ki kz0 kz1 kz2 rfl (by decide) (.slice (some ⟨W2.heap.size, 0, none⟩) 0 0) 0 [] (by rfl) OWN1.out ⟨w3.heap.size, 0, none⟩ 1 1 (cellsN ⟨s, x, cc⟩) (by rfl) (by rfl) NEWS1.out (rowN_one [⟨s, x, cc⟩]) 1 rfl hm1 (by decide) (by simp; omega) ?_; intro av4 cv4 w4 hown4 hk4; obtain ⟨g4, hg4, hcv4⟩ := row_addr hown4 (.inl (by decide)); subst hg4; have O4 := hide hown4; have BB4 := hide (BW3.out.trans ((((Kept.refl (fun q => (Value.slice (some ⟨W2.heap.size, 0, none⟩) 0 0).ownBlock = some q) w3).alloc _).drew.trans hk4).below hs3 (fun q hq hS => by have := (OWN0.out.lt q hS).1; omega))); have RD4 : Hid (RdS w4 (some ⟨g4, 0, none⟩) [s]) := hide (put_rowsN (rs := []) (l := []) (k := 0) rfl (Nat.le_refl _) rfl (fun r hr => by simp at hr) HXR.out (below_next HWk.out BB4.out) (by simpa [rowN] using hown4)); clear hown4 hk4)
            | (refine step_append_none (by rfl) (.tmp 76) (.tmp 79) 24 (by rfl) 37 i1 Tryz.underlying24 ki g4 cv4 1 0 hcv4 (by rfl) (by rfl) ?_)
            | (go_at_call 72; refine (l12Copy_any (some ⟨g4, 0, none⟩) cv4 1 [s] w4 RD4.out rfl (by simp) HSm.out).mono ?_; rintro r w6 ⟨av6, cv6, rfl, hG6, hb6⟩; have GG6 := hide (hG6.mono BB4.out.size); have B6 := hide (below_next BB4.out hb6); obtain ⟨⟨t0, t1, t2⟩, t3, t4, t5⟩ := X3.out.below (below_next HWk.out B6.out); clear hG6 hb6)))
        simp only [List.length_cons, List.length_nil, Nat.zero_add] at GG6 ⊢
        go_wp2_with fail
        exact bodyPost_ret (v := .agg #[.int .i64 0, .int .i64 0, .slice av6 1 cv6]) (by simp [results, Tryz.results54, go_sem, t0, t1, t2]) rfl (.inr ⟨HQ0.out, ResM'.of (B := W2.heap.size) (l := putN [] s) (by omega) (by omega) rfl GG6.out (below_next B0.out (below_next HWk.out B6.out))⟩)
    · have hpe : (str s.parent).toList.isEmpty = false := by
        rw [str_toList]; cases hq : s.parent with | nil => exact absurd hq hpa | cons _ _ => rfl
      have HPA := hide hpa
      clear hpa
      go_wp2_with fail
      refine (l12At_any none 0 0 [] s.parent w2 (RdS.nil _ _) rfl (by simp)).mono ?_
      rintro r w7 ⟨rfl, hw7⟩
      subst hw7
      simp only [show plS [] s.parent = none from rfl, placeI]
      go_wp2_with fail
      have HQ : Hid (growM [] s = 4) := hide (by unfold growM; rw [HNK.out]; simp only [if_true, atS, List.find?_nil, Option.isSome_none, Bool.false_eq_true, if_false]; rw [if_neg HPA.out])
      refine (l12Reply_any none 0 0 [] 4 _ (RdS.nil _ _) rfl (by simp) ⟨by simp, fun y hy => by simp at hy⟩).mono ?_
      rintro r w9 ⟨av, cv, rfl, hG, hb9⟩
      have G9 := hide hG
      have B9 := hide (below_next B0.out hb9)
      obtain ⟨⟨t0, t1, t2⟩, t3, t4, t5⟩ := X3.out.below hb9
      clear hG hb9
      simp only [List.length_nil] at G9 ⊢
      go_wp2_with fail
      exact bodyPost_ret (v := .agg #[.int .i64 0, .int .i64 4, .slice av 0 cv]) (by simp [results, Tryz.results54, go_sem, t0, t1, t2]) rfl (.inl ⟨by rw [HQ.out]; decide, by rw [HQ.out]; exact ResM'.of (B := w7.heap.size) (by omega) (by omega) rfl G9.out B9.out⟩)
theorem l12New_any (a : Option Addr) (c n : Nat) (l : List Sn) (s : Sn) (x : Option Addr) (cc : Nat) (w : World) (h : RdS w a l) (hP : Plc a c l) (hn : n = l.length) (hl : l.length < 1048576) (hri : RiseN l) (hne : ∀ y ∈ l, y.name ≠ []) (hs : SmallS l) (hx : RdE w x s.layer) (hs1 : s.name.length ≤ 1048576) (hs2 : s.parent.length ≤ 1048576) (hs3' : s.layer.length ≤ 1048576) (hs4 : SmallE s.layer) :
    Calls Tryz.prog 54 #[.slice a n c, .agg #[.string (str s.name), .string (str s.parent), .int .i64 s.kind, .bool s.lease, .slice x s.layer.length cc]] w fun r w' => (growM l s ≠ 0 ∧ ResM' 0 (growM l s) l w r w') ∨ (growM l s = 0 ∧ ResM' 0 0 (putN l s) w r w') := by
  rcases hP with ⟨rfl, rfl, rfl⟩ | ⟨b, off, rfl, hc⟩
  · subst hn
    exact l12New_none s x cc w hx hs1 hs2 hs3' hs4
  · exact l12New_some b off c n l s x cc w h hc hn hl hri hne hs hx hs1 hs2 hs3' hs4
end Go.Proofs.YtolnlfnndnpiiaaGreat

namespace Go.Proofs.YtolnlfnndnpiiaaGreat
open Go.RowKit Go.Maps
set_option linter.unusedVariables false
attribute [local go_sem ↓] Go.wp_at_zero Go.wp_at_succ

def BadM (q : Int) (w : World) (r : Ending) (w' : World) : Prop := r = .returned (.agg #[.int .i64 q, .int .i64 0, .slice none 0 0]) ∧ Below w.heap.size w w'
theorem BadM.of {q : Int} {w w3 : World} {b : Nat} {u0 u1 u2 : Value} (hw : w.heap.size ≤ b) (hb : Below w.heap.size w w3) :
    BadM q w (.returned (.agg #[.int .i64 q, .int .i64 0, .slice none 0 0])) (((w3.setCell ⟨b, 0, none⟩ u0).setCell ⟨b, 1, none⟩ u1).setCell ⟨b, 2, none⟩ u2) :=
  ⟨rfl, ((hb.setCell (p := ⟨b, 0, none⟩) hw _).setCell (p := ⟨b, 1, none⟩) hw _).setCell (p := ⟨b, 2, none⟩) hw _⟩
set_option maxRecDepth 100000 in
set_option maxHeartbeats 1600000 in
theorem specPrepareSnap_bad (a : Option Addr) (c n : Nat) (l : List Sn) (nm pa : Bs) (w : World) (h : RdS w a l) (hn : n = l.length) (hl : l.length ≤ 1048576) (hs : SmallS l) (hF : snM l ≠ 0) :
    Calls Tryz.prog 16 #[.slice a n c, .string (str nm), .string (str pa)] w (BadM (snM l) w) := by
  subst hn
  have X0 := hide (Box3.new w (.int .i64 0) (.int .i64 0) (.slice none 0 0) 28)
  have B0 := hide (below_alloc w (.cells #[.int .i64 0, .int .i64 0, .slice none 0 0] 28))
  have HC := hide (l12Fault_any a c l.length l _ (h.below B0.out) rfl hl hs)
  have hz : (snM l != 0) = true := by simp; exact hF
  clear h hs hF
  go_enter Tryz.func16, Tryz.ntmps16
  go_wp2_with fail
  generalize w.alloc (.cells #[.int .i64 0, .int .i64 0, .slice none 0 0] 28) = W0 at *
  refine HC.out.mono ?_
  rintro r w1 ⟨rfl, hb1⟩
  have B1 := hide (below_next B0.out hb1)
  obtain ⟨⟨t0, t1, t2⟩, t3, t4, t5⟩ := X0.out.below hb1
  clear hb1
  go_wp2_with fail
  exact bodyPost_ret (v := .agg #[.int .i64 (snM l), .int .i64 0, .slice none 0 0]) (by simp [results, Tryz.results16, go_sem, t0, t1, t2]) rfl (BadM.of (Nat.le_refl _) B1.out)
set_option maxRecDepth 100000 in
set_option maxHeartbeats 1600000 in
theorem specPrepareSnap_ok (a : Option Addr) (c n : Nat) (l : List Sn) (nm pa : Bs) (w : World) (h : RdS w a l) (hP : Plc a c l) (hn : n = l.length) (hR : RightS l) (hs : SmallS l) (hn1 : nm.length ≤ 1048576) (hn2 : pa.length ≤ 1048576) :
    Calls Tryz.prog 16 #[.slice a n c, .string (str nm), .string (str pa)] w fun r w' => (growM l ⟨nm, pa, 1, false, []⟩ ≠ 0 ∧ ResM' 0 (growM l ⟨nm, pa, 1, false, []⟩) l w r w') ∨ (growM l ⟨nm, pa, 1, false, []⟩ = 0 ∧ ResM' 0 0 (putN l ⟨nm, pa, 1, false, []⟩) w r w') := by
  subst hn
  have hl := hR.len
  have X0 := hide (Box3.new w (.int .i64 0) (.int .i64 0) (.slice none 0 0) 28)
  have B0 := hide (below_alloc w (.cells #[.int .i64 0, .int .i64 0, .slice none 0 0] 28))
  have HC := hide (l12Fault_any a c l.length l _ (h.below B0.out) rfl (by omega) hs)
  rw [hR.good] at HC
  have HRd := hide h
  have HRI := hide hR.rise
  have HNE := hide (show ∀ y ∈ l, y.name ≠ [] from fun y hy => nmOk_ne (hR.own y hy).1)
  have HSM := hide hs
  have HP := hide hP
  clear h hs hR hP
  go_enter Tryz.func16, Tryz.ntmps16
  go_wp2_with fail
  have hsz0 : (w.alloc (.cells #[.int .i64 0, .int .i64 0, .slice none 0 0] 28)).heap.size = w.heap.size + 1 := by simp
  generalize w.alloc (.cells #[.int .i64 0, .int .i64 0, .slice none 0 0] 28) = W0 at *
  refine HC.out.mono ?_
  rintro r w1 ⟨rfl, hb1⟩
  have B1 := hide (below_next B0.out hb1)
  have X1 := hide (X0.out.below hb1)
  have hs1 := hb1.size
  clear hb1
  go_wp2_with fail
  refine (l12New_any a c l.length l ⟨nm, pa, 1, false, []⟩ none 0 w1 (HRd.out.below B1.out) HP.out rfl (by omega) HRI.out HNE.out HSM.out (fun e => absurd rfl e) hn1 hn2 (by simp) (fun y hy => by simp at hy)).mono ?_
  rintro r w9 (⟨hg, av, cv, rfl, hG, hb9⟩ | ⟨hg, av, cv, rfl, hG, hb9⟩)
  · have HQ := hide hg
    have G9 := hide hG
    have B9 := hide (below_next B1.out hb9)
    obtain ⟨⟨t0, t1, t2⟩, t3, t4, t5⟩ := X1.out.below hb9
    clear hG hb9 hg
    go_wp2_with fail
    exact bodyPost_ret (v := .agg #[.int .i64 0, .int .i64 (growM l ⟨nm, pa, 1, false, []⟩), .slice av l.length cv]) (by simp [results, Tryz.results16, go_sem, t0, t1, t2]) rfl (.inl ⟨HQ.out, ResM'.of (B := w1.heap.size) (by omega) (Nat.le_refl _) rfl G9.out B9.out⟩)
  · have HQ := hide hg
    have G9 := hide hG
    have B9 := hide (below_next B1.out hb9)
    obtain ⟨⟨t0, t1, t2⟩, t3, t4, t5⟩ := X1.out.below hb9
    clear hG hb9 hg
    go_wp2_with fail
    exact bodyPost_ret (v := .agg #[.int .i64 0, .int .i64 0, .slice av (putN l ⟨nm, pa, 1, false, []⟩).length cv]) (by simp [results, Tryz.results16, go_sem, t0, t1, t2]) rfl (.inr ⟨HQ.out, ResM'.of (B := w1.heap.size) (by omega) (Nat.le_refl _) rfl G9.out B9.out⟩)
set_option maxRecDepth 100000 in
set_option maxHeartbeats 1600000 in
theorem specAddSnap_ok (a : Option Addr) (c n : Nat) (l : List Sn) (nm pa : Bs) (xa : Option Addr) (xc m : Nat) (es : List En) (hm : m = es.length) (w : World) (h : RdS w a l) (hP : Plc a c l) (hn : n = l.length) (hR : RightS l) (hs : SmallS l) (hn1 : nm.length ≤ 1048576) (hn2 : pa.length ≤ 1048576) (hx : RdE w xa es) (hs3' : es.length ≤ 1048576) (hs4 : SmallE es) (hz : layFault es = 0) :
    Calls Tryz.prog 138 #[.slice a n c, .string (str nm), .string (str pa), .slice xa m xc] w fun r w' => (growM l ⟨nm, pa, 2, false, es⟩ ≠ 0 ∧ ResM' 0 (growM l ⟨nm, pa, 2, false, es⟩) l w r w') ∨ (growM l ⟨nm, pa, 2, false, es⟩ = 0 ∧ ResM' 0 0 (putN l ⟨nm, pa, 2, false, es⟩) w r w') := by
  subst hn
  subst hm
  have hl := hR.len
  have X0 := hide (Box3.new w (.int .i64 0) (.int .i64 0) (.slice none 0 0) 28)
  have B0 := hide (below_alloc w (.cells #[.int .i64 0, .int .i64 0, .slice none 0 0] 28))
  have HC := hide (l12Fault_any a c l.length l _ (h.below B0.out) rfl (by omega) hs)
  rw [hR.good] at HC
  have HRd := hide h
  have HRI := hide hR.rise
  have HNE := hide (show ∀ y ∈ l, y.name ≠ [] from fun y hy => nmOk_ne (hR.own y hy).1)
  have HSM := hide hs
  have HP := hide hP
  have HXR := hide hx
  have HS4 := hide hs4
  clear hx hs4
  clear h hs hR hP
  go_enter Tryz.func138, Tryz.ntmps138
  go_wp2_with fail
  have hsz0 : (w.alloc (.cells #[.int .i64 0, .int .i64 0, .slice none 0 0] 28)).heap.size = w.heap.size + 1 := by simp
  generalize w.alloc (.cells #[.int .i64 0, .int .i64 0, .slice none 0 0] 28) = W0 at *
  refine HC.out.mono ?_
  rintro r w1 ⟨rfl, hb1⟩
  have B1 := hide (below_next B0.out hb1)
  have X1 := hide (X0.out.below hb1)
  have hs1 := hb1.size
  clear hb1
  go_wp2_with fail
  refine (l4Fault_any xa xc es.length es w1 (HXR.out.below B1.out) rfl hs3' HS4.out).mono ?_
  rintro r w2 ⟨rfl, hb2⟩
  rw [hz]
  clear hz
  have B1 := hide (below_next B1.out hb2)
  have X1 := hide (X1.out.below hb2)
  have hs1 := Nat.le_trans hs1 hb2.size
  clear hb2
  go_wp2_with fail
  refine (l12New_any a c l.length l ⟨nm, pa, 2, false, es⟩ xa xc w2 (HRd.out.below B1.out) HP.out rfl (by omega) HRI.out HNE.out HSM.out (HXR.out.below B1.out) hn1 hn2 hs3' HS4.out).mono ?_
  rintro r w9 (⟨hg, av, cv, rfl, hG, hb9⟩ | ⟨hg, av, cv, rfl, hG, hb9⟩)
  · have HQ := hide hg
    have G9 := hide hG
    have B9 := hide (below_next B1.out hb9)
    obtain ⟨⟨t0, t1, t2⟩, t3, t4, t5⟩ := X1.out.below hb9
    clear hG hb9 hg
    go_wp2_with fail
    exact bodyPost_ret (v := .agg #[.int .i64 0, .int .i64 (growM l ⟨nm, pa, 2, false, es⟩), .slice av l.length cv]) (by simp [results, Tryz.results138, go_sem, t0, t1, t2]) rfl (.inl ⟨HQ.out, ResM'.of (B := w2.heap.size) (by omega) (Nat.le_refl _) rfl G9.out B9.out⟩)
  · have HQ := hide hg
    have G9 := hide hG
    have B9 := hide (below_next B1.out hb9)
    obtain ⟨⟨t0, t1, t2⟩, t3, t4, t5⟩ := X1.out.below hb9
    clear hG hb9 hg
    go_wp2_with fail
    exact bodyPost_ret (v := .agg #[.int .i64 0, .int .i64 0, .slice av (putN l ⟨nm, pa, 2, false, es⟩).length cv]) (by simp [results, Tryz.results138, go_sem, t0, t1, t2]) rfl (.inr ⟨HQ.out, ResM'.of (B := w2.heap.size) (by omega) (Nat.le_refl _) rfl G9.out B9.out⟩)
end Go.Proofs.YtolnlfnndnpiiaaGreat

namespace Go.Proofs.YtolnlfnndnpiiaaGreat
open Go.RowKit Go.Maps
set_option linter.unusedVariables false
attribute [local go_sem ↓] Go.wp_at_zero Go.wp_at_succ

set_option maxRecDepth 100000 in
set_option maxHeartbeats 1600000 in
theorem implPrepareSnap_bad (a : Option Addr) (c n : Nat) (l : List Sn) (nm pa : Bs) (w : World) (h : RdS w a l) (hn : n = l.length) (hl : l.length ≤ 1048576) (hs : SmallS l) (hz : snF l ≠ 0) :
    Calls Tryz.prog 15 #[.slice a n c, .string (str nm), .string (str pa)] w (ResS (snF l) 0 [] w) := by
  subst hn
  have X0 := hide (Box3.new w (.int .i64 0) (.int .i64 0) (.slice none 0 0) 28)
  have B0 := hide (below_alloc w (.cells #[.int .i64 0, .int .i64 0, .slice none 0 0] 28))
  have HC := hide (implSnapsFault_any a c l.length l _ (h.below B0.out) rfl hl hs)
  have hz2 : (snF l != 0) = true := by simp; exact hz
  clear h hs hz
  generalize snF l = q at *
  go_enter Tryz.func15, Tryz.ntmps15
  go_wp2_with fail
  refine HC.out.mono ?_
  rintro r w1 ⟨rfl, hb1⟩
  have B1 := hide (below_next B0.out hb1)
  have hlt : w.heap.size < (w.alloc (.cells #[.int .i64 0, .int .i64 0, .slice none 0 0] 28)).heap.size := X0.out.lt
  obtain ⟨⟨t0, t1, t2⟩, t3, t4, t5⟩ := X0.out.below hb1
  have hs1 := hb1.size
  clear hb1
  go_wp2_with fail
  exact bodyPost_ret (v := .agg #[.int .i64 q, .int .i64 0, .slice none 0 0]) (by simp [results, Tryz.results15, go_sem, t0, t1, t2]) rfl (ResS.of (B := w1.heap.size) (by omega) (Nat.le_refl _) rfl (HeldS.nil _ _ _) B1.out)
set_option maxRecDepth 100000 in
set_option maxHeartbeats 1600000 in
theorem implPrepareSnap_ok (a : Option Addr) (c n : Nat) (l : List Sn) (nm pa : Bs) (w : World) (h : RdS w a l) (hn : n = l.length) (hR : RightS l) (hs : SmallS l) (hnm : nm.length ≤ 1048576) (hpa : pa.length ≤ 1048576) :
    Calls Tryz.prog 15 #[.slice a n c, .string (str nm), .string (str pa)] w (ResS 0 (growR l ⟨nm, pa, 1, false, []⟩) (aft (growR l ⟨nm, pa, 1, false, []⟩) l (putN l ⟨nm, pa, 1, false, []⟩)) w) := by
  subst hn
  have X0 := hide (Box3.new w (.int .i64 0) (.int .i64 0) (.slice none 0 0) 28)
  have B0 := hide (below_alloc w (.cells #[.int .i64 0, .int .i64 0, .slice none 0 0] 28))
  have hl := hR.len
  have HC := hide (implSnapsFault_any a c l.length l _ (h.below B0.out) rfl (by omega) hs)
  rw [snF_zero.2 hR] at HC
  have HRd := hide h
  have HRS := hide hR
  have HSM := hide hs
  clear h hR hs
  go_enter Tryz.func15, Tryz.ntmps15
  go_wp2_with fail
  refine HC.out.mono ?_
  rintro r w1 ⟨rfl, hb1⟩
  have B1 := hide (below_next B0.out hb1)
  have hlt : w.heap.size < (w.alloc (.cells #[.int .i64 0, .int .i64 0, .slice none 0 0] 28)).heap.size := X0.out.lt
  have X1 := hide (X0.out.below hb1)
  have hs1 := hb1.size
  clear hb1
  go_wp2_with fail
  refine (grown_any a c l.length l ⟨nm, pa, 1, false, []⟩ none 0 w1 (HRd.out.below B1.out) (fun hz => absurd rfl hz) rfl HRS.out HSM.out ⟨hnm, hpa, by simp, fun e he => by simp at he⟩).mono ?_
  rintro r w2 ⟨av, cv, rfl, hG, hb2⟩
  have G2 := hide hG
  have B2 := hide (below_next B1.out hb2)
  obtain ⟨⟨t0, t1, t2⟩, t3, t4, t5⟩ := X1.out.below hb2
  clear hG hb2
  go_wp2_with fail
  exact bodyPost_ret (v := .agg #[.int .i64 0, .int .i64 (growR l ⟨nm, pa, 1, false, []⟩), .slice av _ cv]) (by simp [results, Tryz.results15, go_sem, t0, t1, t2]) rfl (ResS.of (B := w1.heap.size) (by omega) (Nat.le_refl _) rfl G2.out B2.out)
set_option maxRecDepth 100000 in
set_option maxHeartbeats 1600000 in
theorem implAddSnap_ok (a : Option Addr) (c n : Nat) (l : List Sn) (nm pa : Bs) (x : Option Addr) (m cc : Nat) (L : List En) (w : World) (h : RdS w a l) (hn : n = l.length) (hR : RightS l) (hs : SmallS l) (hnm : nm.length ≤ 1048576) (hpa : pa.length ≤ 1048576) (hx : RdE w x L) (hm : m = L.length) (hL : layFaultP L = 0) (hLs : SmallE L) :
    Calls Tryz.prog 19 #[.slice a n c, .string (str nm), .string (str pa), .slice x m cc] w (ResS 0 (growR l ⟨nm, pa, 2, false, L⟩) (aft (growR l ⟨nm, pa, 2, false, L⟩) l (putN l ⟨nm, pa, 2, false, L⟩)) w) := by
  subst hn
  subst hm
  have X0 := hide (Box3.new w (.int .i64 0) (.int .i64 0) (.slice none 0 0) 28)
  have B0 := hide (below_alloc w (.cells #[.int .i64 0, .int .i64 0, .slice none 0 0] 28))
  have hl := hR.len
  have HC := hide (implSnapsFault_any a c l.length l _ (h.below B0.out) rfl (by omega) hs)
  rw [snF_zero.2 hR] at HC
  have HRd := hide h
  have HRS := hide hR
  have HSM := hide hs
  have hLl : L.length ≤ 12 := (right_P.1 hL).len
  have HX := hide hx
  have HLF := hide (fun u (hu : Below w.heap.size w u) => implLayerFault_any x cc L.length L u (hx.below hu) rfl (by omega) hLs)
  rw [hL] at HLF
  have HLS := hide hLs
  clear h hR hs hx hL hLs
  go_enter Tryz.func19, Tryz.ntmps19
  go_wp2_with fail
  refine HC.out.mono ?_
  rintro r w1 ⟨rfl, hb1⟩
  have B1 := hide (below_next B0.out hb1)
  have hlt : w.heap.size < (w.alloc (.cells #[.int .i64 0, .int .i64 0, .slice none 0 0] 28)).heap.size := X0.out.lt
  have X1 := hide (X0.out.below hb1)
  have hs1 := hb1.size
  clear hb1
  go_wp2_with fail
  refine (HLF.out _ B1.out).mono ?_
  rintro r w9 ⟨rfl, hb9⟩
  have B9 := hide (below_next B1.out hb9)
  have X9 := hide (X1.out.below hb9)
  have hs9 := hb9.size
  clear hb9
  go_wp2_with fail
  refine (grown_any a c l.length l ⟨nm, pa, 2, false, L⟩ x cc w9 (HRd.out.below B9.out) (HX.out.below B9.out) rfl HRS.out HSM.out ⟨hnm, hpa, by show L.length ≤ _; omega, HLS.out⟩).mono ?_
  rintro r w2 ⟨av, cv, rfl, hG, hb2⟩
  have G2 := hide hG
  have B2 := hide (below_next B9.out hb2)
  obtain ⟨⟨t0, t1, t2⟩, t3, t4, t5⟩ := X9.out.below hb2
  clear hG hb2
  go_wp2_with fail
  exact bodyPost_ret (v := .agg #[.int .i64 0, .int .i64 (growR l ⟨nm, pa, 2, false, L⟩), .slice av _ cv]) (by simp [results, Tryz.results19, go_sem, t0, t1, t2]) rfl (ResS.of (B := w9.heap.size) (by omega) (Nat.le_refl _) rfl G2.out B2.out)
def comS (t : Sn) : Sn := ⟨t.name, t.parent, 2, t.lease, t.layer⟩
def comR (t : Sn) : Int := if t.kind = 2 then 10 else 0
set_option maxRecDepth 100000 in
set_option maxHeartbeats 1600000 in
theorem commitLit_any (t : Sn) (W0 : World) : Turns W0 51 #[] t (fun m rep => rep = comR t ∧ (rep = 0 → m = comS t)) := by
  refine ⟨enters_of Tryz.func51 (by kernel_rfl) rfl, fun x c w hw hx => ?_⟩
  have HX := hide hx
  have X1 := hide ((Box5.new w (.string (str t.name)) (.string (str t.parent)) (.int .i64 t.kind) (.bool t.lease) (.slice x t.layer.length c) 37).below (below_alloc _ (.cells #[.string ⟨#[]⟩, .string ⟨#[]⟩, .int .i64 0, .bool false, .slice none 0 0] 37)))
  have X2 := hide (Box5.new (w.alloc (.cells #[.string (str t.name), .string (str t.parent), .int .i64 t.kind, .bool t.lease, .slice x t.layer.length c] 37)) (.string ⟨#[]⟩) (.string ⟨#[]⟩) (.int .i64 0) (.bool false) (.slice none 0 0) 37)
  have B0 := hide (below_next (below_alloc w (.cells #[.string (str t.name), .string (str t.parent), .int .i64 t.kind, .bool t.lease, .slice x t.layer.length c] 37)) (below_alloc _ (.cells #[.string ⟨#[]⟩, .string ⟨#[]⟩, .int .i64 0, .bool false, .slice none 0 0] 37)))
  show Calls Tryz.prog 51 #[.agg #[.string (str t.name), .string (str t.parent), .int .i64 t.kind, .bool t.lease, .slice x t.layer.length c]] w _
  simp only [World.size_alloc] at X2
  clear hw hx
  by_cases hk : t.kind = 2
  · have hkb : (t.kind == 2) = true := by simp [hk]
    have HR := hide (show comR t = 10 by unfold comR; rw [if_pos hk])
    clear hk
    go_enter Tryz.func51, Tryz.ntmps51
    go_wp2_with fail
    refine bodyPost_ret (v := .tuple #[.agg #[.string (str t.name), .string (str t.parent), .int .i64 t.kind, .bool t.lease, .slice x t.layer.length c], .int .i64 10]) (by simp [results, Tryz.results51, go_sem]) rfl ?_
    exact ⟨t, 10, x, c, ⟨HR.out.symm, fun h => absurd h (by decide)⟩, rfl, HX.out.below (below_next (below_alloc _ _) (below_alloc _ _)), below_next (below_alloc _ _) (below_alloc _ _)⟩
  · have hkb : (t.kind == 2) = false := by simp [hk]
    have HR := hide (show comR t = 0 by unfold comR; rw [if_neg hk])
    clear hk
    go_enter Tryz.func51, Tryz.ntmps51
    go_wp2_with fail
    refine bodyPost_ret (v := .tuple #[.agg #[.string (str t.name), .string (str t.parent), .int .i64 2, .bool t.lease, .slice x t.layer.length c], .int .i64 0]) (by simp [results, Tryz.results51, go_sem]) rfl ?_
    exact ⟨comS t, 0, x, c, ⟨HR.out.symm, fun _ => rfl⟩, rfl, HX.out.below (below_next (below_alloc _ _) (below_alloc _ _)), below_next (below_alloc _ _) (below_alloc _ _)⟩
set_option maxRecDepth 100000 in
set_option maxHeartbeats 1600000 in
theorem implCommitSnap_none (a : Option Addr) (c n : Nat) (l : List Sn) (nm : Bs) (w : World) (h : RdS w a l) (hn : n = l.length) (hR : RightS l) (hs : SmallS l) (ht : atS l nm = none) :
    Calls Tryz.prog 13 #[.slice a n c, .string (str nm)] w (ResS 0 4 l w) := by
  subst hn
  have X0 := hide (Box3.new w (.int .i64 0) (.int .i64 0) (.slice none 0 0) 28)
  have B0 := hide (below_alloc w (.cells #[.int .i64 0, .int .i64 0, .slice none 0 0] 28))
  have hl := hR.len
  have HC := hide (implSnapsFault_any a c l.length l _ (h.below B0.out) rfl (by omega) hs)
  rw [snF_zero.2 hR] at HC
  have HRd := hide h
  have HRS := hide hR
  have HSM := hide hs
  have HAT := hide ht
  clear h hR hs ht
  go_enter Tryz.func13, Tryz.ntmps13
  go_wp2_with fail
  refine HC.out.mono ?_
  rintro r w1 ⟨rfl, hb1⟩
  have B1 := hide (below_next B0.out hb1)
  have hlt : w.heap.size < (w.alloc (.cells #[.int .i64 0, .int .i64 0, .slice none 0 0] 28)).heap.size := X0.out.lt
  have X1 := hide (X0.out.below hb1)
  have hs1 := hb1.size
  clear hb1
  go_wp2_with fail
  refine (turned_none a c l.length l nm _ w1 (HRd.out.below B1.out) rfl (by omega) HSM.out HAT.out).mono ?_
  rintro r w2 ⟨av, cv, rfl, hG, hb2⟩
  have G2 := hide hG
  have B2 := hide (below_next B1.out hb2)
  obtain ⟨⟨t0, t1, t2⟩, t3, t4, t5⟩ := X1.out.below hb2
  clear hG hb2
  go_wp2_with fail
  exact bodyPost_ret (v := .agg #[.int .i64 0, .int .i64 (4), .slice av _ cv]) (by simp [results, Tryz.results13, go_sem, t0, t1, t2]) rfl (ResS.of (B := w1.heap.size) (by omega) (Nat.le_refl _) rfl G2.out B2.out)
set_option maxRecDepth 100000 in
set_option maxHeartbeats 1600000 in
theorem implCommitSnap_ok (a : Option Addr) (c n : Nat) (l : List Sn) (nm : Bs) (t : Sn) (w : World) (h : RdS w a l) (hn : n = l.length) (hR : RightS l) (hs : SmallS l) (ht : atS l nm = some t) :
    Calls Tryz.prog 13 #[.slice a n c, .string (str nm)] w (ResS 0 (comR t) (aft (comR t) l (putN l (comS t))) w) := by
  subst hn
  have X0 := hide (Box3.new w (.int .i64 0) (.int .i64 0) (.slice none 0 0) 28)
  have B0 := hide (below_alloc w (.cells #[.int .i64 0, .int .i64 0, .slice none 0 0] 28))
  have hl := hR.len
  have HC := hide (implSnapsFault_any a c l.length l _ (h.below B0.out) rfl (by omega) hs)
  rw [snF_zero.2 hR] at HC
  have HRd := hide h
  have HRS := hide hR
  have HSM := hide hs
  have HAT := hide ht
  clear h hR hs ht
  go_enter Tryz.func13, Tryz.ntmps13
  go_wp2_with fail
  refine HC.out.mono ?_
  rintro r w1 ⟨rfl, hb1⟩
  have B1 := hide (below_next B0.out hb1)
  have hlt : w.heap.size < (w.alloc (.cells #[.int .i64 0, .int .i64 0, .slice none 0 0] 28)).heap.size := X0.out.lt
  have X1 := hide (X0.out.below hb1)
  have hs1 := hb1.size
  clear hb1
  go_wp2_with fail
  refine (turned_some a c l.length l nm _ _ t (fun m rep => rep = comR t ∧ (rep = 0 → m = comS t)) w1 (HRd.out.below B1.out) rfl HRS.out HSM.out HAT.out (commitLit_any t w1) (fun m hm => by have hm2 := hm.2 rfl; subst hm2; exact ⟨rfl, rfl, small_put HSM.out (by omega) (HSM.out.2 t (atS_some HAT.out).1)⟩)).mono ?_
  rintro r w2 ⟨m, rep, ⟨hrep, hm⟩, av, cv, rfl, hG, hb2⟩
  subst hrep
  have HA := hide (show aft (comR t) l (putN l m) = aft (comR t) l (putN l (comS t)) by
    unfold aft
    by_cases h0 : comR t = 0
    · rw [if_pos h0, if_pos h0, hm h0]
    · rw [if_neg h0, if_neg h0])
  rw [HA.out] at hG ⊢
  have G2 := hide hG
  clear hm HA
  have B2 := hide (below_next B1.out hb2)
  obtain ⟨⟨t0, t1, t2⟩, t3, t4, t5⟩ := X1.out.below hb2
  clear hG hb2
  go_wp2_with fail
  exact bodyPost_ret (v := .agg #[.int .i64 0, .int .i64 (comR t), .slice av _ cv]) (by simp [results, Tryz.results13, go_sem, t0, t1, t2]) rfl (ResS.of (B := w1.heap.size) (by omega) (Nat.le_refl _) rfl G2.out B2.out)
end Go.Proofs.YtolnlfnndnpiiaaGreat

namespace Go.Proofs.YtolnlfnndnpiiaaGreat
open Go.RowKit Go.Maps
set_option linter.unusedVariables false
attribute [local go_sem ↓] Go.wp_at_zero Go.wp_at_succ

set_option maxRecDepth 100000 in
set_option maxHeartbeats 800000 in
theorem hasChildLit_any (p : Bs) (b : Nat) (s : Sn) (a : Option Addr) (c : Nat) (w : World) (h : w.cell? ⟨b, 0, none⟩ = some (.string (str p))) :
    Calls Tryz.prog 94 #[.agg #[.string (str s.name), .string (str s.parent), .int .i64 s.kind, .bool s.lease, .slice a s.layer.length c], .pointer (some ⟨b, 0, none⟩)] w fun r w' => r = .returned (.bool (s.parent == p)) ∧ Below w.heap.size w w' := by
  have hb := World.block_lt_of_cell? w ⟨b, 0, none⟩ h
  have hs := str_beq s.parent p
  have HZ := hide (show (s.parent == p) = decide (s.parent = p) by by_cases h : s.parent = p <;> simp [h])
  rw [HZ.out]
  clear HZ
  generalize decide (s.parent = p) = Z at *
  have hbw : (w.alloc (.cells #[.string (str s.name), .string (str s.parent), .int .i64 s.kind, .bool s.lease, .slice a s.layer.length c] 37)).cell? ⟨b, 0, none⟩ = some (.string (str p)) := ((below_alloc w _).cell (p := ⟨b, 0, none⟩) hb).trans h
  go_enter Tryz.func94, Tryz.ntmps94
  go_wp2_with fail
  go_ret
  exact ⟨rfl, below_alloc _ _⟩
set_option maxRecDepth 100000 in
set_option maxHeartbeats 1600000 in
theorem hasChild_any (a : Option Addr) (c n : Nat) (l : List Sn) (nm : Bs) (w : World) (h : RdS w a l) (hn : n = l.length) (hl : l.length ≤ 1048576) :
    Calls Tryz.prog 56 #[.slice a n c, .string (str nm)] w fun r w' => r = .returned (.bool (l.any fun s => s.parent == nm)) ∧ Below w.heap.size w w' := by
  have hmf : ∀ (fn : Fn) (first cap : Array Value) (w : World), (Instr.makeFunc fn first cap).run Tryz.prog w = .ok (.func fn first cap) w := fun _ _ _ _ => rfl
  subst hn
  have B0 := hide (below_alloc w (.cells #[.string (str nm)] 9))
  have HA : Hid (AsksN (w.alloc (.cells #[.string (str nm)] 9)) 94 #[.pointer (some ⟨w.heap.size, 0, none⟩)] (fun s => s.parent == nm)) := hide ⟨enters_of Tryz.func94 (by kernel_rfl) rfl, fun s a c w' hb =>
    hasChildLit_any nm w.heap.size s a c w' ((hb.cell (p := ⟨w.heap.size, 0, none⟩) (by simp)).trans (by simp))⟩
  have HC := hide (hasN_any a c l.length l _ _ (fun s => s.parent == nm) w _ B0.out h rfl hl HA.out)
  clear h HA
  go_enter Tryz.func56, Tryz.ntmps56
  go_wp2_with fail
  refine HC.out.mono ?_
  rintro r w1 ⟨rfl, hb1⟩
  have B1 := hide (below_next B0.out hb1)
  clear hb1
  go_wp2_with fail
  go_ret
  exact ⟨rfl, B1.out⟩
def leaS (t : Sn) (b : Bool) : Sn := ⟨t.name, t.parent, t.kind, b, t.layer⟩
def LeaP (t : Sn) (b : Bool) (m : Sn) (rep : Int) : Prop := rep = 0 ∧ m = leaS t b
theorem aft_zero (l l2 : List Sn) : aft 0 l l2 = l2 := if_pos rfl
set_option maxRecDepth 100000 in
set_option maxHeartbeats 1600000 in
theorem leaseLit_any (t : Sn) (b : Bool) (bl : Nat) (W0 : World) (hbl : W0.cell? ⟨bl, 0, none⟩ = some (.bool b)) : Turns W0 59 #[.pointer (some ⟨bl, 0, none⟩)] t (LeaP t b) := by
  refine ⟨enters_of Tryz.func59 (by kernel_rfl) rfl, fun x c w hw hx => ?_⟩
  have HX := hide hx
  have hlt := World.block_lt_of_cell? W0 ⟨bl, 0, none⟩ hbl
  have hc0 := (hw.cell (p := ⟨bl, 0, none⟩) hlt).trans hbl
  have hblw : bl < w.heap.size := Nat.lt_of_lt_of_le hlt hw.size
  have hc1 : ((w.alloc (.cells #[.string (str t.name), .string (str t.parent), .int .i64 t.kind, .bool t.lease, .slice x t.layer.length c] 37)).alloc (.cells #[.string ⟨#[]⟩, .string ⟨#[]⟩, .int .i64 0, .bool false, .slice none 0 0] 37)).cell? ⟨bl, 0, none⟩ = some (.bool b) := ((below_next (below_alloc w _) (below_alloc _ _)).cell (p := ⟨bl, 0, none⟩) hblw).trans hc0
  show Calls Tryz.prog 59 #[.agg #[.string (str t.name), .string (str t.parent), .int .i64 t.kind, .bool t.lease, .slice x t.layer.length c], .pointer (some ⟨bl, 0, none⟩)] w _
  clear hw hx hc0
  go_enter Tryz.func59, Tryz.ntmps59
  go_wp2_with fail
  refine bodyPost_ret (v := .tuple #[.agg #[.string (str t.name), .string (str t.parent), .int .i64 t.kind, .bool b, .slice x t.layer.length c], .int .i64 0]) (by simp [results, Tryz.results59, go_sem]) rfl ?_
  exact ⟨leaS t b, 0, ⟨rfl, rfl⟩, x, ⟨c, rfl⟩, HX.out.below (below_next (below_alloc _ _) (below_alloc _ _)), below_next (below_alloc _ _) (below_alloc _ _)⟩
set_option maxRecDepth 100000 in
set_option maxHeartbeats 1600000 in
theorem implLeaseSnap_ok (a : Option Addr) (c n : Nat) (l : List Sn) (nm : Bs) (b : Bool) (t : Sn) (w : World) (h : RdS w a l) (hn : n = l.length) (hR : RightS l) (hs : SmallS l) (ht : atS l nm = some t) :
    Calls Tryz.prog 18 #[.slice a n c, .string (str nm), .bool b] w (ResS 0 0 (putN l (leaS t b)) w) := by
  have hmf : ∀ (fn : Fn) (first cap : Array Value) (w : World), (Instr.makeFunc fn first cap).run Tryz.prog w = .ok (.func fn first cap) w := fun _ _ _ _ => rfl
  subst hn
  have hl := hR.len
  have BA := hide (below_alloc w (.cells #[.bool b] 4))
  have B0 := hide (below_next BA.out (below_alloc _ (.cells #[.int .i64 0, .int .i64 0, .slice none 0 0] 28)))
  have X0 := hide (Box3.new (w.alloc (.cells #[.bool b] 4)) (.int .i64 0) (.int .i64 0) (.slice none 0 0) 28)
  have C0 : Hid (((w.alloc (.cells #[.bool b] 4)).alloc (.cells #[.int .i64 0, .int .i64 0, .slice none 0 0] 28)).cell? ⟨w.heap.size, 0, none⟩ = some (.bool b)) := hide (((below_alloc _ (.cells #[.int .i64 0, .int .i64 0, .slice none 0 0] 28)).cell (p := ⟨w.heap.size, 0, none⟩) (by simp)).trans (by simp))
  have HC := hide (implSnapsFault_any a c l.length l _ (h.below B0.out) rfl (by omega) hs)
  rw [snF_zero.2 hR] at HC
  have HRd := hide h
  have HRS := hide hR
  have HSM := hide hs
  have HAT := hide ht
  clear h hR hs ht
  go_enter Tryz.func18, Tryz.ntmps18
  go_wp2_with fail
  simp only [World.size_alloc] at X0
  have hsz0 : ((w.alloc (.cells #[.bool b] 4)).alloc (.cells #[.int .i64 0, .int .i64 0, .slice none 0 0] 28)).heap.size = w.heap.size + 2 := by simp
  generalize (w.alloc (.cells #[.bool b] 4)).alloc (.cells #[.int .i64 0, .int .i64 0, .slice none 0 0] 28) = W0 at *
  refine HC.out.mono ?_
  rintro r w1 ⟨rfl, hb1⟩
  have B1 := hide (below_next B0.out hb1)
  have X1 := hide (X0.out.below hb1)
  have C1 := hide ((hb1.cell (p := ⟨w.heap.size, 0, none⟩) (by show w.heap.size < _; omega)).trans C0.out)
  have hs1 := hb1.size
  clear hb1
  go_wp2_with fail
  refine (turned_some a c l.length l nm 59 #[.pointer (some ⟨w.heap.size, 0, none⟩)] t (LeaP t b) w1 (HRd.out.below B1.out) rfl HRS.out HSM.out HAT.out (leaseLit_any t b w.heap.size w1 C1.out) (fun m hm => by have hm2 := hm.2; subst hm2; exact ⟨rfl, rfl, small_put HSM.out (by omega) (HSM.out.2 t (atS_some HAT.out).1)⟩)).mono ?_
  rintro r w2 ⟨m, rep, ⟨rfl, rfl⟩, av, cv, rfl, hG, hb2⟩
  rw [aft_zero] at hG ⊢
  have G2 := hide hG
  have B2 := hide (below_next B1.out hb2)
  obtain ⟨⟨t0, t1, t2⟩, t3, t4, t5⟩ := X1.out.below hb2
  clear hG hb2
  go_wp2_with fail
  exact bodyPost_ret (v := .agg #[.int .i64 0, .int .i64 0, .slice av _ cv]) (by simp [results, Tryz.results18, go_sem, t0, t1, t2]) rfl (ResS.of (B := w1.heap.size) (by omega) (by omega) rfl G2.out B2.out)
def remR (l : List Sn) (t : Sn) : Int := if t.lease || l.any (fun s => s.parent == t.name) then 7 else 0
set_option maxRecDepth 100000 in
set_option maxHeartbeats 3200000 in
theorem implRemoveSnap_ok (a : Option Addr) (c n : Nat) (l : List Sn) (nm : Bs) (t : Sn) (w : World) (h : RdS w a l) (hn : n = l.length) (hR : RightS l) (hs : SmallS l) (ht : atS l nm = some t) :
    Calls Tryz.prog 17 #[.slice a n c, .string (str nm)] w (ResS 0 (remR l t) (aft (remR l t) l (offN l nm)) w) := by
  subst hn
  have hl := hR.len
  have hnm := (atS_some ht).2
  have B0 := hide (below_alloc w (.cells #[.int .i64 0, .int .i64 0, .slice none 0 0] 28))
  have X0 := hide (Box3.new w (.int .i64 0) (.int .i64 0) (.slice none 0 0) 28)
  have HC := hide (implSnapsFault_any a c l.length l _ (h.below B0.out) rfl (by omega) hs)
  rw [snF_zero.2 hR] at HC
  have HRd := hide h
  have HSM := hide hs
  have HAT := hide ht
  have HNE := hide (nmOk_ne (hR.own t (atS_some ht).1).1)
  have HBD := hide (show ∀ e ∈ l, e.name = t.name → e.parent = t.parent from fun e he hn => by
    have h1 := atS_mem hR.rise he
    have h2 := atS_mem hR.rise (atS_some ht).1
    rw [hn, h2] at h1
    cases h1; rfl)
  have HSO : Hid (SmallS (offN l t.name)) := hide ⟨Nat.le_trans (List.length_filter_le _ _) hs.1, fun e he => hs.2 e (mem_offN.1 he).1⟩
  have hol : (offN l t.name).length ≤ l.length := List.length_filter_le _ _
  subst hnm
  clear h hR hs ht
  go_enter Tryz.func17, Tryz.ntmps17
  go_wp2_with fail
  have hsz0 : (w.alloc (.cells #[.int .i64 0, .int .i64 0, .slice none 0 0] 28)).heap.size = w.heap.size + 1 := by simp
  generalize w.alloc (.cells #[.int .i64 0, .int .i64 0, .slice none 0 0] 28) = W0 at *
  refine HC.out.mono ?_
  rintro r w1 ⟨rfl, hb1⟩
  have B1 := hide (below_next B0.out hb1)
  have X1 := hide (X0.out.below hb1)
  have hs1 := hb1.size
  clear hb1
  go_wp2_with fail
  refine (snapOf_any a c l.length l t.name w w1 B1.out HRd.out rfl (by omega)).mono ?_
  rintro r w2 ⟨⟨e, x2, c2, he, rfl, hx2⟩, hb2⟩
  rw [HAT.out] at he
  have he2 : e = t := he
  subst he2
  have HX2 := hide hx2
  have B2 := hide (below_next B1.out (below_next hb2 (below_alloc w2 (.cells #[.string (str e.name), .string (str e.parent), .int .i64 e.kind, .bool e.lease, .slice x2 e.layer.length c2] 37))))
  have X2 := hide (X1.out.below (below_next hb2 (below_alloc w2 (.cells #[.string (str e.name), .string (str e.parent), .int .i64 e.kind, .bool e.lease, .slice x2 e.layer.length c2] 37))))
  have F2 := hide (Five.new w2 (.string (str e.name)) (.string (str e.parent)) (.int .i64 e.kind) (.bool e.lease) (.slice x2 e.layer.length c2) 37)
  have hs2 := hb2.size
  clear hb2 he hx2
  go_wp2_with fail
  have hsz2 : (w2.alloc (.cells #[.string (str e.name), .string (str e.parent), .int .i64 e.kind, .bool e.lease, .slice x2 e.layer.length c2] 37)).heap.size = w2.heap.size + 1 := by simp
  generalize w2.alloc (.cells #[.string (str e.name), .string (str e.parent), .int .i64 e.kind, .bool e.lease, .slice x2 e.layer.length c2] 37) = W2 at *
  refine (isNone_no e _ _ _ HNE.out).mono ?_
  rintro r w3 ⟨rfl, hb3⟩
  have B3 := hide (below_next B2.out hb3)
  have X3 := hide (X2.out.below hb3)
  have F3 := hide (F2.out.below hb3)
  have hs3 := hb3.size
  obtain ⟨f0, f1, f2, f3, f4⟩ := F3.out
  clear hb3
  cases hle : e.lease
  · rw [hle] at f3
    have HLE := hide hle
    clear hle
    go_wp2_with fail
    refine (hasChild_any a c l.length l e.name w3 (HRd.out.below B3.out) rfl (by omega)).mono ?_
    rintro r w4 ⟨rfl, hb4⟩
    have B4 := hide (below_next B3.out hb4)
    have X4 := hide (X3.out.below hb4)
    obtain ⟨g0, g1, g2, g3, g4⟩ := F3.out.below hb4
    have hs4 := hb4.size
    clear hb4 f0 f1 f2 f3 f4
    cases hch : l.any (fun s => s.parent == e.name)
    · have HR0 := hide (show remR l e = 0 by unfold remR; rw [HLE.out, hch]; rfl)
      have HA := hide (show aft (remR l e) l (offN l e.name) = offN l e.name by unfold aft; rw [if_pos HR0.out])
      clear hch
      go_wp2_with fail
      refine (withoutSnap_any a c l.length l e x2 c2 w4 w4 (Below.refl _ _) (HRd.out.below B4.out) rfl (by omega) HBD.out).mono ?_
      rintro r w5 ⟨av5, cv5, rfl, hL5, hb5⟩
      have R5 := hide (hL5.rd hb5)
      have B5 := hide (below_next B4.out hb5)
      have X5 := hide (X4.out.below hb5)
      have hs5 := hb5.size
      clear hL5 hb5
      go_wp2_with fail
      refine (copiedSnaps_any av5 cv5 (offN l e.name).length (offN l e.name) w5 R5.out rfl (by omega) HSO.out).mono ?_
      rintro r w9 ⟨av, cv, rfl, hG, hb9⟩
      have G9 := hide hG
      have B9 := hide (below_next B5.out hb9)
      obtain ⟨⟨t0, t1, t2⟩, t3, t4, t5⟩ := X5.out.below hb9
      clear hG hb9
      go_wp2_with fail
      exact bodyPost_ret (v := .agg #[.int .i64 0, .int .i64 0, .slice av (offN l e.name).length cv]) (by simp [results, Tryz.results17, go_sem, t0, t1, t2]) rfl (by rw [HA.out, HR0.out]; exact ResS.of (B := w5.heap.size) (by omega) (Nat.le_refl _) rfl G9.out B9.out)
    · have HR0 := hide (show remR l e = 7 by unfold remR; rw [HLE.out, hch]; rfl)
      have HA := hide (show aft (remR l e) l (offN l e.name) = l by unfold aft; rw [HR0.out]; rfl)
      clear hch
      go_wp2_with fail
      refine (snapsStay_any a c l.length l 7 w4 (HRd.out.below B4.out) rfl (by omega) HSM.out).mono ?_
      rintro r w9 ⟨av, cv, rfl, hG, hb9⟩
      have G9 := hide hG
      have B9 := hide (below_next B4.out hb9)
      obtain ⟨⟨t0, t1, t2⟩, t3, t4, t5⟩ := X4.out.below hb9
      clear hG hb9
      go_wp2_with fail
      exact bodyPost_ret (v := .agg #[.int .i64 0, .int .i64 7, .slice av l.length cv]) (by simp [results, Tryz.results17, go_sem, t0, t1, t2]) rfl (by rw [HA.out, HR0.out]; exact ResS.of (B := w4.heap.size) (by omega) (Nat.le_refl _) rfl G9.out B9.out)
  · rw [hle] at f3
    have HR0 := hide (show remR l e = 7 by unfold remR; rw [hle]; rfl)
    have HA := hide (show aft (remR l e) l (offN l e.name) = l by unfold aft; rw [HR0.out]; rfl)
    go_wp2_with fail
    refine (snapsStay_any a c l.length l 7 w3 (HRd.out.below B3.out) rfl (by omega) HSM.out).mono ?_
    rintro r w9 ⟨av, cv, rfl, hG, hb9⟩
    have G9 := hide hG
    have B9 := hide (below_next B3.out hb9)
    obtain ⟨⟨t0, t1, t2⟩, t3, t4, t5⟩ := X3.out.below hb9
    clear hG hb9
    go_wp2_with fail
    exact bodyPost_ret (v := .agg #[.int .i64 0, .int .i64 7, .slice av l.length cv]) (by simp [results, Tryz.results17, go_sem, t0, t1, t2]) rfl (by rw [HA.out, HR0.out]; exact ResS.of (B := w3.heap.size) (by omega) (Nat.le_refl _) rfl G9.out B9.out)
end Go.Proofs.YtolnlfnndnpiiaaGreat

