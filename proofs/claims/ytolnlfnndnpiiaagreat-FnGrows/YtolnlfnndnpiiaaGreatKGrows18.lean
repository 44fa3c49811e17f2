/-
  Texts put together: SnqJ SnpU.
-/
import Derived.Test.YtolnlfnndnpiiaaGreatKGrows17
import Derived.RangeFuncNested
import Derived.RangeFuncBound
import Derived.RangeFuncCalls
import Derived.RangeFuncLeaves
import Derived.RangeFuncBox
import Derived.Shelf.Abstract
import Derived.Shelf.RegionOpen
import Derived.OwnWalkIn
import Derived.TacticsInMore
import Derived.LoopNIn
import Derived.LoopIn
import Derived.Maps.AppendAt
import Derived.Test.YtolnlfnndnpiiaaGreatKGrows12
import Derived.Test.YtolnlfnndnpiiaaGreatKGrows13
import Derived.Test.YtolnlfnndnpiiaaGreatKGrows11
import Derived.Test.YtolnlfnndnpiiaaGreatKGrows2
namespace Go.Proofs.YtolnlfnndnpiiaaGreat
open Go.RowKit Go.Maps
set_option linter.unusedVariables false
attribute [local go_sem ↓] Go.wp_at_zero Go.wp_at_succ

theorem offN_at {l : List Sn} {k : Nat} {s : Sn} (hr : RiseN l) (hs : l[k]? = some s) : offN l s.name = l.take k ++ l.drop (k + 1) := by
  have hdec : l = l.take k ++ s :: l.drop (k + 1) := by rw [← drop_at hs, List.take_append_drop]
  have h9 := hr
  rw [hdec] at h9
  have hrl : ∀ x ∈ l.take k, (!(x.name == s.name)) = true := fun x hx => by
    have := bl_ne ((List.pairwise_append.1 h9).2.2 x hx s (by simp))
    simpa using this
  have hrr : ∀ x ∈ l.drop (k + 1), (!(x.name == s.name)) = true := fun x hx => by
    have := bl_ne ((List.pairwise_cons.1 (List.pairwise_append.1 h9).2.1).1 x hx)
    simpa using fun e => this e.symm
  unfold offN
  conv => lhs; rw [hdec]
  rw [List.filter_append, List.filter_cons, List.filter_eq_self.2 hrl, List.filter_eq_self.2 hrr]
  simp
theorem off_rowsN {w0 w5 : World} {B : Nat} {rs : List Rs} {l : List Sn} {k n : Nat} {av : Option Addr} {cv : Nat} (g1 : rs.map Rs.s = l) (hk : k < l.length) (hn : n + 1 = l.length)
    (g3 : ∀ r ∈ rs, RdE w0 r.a r.s.layer) (hb : Below w0.heap.size w0 w5)
    (ho : w5.ownsRow B 37 5 (.slice av n cv) n (([] ++ rowN (rs.take k)) ++ rowN (rs.drop (k + 1)))) : RdS w5 av (l.take k ++ l.drop (k + 1)) := by
  refine rdS_row (rs := rs.take k ++ rs.drop (k + 1)) ?_ ?_ (fun r hr => ?_) (B := B) (n := n) (c := cv)
  · rw [List.map_append, List.map_take, List.map_drop, g1]
  · have e1 : (l.take k ++ l.drop (k + 1)).length = n := by simp; omega
    rw [e1]
    have e2 : rowN (rs.take k ++ rs.drop (k + 1)) = ([] ++ rowN (rs.take k)) ++ rowN (rs.drop (k + 1)) := by
      rw [rowN_append]; simp
    rw [e2]
    exact ho
  · rcases List.mem_append.1 hr with hr | hr
    · exact (g3 r (List.mem_of_mem_take hr)).below hb
    · exact (g3 r (List.mem_of_mem_drop hr)).below hb
set_option maxRecDepth 100000 in
set_option maxHeartbeats 800000 in
theorem l12Child_any (a : Option Addr) (c n : Nat) (l : List Sn) (nm : Bs) (w : World) (h : RdS w a l) (hn : n = l.length) (hl : l.length ≤ 1048576) :
    Calls Tryz.prog 190 #[.slice a n c, .string (str nm)] w fun r w' => r = .returned (.bool (l.any fun s => s.parent == nm)) ∧ w' = w := by
  subst hn
  have HR := hide h
  clear h
  go_enter Tryz.func190, Tryz.ntmps190
  go_wp2_with fail
  go_loop [5] (fun i => ∃ k : Nat, k ≤ l.length ∧ i = .int .i64 k ∧ Hid ((l.any fun s => s.parent == nm) = ((l.drop k).any fun s => s.parent == nm))) (fun i => l.length - (intOf i).toNat)
  case atStart => exact ⟨0, Nat.zero_le _, rfl, hide (by simp)⟩
  case round =>
    obtain ⟨k, hk, rfl, HA⟩ := hrel
    by_cases hlt : k < l.length
    · obtain ⟨b, off, e, x, cc, rfl, hb, he, c0, c1, c2, c3, c4, hr⟩ := HR.out.at hlt
      have HX := hide he
      clear he hr
      by_cases hp : e.parent = nm
      · have HE := hide (show (l.any fun s => s.parent == nm) = true by rw [HA.out, drop_at HX.out]; simp [hp])
        have hs := str_yes hp
        clear hp
        go_wp2_with fail
        go_ret
        exact ⟨ret_bool HE.out.symm, rfl⟩
      · have HE := hide (show (l.any fun s => s.parent == nm) = ((l.drop (k + 1)).any fun s => s.parent == nm) by rw [HA.out, drop_at HX.out]; simp [hp])
        have hs := str_no hp
        clear hp
        go_wp2_with fail
        go_round
        case rel => exact ⟨k + 1, by omega, by go_num, HE⟩
        case measure => simp [intOf]; omega
    · have HE := hide (show (l.any fun s => s.parent == nm) = false by rw [HA.out, List.drop_eq_nil_of_le (by omega)]; rfl)
      go_wp2_with fail
      go_ret
      exact ⟨ret_bool HE.out.symm, rfl⟩
set_option maxRecDepth 100000 in
set_option maxHeartbeats 6400000 in
theorem specRemoveSnap_ok (a : Option Addr) (c n : Nat) (l : List Sn) (nm : Bs) (w : World) (h : RdS w a l) (hP : Plc a c l) (hn : n = l.length) (hR : RightS l) (hs : SmallS l) :
    Calls Tryz.prog 142 #[.slice a n c, .string (str nm)] w fun r w' => (atS l nm = none ∧ ResM' 0 4 l w r w') ∨ ∃ t, atS l nm = some t ∧ ((remR l t = 7 ∧ ResM' 0 7 l w r w') ∨ (remR l t = 0 ∧ ResM' 0 0 (offN l nm) w r w')) := by
  subst hn
  have hl := hR.len
  obtain ⟨i1, ki, kz0, kz1, kz2⟩ := info_parts Tryz.infoSn
  have X0 := hide (Box3.new w (.int .i64 0) (.int .i64 0) (.slice none 0 0) 28)
  have B0 := hide (below_alloc w (.cells #[.int .i64 0, .int .i64 0, .slice none 0 0] 28))
  have HC := hide (l12Fault_any a c l.length l _ (h.below B0.out) rfl (by omega) hs)
  rw [hR.good] at HC
  have HRd := hide h
  have HRI := hide hR.rise
  have HSM := hide hs
  have HP := hide hP
  clear h hs hR hP
  go_enter Tryz.func142, Tryz.ntmps142
  go_wp2_with fail
  have hsz0 : (w.alloc (.cells #[.int .i64 0, .int .i64 0, .slice none 0 0] 28)).heap.size = w.heap.size + 1 := by simp
  generalize w.alloc (.cells #[.int .i64 0, .int .i64 0, .slice none 0 0] 28) = W0 at *
  refine HC.out.mono ?_
  rintro r w1 ⟨rfl, hb1⟩
  have B1 := hide (below_next B0.out hb1)
  have X1 := hide (X0.out.below hb1)
  have hs1 := hb1.size
  clear hb1
  go_wp2_with fail
  refine (l12At_any a c l.length l nm w1 (HRd.out.below B1.out) rfl (by omega)).mono ?_
  rintro r w2 ⟨rfl, hw2⟩
  subst hw2
  cases hp : plS l nm with
  | none =>
    have HN := hide (plS_none hp)
    clear hp
    simp only [placeI]
    go_wp2_with fail
    refine (l12Reply_any _ c l.length l 4 _ (HRd.out.below B1.out) rfl (by omega) HSM.out).mono ?_
    rintro r w9 ⟨av, cv, rfl, hG, hb9⟩
    have G9 := hide hG
    have B9 := hide (below_next B1.out hb9)
    obtain ⟨⟨t0, t1, t2⟩, t3, t4, t5⟩ := X1.out.below hb9
    clear hG hb9
    go_wp2_with fail
    exact bodyPost_ret (v := .agg #[.int .i64 0, .int .i64 4, .slice av l.length cv]) (by simp [results, Tryz.results142, go_sem, t0, t1, t2]) rfl (.inl ⟨HN.out, ResM'.of (B := w2.heap.size) (by omega) (Nat.le_refl _) rfl G9.out B9.out⟩)
  | some j =>
    obtain ⟨s, hq, hat⟩ := plS_at hp
    have hjl := (List.getElem?_eq_some_iff.1 hq).1
    obtain ⟨b2, off2, e, x2, cc2, hbb, hb2, he, d0, d1, d2, d3, d4, hr2⟩ := (HRd.out.below B1.out).at hjl
    subst hbb
    have heq : e = s := by rw [hq] at he; exact (Option.some.inj he).symm
    subst heq
    have HAT := hide hat
    have HEN := hide (atS_some hat).2
    have HQ := hide hq
    have hPc : l.length ≤ c := by
      rcases HP.out with ⟨e1, -⟩ | ⟨b5, off5, e1, hc5⟩
      · cases e1
      · exact hc5
    have hj0 : ¬ (j : Int) < 0 := by omega
    have hj1 : (j : Int) < (l.length : Int) := by omega
    clear hp hq hat he hr2 d0 d1 d2 d4
    simp only [placeI]
    go_wp2_with fail
    refine (l12Child_any _ c l.length l nm w2 (HRd.out.below B1.out) rfl (by omega)).mono ?_
    rintro r w3 ⟨rfl, hw3⟩
    subst hw3
    have HRM := hide (show remR l e = if e.lease || l.any (fun s => s.parent == nm) then 7 else 0 by unfold remR; rw [HEN.out])
    cases hch : (l.any fun s => s.parent == nm)
    · cases hle : e.lease
      · have HQ0 := hide (show remR l e = 0 by rw [HRM.out, hch, hle]; rfl)
        rw [hle] at d3
        clear hch hle
        obtain ⟨rs, g1, g3, g4⟩ := rdS_rows (HRd.out.below B1.out)
        have G1 := hide g1
        have G3 := hide g3
        have hrsl : rs.length = l.length := by rw [← g1, List.length_map]
        have NS := hide (show ∀ w', Below w3.heap.size w3 w' → ∀ i u, (rowN rs)[i]? = some u → w'.cell? ⟨b2, off2 + i, none⟩ = some u from fun w' hb' i u hu => by
          have hln : l ≠ [] := fun e => by rw [e] at hjl; simp at hjl
          obtain ⟨b1, off1, e1, hb1, hc1⟩ := g4 hln
          simp only [Option.some.injEq, Addr.mk.injEq, and_true] at e1
          obtain ⟨rfl, rfl⟩ := e1
          exact (hb'.cell (p := ⟨b2, off2 + i, none⟩) hb1).trans (hc1 i u hu))
        clear g1 g3 g4
        have HOF := hide (show offN l nm = l.take j ++ l.drop (j + 1) by rw [← HEN.out]; exact offN_at HRI.out HQ.out)
        have HLn := hide (show l.length - 1 = (l.take j ++ l.drop (j + 1)).length from by simp; omega)
        have HL1 := hide (show l.length - 1 + 1 = l.length by omega)
        have HSm := hide (show SmallS (l.take j ++ l.drop (j + 1)) from ⟨by simp; omega, fun y hy => by
          rcases List.mem_append.1 hy with hy | hy
          · exact HSM.out.2 y (List.mem_of_mem_take hy)
          · exact HSM.out.2 y (List.mem_of_mem_drop hy)⟩)
        have OWN0 : Hid ((w3.alloc (.cells #[] 37)).drew.ownsRow w3.heap.size 37 5 (.slice (some ⟨w3.heap.size, 0, none⟩) 0 0) 0 []) := World.ownsRow_made w3 #[] 0 (Nat.le_refl _) (Nat.zero_le _) rfl
        have NEWS0 : Hid (∀ q u, (rowN (rs.take j))[q]? = some u → (w3.alloc (.cells #[] 37)).drew.cell? ((⟨b2, off2, none⟩ : Addr).add q) = some u) := hide (fun q u hj => by
          rw [add_addr]
          refine NS.out _ (below_alloc w3 (.cells #[] 37)).drew q u ?_
          rw [← rowN_take, List.getElem?_take] at hj
          split at hj
          · exact hj
          · cases hj)
        have hln0 : (rowN (rs.take j)).length = j * 5 := by rw [rowN_length, List.length_take]; congr 1; omega
        have hm0 : 0 + j ≤ maxLen := by unfold maxLen; omega
        have hm0' : (0 + j) * 72 ≤ 140737488355328 := by omega
        have hk0i : (0 : Int) ≤ (j : Int) := by omega
        have hk0' : (0 : Int) ≤ (j : Int) + 1 := by omega
        have hwr : IntKind.i64.wrap ((j : Int) + 1) = (j : Int) + 1 := by simp [IntKind.wrap, IntKind.signed, IntKind.bits]; omega
        have htn : ((j : Int) + 1).toNat = j + 1 := by omega
        have hI1 : (j : Int) ≤ (c : Int) := by omega
        have hI2 : (j : Int) + 1 ≤ (l.length : Int) := by omega
        have hI3 : (l.length : Int) ≤ (c : Int) := by omega
        have hI4 : (j : Int) ≤ (l.length : Int) := by omega
        by_cases hck : c = j + 1
        · subst hck
          have hI5 : (j : Int) ≤ (j : Int) + 1 := by omega
          have hI6 : (l.length : Int) ≤ (j : Int) + 1 := by omega
          have hnl0 : (rowN (rs.drop (j + 1))).length = 0 * 5 := by rw [rowN_length, List.length_drop, hrsl]; omega
          have hk0 : j + 0 = l.length - 1 := by omega
          have hm3 : j + 0 ≤ maxLen := by unfold maxLen; omega
          have hm3' : (j + 0) * 72 ≤ 140737488355328 := by omega
          have NEWS2 : Hid (∀ w5 : World, Below w3.heap.size w3 w5 → ∀ q u, (rowN (rs.drop (j + 1)))[q]? = some u → w5.cell? ((⟨b2, off2, none⟩ : Addr).add q) = some u) := fun w5 hb5 q u hj => by rw [← rowN_drop, List.drop_eq_nil_of_le (by rw [rowN_length]; omega)] at hj; simp at hj
          go_wp2_with fail
          go_region_held3 (fun _ => True) (trivial)
            ((first
              | (refine step_append_list (by rfl) (.tmp 32) (.tmp 35) 24 (by rfl) w3.heap.size 37 i1 (.agg #[.string ⟨#[]⟩, .string ⟨#[]⟩, .int .i64 0, .bool false, .slice none 0 0]) 5 72 Tryz.underlying24 ki kz0 kz1 kz2 rfl (by decide) (.slice (some ⟨w3.heap.size, 0, none⟩) 0 0) 0 [] (by rfl) OWN0.out ⟨b2, off2, none⟩ j (j + 1) (rowN (rs.take j)) (by rfl) hln0 NEWS0.out (rowN_one _) j (by simp) hm0 hm0' (by simp) ?_; intro av4 cv4 w4 hown4 hk4; have O4 := hide hown4; have BB4 := hide ((below_alloc w3 (.cells #[] 37)).drew.trans (hk4.below (by simp) (fun q hq hS => by simp [Value.ownBlock] at hS; omega))); clear hown4 hk4)
              | (refine step_append_list (by rfl) (.tmp 36) (.tmp 40) 24 (by rfl) w3.heap.size 37 i1 (.agg #[.string ⟨#[]⟩, .string ⟨#[]⟩, .int .i64 0, .bool false, .slice none 0 0]) 5 72 Tryz.underlying24 ki kz0 kz1 kz2 rfl (by decide) (.slice av4 j cv4) j ([] ++ rowN (rs.take j)) (by rfl) O4.out ⟨b2, off2, none⟩ 0 0 (rowN (rs.drop (j + 1))) (by rfl) hnl0 (NEWS2.out w4 BB4.out) (rowN_one _) (l.length - 1) hk0 hm3 hm3' BB4.out.size ?_; intro av5 cv5 w5 hown5 hk5; have BB5 := hide (BB4.out.trans (hk5.below BB4.out.size (fun q hq hS => by have := (O4.out.lt q hS).1; omega))); have RD5 := hide (off_rowsN G1.out hjl HL1.out G3.out BB5.out hown5); clear hown5 hk5)
              | (go_at_call 72; refine (l12Copy_any av5 cv5 (l.length - 1) _ w5 RD5.out HLn.out (by rw [← HLn.out]; omega) HSm.out).mono ?_; rw [← HLn.out]; rintro r w6 ⟨av6, cv6, rfl, hG6, hb6⟩; have GG6 := hide (hG6.mono BB5.out.size); have B6 := hide (below_next BB5.out hb6); obtain ⟨⟨t0, t1, t2⟩, t3, t4, t5⟩ := X1.out.below B6.out; clear hG6 hb6)))
          go_wp2_with fail
          have hpl : (offN l nm).length = l.length - 1 := by rw [HOF.out]; exact HLn.out.symm
          exact bodyPost_ret (v := .agg #[.int .i64 0, .int .i64 0, .slice av6 (l.length - 1) cv6]) (by first | (simp [results, Tryz.results142, go_sem, t0, t1, t2]; done) | (simp [results, Tryz.results142, go_sem, t0, t1, t2]; omega)) rfl (.inr ⟨e, HAT.out, .inr ⟨HQ0.out, ResM'.of (B := w3.heap.size) (by omega) (Nat.le_refl _) hpl.symm (by rw [HOF.out]; exact GG6.out) (below_next B1.out B6.out)⟩⟩)
        · have hck2 : ¬ j + 1 = c := fun e => hck e.symm
          have hnl : (rowN (rs.drop (j + 1))).length = (l.length - (j + 1)) * 5 := by rw [rowN_length, List.length_drop, hrsl]
          have hN' : j + (l.length - (j + 1)) = l.length - 1 := by omega
          have hm2 : j + (l.length - (j + 1)) ≤ maxLen := by unfold maxLen; omega
          have hm2' : (j + (l.length - (j + 1))) * 72 ≤ 140737488355328 := by omega
          have NEWS2 : Hid (∀ w5 : World, Below w3.heap.size w3 w5 → ∀ q u, (rowN (rs.drop (j + 1)))[q]? = some u → w5.cell? ((⟨b2, off2 + (j + 1) * 5, none⟩ : Addr).add q) = some u) := fun w5 hb5 q u hj => by
            rw [add_addr, Nat.add_assoc]
            exact NS.out _ hb5 _ u (by rw [← rowN_drop, List.getElem?_drop] at hj; exact hj)
          go_wp2_with fail
          go_region_held3 (fun _ => True) (trivial)
            ((first
              | (refine step_append_list (by rfl) (.tmp 32) (.tmp 35) 24 (by rfl) w3.heap.size 37 i1 (.agg #[.string ⟨#[]⟩, .string ⟨#[]⟩, .int .i64 0, .bool false, .slice none 0 0]) 5 72 Tryz.underlying24 ki kz0 kz1 kz2 rfl (by decide) (.slice (some ⟨w3.heap.size, 0, none⟩) 0 0) 0 [] (by rfl) OWN0.out ⟨b2, off2, none⟩ j c (rowN (rs.take j)) (by rfl) hln0 NEWS0.out (rowN_one _) j (by simp) hm0 hm0' (by simp) ?_; intro av4 cv4 w4 hown4 hk4; have O4 := hide hown4; have BB4 := hide ((below_alloc w3 (.cells #[] 37)).drew.trans (hk4.below (by simp) (fun q hq hS => by simp [Value.ownBlock] at hS; omega))); clear hown4 hk4)
              | (refine step_append_list (by rfl) (.tmp 36) (.tmp 40) 24 (by rfl) w3.heap.size 37 i1 (.agg #[.string ⟨#[]⟩, .string ⟨#[]⟩, .int .i64 0, .bool false, .slice none 0 0]) 5 72 Tryz.underlying24 ki kz0 kz1 kz2 rfl (by decide) (.slice av4 j cv4) j ([] ++ rowN (rs.take j)) (by rfl) O4.out ⟨b2, off2 + (j + 1) * 5, none⟩ (l.length - (j + 1)) (c - (j + 1)) (rowN (rs.drop (j + 1))) (by rfl) hnl (NEWS2.out w4 BB4.out) (rowN_one _) (l.length - 1) hN' hm2 hm2' BB4.out.size ?_; intro av5 cv5 w5 hown5 hk5; have BB5 := hide (BB4.out.trans (hk5.below BB4.out.size (fun q hq hS => by have := (O4.out.lt q hS).1; omega))); have RD5 := hide (off_rowsN G1.out hjl HL1.out G3.out BB5.out hown5); clear hown5 hk5)
              | (go_at_call 72; refine (l12Copy_any av5 cv5 (l.length - 1) _ w5 RD5.out HLn.out (by rw [← HLn.out]; omega) HSm.out).mono ?_; rw [← HLn.out]; rintro r w6 ⟨av6, cv6, rfl, hG6, hb6⟩; have GG6 := hide (hG6.mono BB5.out.size); have B6 := hide (below_next BB5.out hb6); obtain ⟨⟨t0, t1, t2⟩, t3, t4, t5⟩ := X1.out.below B6.out; clear hG6 hb6)))
          go_wp2_with fail
          have hpl : (offN l nm).length = l.length - 1 := by rw [HOF.out]; exact HLn.out.symm
          exact bodyPost_ret (v := .agg #[.int .i64 0, .int .i64 0, .slice av6 (l.length - 1) cv6]) (by first | (simp [results, Tryz.results142, go_sem, t0, t1, t2]; done) | (simp [results, Tryz.results142, go_sem, t0, t1, t2]; omega)) rfl (.inr ⟨e, HAT.out, .inr ⟨HQ0.out, ResM'.of (B := w3.heap.size) (by omega) (Nat.le_refl _) hpl.symm (by rw [HOF.out]; exact GG6.out) (below_next B1.out B6.out)⟩⟩)
      · have HQ7 := hide (show remR l e = 7 by rw [HRM.out, hch, hle]; rfl)
        rw [hle] at d3
        clear hch hle
        go_wp2_with fail
        refine (l12Reply_any _ c l.length l 7 _ (HRd.out.below B1.out) rfl (by omega) HSM.out).mono ?_
        rintro r w9 ⟨av, cv, rfl, hG, hb9⟩
        have G9 := hide hG
        have B9 := hide (below_next B1.out hb9)
        obtain ⟨⟨t0, t1, t2⟩, t3, t4, t5⟩ := X1.out.below hb9
        clear hG hb9
        go_wp2_with fail
        exact bodyPost_ret (v := .agg #[.int .i64 0, .int .i64 7, .slice av l.length cv]) (by simp [results, Tryz.results142, go_sem, t0, t1, t2]) rfl (.inr ⟨e, HAT.out, .inl ⟨HQ7.out, ResM'.of (B := w3.heap.size) (by omega) (Nat.le_refl _) rfl G9.out B9.out⟩⟩)
    · have HQ7 := hide (show remR l e = 7 by rw [HRM.out, hch, Bool.or_true]; rfl)
      clear hch
      go_wp2_with fail
      refine (l12Reply_any _ c l.length l 7 _ (HRd.out.below B1.out) rfl (by omega) HSM.out).mono ?_
      rintro r w9 ⟨av, cv, rfl, hG, hb9⟩
      have G9 := hide hG
      have B9 := hide (below_next B1.out hb9)
      obtain ⟨⟨t0, t1, t2⟩, t3, t4, t5⟩ := X1.out.below hb9
      clear hG hb9
      go_wp2_with fail
      exact bodyPost_ret (v := .agg #[.int .i64 0, .int .i64 7, .slice av l.length cv]) (by simp [results, Tryz.results142, go_sem, t0, t1, t2]) rfl (.inr ⟨e, HAT.out, .inl ⟨HQ7.out, ResM'.of (B := w3.heap.size) (by omega) (Nat.le_refl _) rfl G9.out B9.out⟩⟩)
end Go.Proofs.YtolnlfnndnpiiaaGreat

namespace Go.Proofs.YtolnlfnndnpiiaaGreat
open Go.RowKit Go.Shelf
set_option linter.unusedVariables false
attribute [local go_sem] Oper.semAt_some

theorem step_appIn {F : Fence} {n : Nat} {P : Program} {w : World} {ops : Array Oper} {o : Oper} {a : Act} {K : Act → World → Prop} {Q : Exit → Act → World → Prop} {E : Prop} (hgd : o.guard = none) (s x : Operand) (t : TypeId)
    (hop : o.op = Op.call { callee := Callee.builtin Builtin.append, args := #[s, x], argTypes := #[t, t] })
    (base : Nat) (e : TypeId) (i : TypeInfo) (z : Value) (size bytes : Nat) (h1 : P.underlying t = some (.slice e)) (h2 : P.info? e = some i) (h3 : i.zero = some z) (h4 : i.size = size) (h5 : i.bytes = bytes) (h6 : z.cells.size = size) (h7 : 0 < size)
    (v : Value) (k : Nat) (xs : List Value) (hs : a.eval s = v) (hown : w.ownsRow base e size v k xs) (ad : Addr) (m c : Nat) (news : List Value) (hx : a.eval x = .slice (some ad) m c) (hn : news.length = m * size)
    (hc : ∀ j u, news[j]? = some u → w.cell? (ad.add j) = some u) (h1c : ∀ u ∈ news, u.oneCell' = true) (N : Nat) (hN : k + m = N) (b1 : k + m ≤ maxLen) (b2 : (k + m) * bytes ≤ 140737488355328) (b3 : base ≤ w.heap.size)
    (hK : ∀ av cv w', w'.ownsRow base e size (.slice av N cv) N (xs ++ news) → w.grownBy w' v.ownBlock → K (a.put o.dst (.slice av N cv)) w') :
    if Region.wanted o (yielded ops a.tmps) = true then Oper.wpIn F n P o a w K Q else E := by
  have hw : Region.wanted o (yielded ops a.tmps) = true := by simp [Region.wanted, hgd]
  rw [if_pos hw]
  obtain ⟨v', w', hrun, r1, r2, r3⟩ := run_append_own (P := P) w base t o.type e i z size bytes h1 h2 h3 h4 h5 h6 h7 v k xs hown ad m c news hn hc h1c b1 b2 b3
  rw [hN] at r1
  obtain ⟨av, cv, rfl⟩ := ownsRow_shape r1
  unfold Oper.wpIn
  refine ⟨?_, ?_⟩
  · simp [Oper.about, hop, resolve, Target.leads, Sem.run_pure]
  · rw [Oper.semAt_plain F _ _ (by rw [hop]; intro c hc'; cases hc')]
    simp [execOp, hop, resolve, invoke, builtin, hs, hx, hrun, Result.andThen]
    exact hK av cv w' r1 r2
theorem kept_grown {A B : World} {row : Option Nat} (h : A.grownBy B row) : Kept (fun b => row = some b) A B := ⟨h.os, h.tape, h.output, h.size, fun k hk hn => h.block k hk (fun e => hn e.symm)⟩
theorem ownsRow_grown {A B : World} {row : Option Nat} {base n s : Nat} {e : TypeId} {v : Value} {xs : List Value} (h : A.ownsRow base e s v n xs) (hg : A.grownBy B row) (hr : ∀ r, row = some r → ∃ o : Obj, A.heap[r]? = some o ∧ o.isCells = false) : B.ownsRow base e s v n xs := by
  refine ownsRow_kept h (kept_grown hg) (fun b hb hS => ?_)
  obtain ⟨o, ho, hc⟩ := hr b hS
  rcases h.2 with ⟨rfl, _⟩ | ⟨g, cap, cur, rfl, _, hh, _⟩
  · simp [Value.ownBlock] at hb
  · obtain rfl : g = b := by simpa [Value.ownBlock] using hb
    rw [hh] at ho; cases ho; cases hc
theorem GW.grown {A B : World} {row : Option Nat} {base : Nat} {v : Value} {es : List En} (h : GW base A v es) (hg : A.grownBy B row) (hr : ∀ r, row = some r → ∃ o : Obj, A.heap[r]? = some o ∧ o.isCells = false) : GW base B v es := by
  obtain ⟨rs, e, g1, g2⟩ := h
  exact ⟨rs, e, ownsRow_grown g1 hg hr, fun r hx => ownsRow_grown (g2 r hx) hg hr⟩
def LL (B : Nat) (w : World) (v : Value) (ls : List (List En)) : Prop :=
  ∃ xs : List Ly, xs.map Ly.es = ls ∧ w.ownsRow B 35 1 v ls.length (xs.map lyV) ∧ ∀ x ∈ xs, GW B w (lyV x) x.es
theorem LL.nil (B : Nat) (w : World) : LL B w (.slice none 0 0) [] := ⟨[], rfl, World.ownsRow_nil _ _ _ _, fun x hx => by simp at hx⟩
theorem LL.shape {B : Nat} {w : World} {v : Value} {ls : List (List En)} (h : LL B w v ls) : ∃ a c, v = .slice a ls.length c := by
  obtain ⟨xs, _, h1, _⟩ := h
  exact ownsRow_shape h1
theorem LL.grown {B : Nat} {w w' : World} {row : Option Nat} {v : Value} {ls : List (List En)} (h : LL B w v ls) (hg : w.grownBy w' row) (hr : ∀ r, row = some r → ∃ o : Obj, w.heap[r]? = some o ∧ o.isCells = false) : LL B w' v ls := by
  obtain ⟨xs, h1, h2, h3⟩ := h
  exact ⟨xs, h1, ownsRow_grown h2 hg hr, fun x hx => (h3 x hx).grown hg hr⟩
theorem LL.kept {S : Nat → Prop} {B : Nat} {w w' : World} {v : Value} {ls : List (List En)} (h : LL B w v ls) (hk : Kept S w w') (hS : ∀ b, B ≤ b → ¬ S b) : LL B w' v ls := by
  obtain ⟨xs, h1, h2, h3⟩ := h
  exact ⟨xs, h1, ownsRow_kept h2 hk (fun b hb hs => hS b (h2.lt b hb).1 hs), fun x hx => (h3 x hx).kept hk hS⟩
theorem LL.below {B : Nat} {w w' : World} {v : Value} {ls : List (List En)} (h : LL B w v ls) (hk : Below w.heap.size w w') : LL B w' v ls := h.kept (S := fun _ => False) (Kept.of_below hk) (fun _ _ => id)
theorem LL.mono {B B' : Nat} {w : World} {v : Value} {ls : List (List En)} (h : LL B w v ls) (hb : B' ≤ B) : LL B' w v ls := by
  obtain ⟨xs, h1, h2, h3⟩ := h
  exact ⟨xs, h1, ownsRow_mono h2 hb, fun x hx => (h3 x hx).mono hb⟩
theorem LL.rd {B : Nat} {w : World} {a : Option Addr} {n c : Nat} {ls : List (List En)} (h : LL B w (.slice a n c) ls) : RdL w a ls := by
  intro hz
  obtain ⟨xs, hx, h1, h2⟩ := h
  have hpos : 0 < ls.length := List.length_pos_iff.2 hz
  have hl : xs.length = ls.length := by rw [← hx, List.length_map]
  rcases h1.2 with ⟨h', h0⟩ | ⟨g, cap, cur, h', hb, hgb, _⟩
  · omega
  · simp only [Value.slice.injEq] at h'
    obtain ⟨rfl, rfl, rfl⟩ := h'
    have hlt : g < w.heap.size := (Array.getElem?_eq_some_iff.1 hgb).1
    refine ⟨g, 0, fun i => ((xs[i]?).map Ly.a).getD none, fun i => ((xs[i]?).map Ly.c).getD 0, rfl, hlt, fun i es he => ?_⟩
    rw [← hx, List.getElem?_map] at he
    obtain ⟨x, hxi, rfl⟩ := Option.map_eq_some_iff.1 he
    have hi : i < xs.length := (List.getElem?_eq_some_iff.1 hxi).1
    simp only [hxi, Option.map_some, Option.getD_some, Nat.zero_add]
    refine ⟨?_, GW.rd (show GW B w (.slice x.a x.es.length x.c) x.es from h2 x (List.mem_of_getElem? hxi))⟩
    have := h1.cellAt i (by omega)
    rw [this, List.getElem?_map, hxi]; rfl
theorem LL.push {B : Nat} {w w2 : World} {v v' : Value} {ls : List (List En)} {xs : List Ly} {x : Ly} (hx : xs.map Ly.es = ls) (h1 : w.ownsRow B 35 1 v ls.length (xs.map lyV)) (h2 : ∀ x ∈ xs, GW B w (lyV x) x.es) (hG : GW B w (lyV x) x.es)
    (ho : w2.ownsRow B 35 1 v' (ls.length + 1) (xs.map lyV ++ [lyV x])) (hk : Kept (fun b => v.ownBlock = some b) w w2) : LL B w2 v' (ls ++ [x.es]) := by
  refine ⟨xs ++ [x], by rw [List.map_append, hx]; rfl, by simpa using ho, fun y hy => ?_⟩
  rcases List.mem_append.1 hy with hy | hy
  · exact (h2 y hy).apart h1 (by decide) (by decide) hk
  · simp only [List.mem_singleton] at hy
    subst hy
    exact hG.apart h1 (by decide) (by decide) hk
def KpR (b g : Nat) (W W' : World) : Prop := ∀ k, (k = b ∨ k = g) → ∀ o : Obj, W.heap[k]? = some o → o.isCells = true → W'.heap[k]? = some o
theorem KpR.refl (b g : Nat) (W : World) : KpR b g W W := fun _ _ _ h _ => h
theorem KpR.trans {b g : Nat} {A B C : World} (h : KpR b g A B) (k : KpR b g B C) : KpR b g A C := fun i hi o ho hc => k i hi o (h i hi o ho hc) hc
theorem KpR.put {b g : Nat} (W : World) (l : Nat) (o o' : Obj) (hl : W.heap[l]? = some o) (hc : o.isCells = false) : KpR b g W (W.putObj l o') := fun k _ o2 h2 hc2 => by
  by_cases e : k = l
  · subst e; rw [hl] at h2; cases h2; rw [hc] at hc2; cases hc2
  · exact (World.putObj_heap_other e).trans h2
theorem KpR.kept {b g : Nat} {S : Nat → Prop} {W W' : World} (hk : Kept S W W') (hb : ¬ S b) (hg : ¬ S g) : KpR b g W W' := fun k hkk o ho _ => by
  have hlt := (Array.getElem?_eq_some_iff.1 ho).1
  rcases hkk with rfl | rfl
  · exact (hk.block _ hlt hb).trans ho
  · exact (hk.block _ hlt hg).trans ho
theorem KpR.cell {b g k o : Nat} {W W' : World} {v : Value} (h : KpR b g W W') (hk : k = b ∨ k = g) (hc : ∃ o : Obj, W.heap[k]? = some o ∧ o.isCells = true) (hv : W.cell? ⟨k, o, none⟩ = some v) : W'.cell? ⟨k, o, none⟩ = some v := by
  obtain ⟨ob, ho, hoc⟩ := hc
  exact (World.cell?_of_block (w := W) (a := ⟨k, o, none⟩) ((h k hk ob ho hoc).trans ho.symm)).trans hv
abbrev Pl (P : Rs → Prop) := Int × { r : Rs // P r }
def plV {P : Rs → Prop} (x : Pl P) : Array Value := #[.int .i64 x.1, .agg #[.string (str x.2.1.s.name), .string (str x.2.1.s.parent), .int .i64 x.2.1.s.kind, .bool x.2.1.s.lease, .slice x.2.1.a x.2.1.s.layer.length x.2.1.c]]
set_option maxRecDepth 100000 in
set_option maxHeartbeats 2000000 in
theorem backward1_in (n : Nat) (l Bn g cv : Nat) (P : Rs → Prop) (rs : List Rs) (hP : ∀ r ∈ rs, P r) (hlen : rs.length ≤ 1048576) (J Jx : List (Pl P) → World → Prop) (B : Nat) (hJ : AbidesFrom B J)
    (hY : ∀ (pre : List (Pl P)) (x : Pl P) W, J pre W → pre.length < rs.length → YieldAt Fence.wide (n - 1) Tryz.prog l (plV x) W fun e W' =>
      (e = .returned (.bool true) ∧ J (pre ++ [x]) W' ∧ KpR Bn g W W') ∨ (e = .returned (.bool false) ∧ Jx (pre ++ [x]) W'))
    (W : World) (hBn : ∃ o : Obj, W.heap[Bn]? = some o ∧ o.isCells = true) (hg : ∃ o : Obj, W.heap[g]? = some o ∧ o.isCells = true) (hc : W.cell? ⟨Bn, 0, none⟩ = some (.slice (some ⟨g, 0, none⟩) rs.length cv)) (hrow : ∀ i r, rs[i]? = some r → W.cell? ⟨g, i * 5, none⟩ = some (.string (str r.s.name)) ∧ W.cell? ⟨g, i * 5 + 1, none⟩ = some (.string (str r.s.parent)) ∧ W.cell? ⟨g, i * 5 + 2, none⟩ = some (.int .i64 r.s.kind) ∧ W.cell? ⟨g, i * 5 + 3, none⟩ = some (.bool r.s.lease) ∧ W.cell? ⟨g, i * 5 + 4, none⟩ = some (.slice r.a r.s.layer.length r.c)) (h0 : J [] W) :
    CallsIn Fence.wide n Tryz.prog 82 #[.func (.yield l) #[] #[], .pointer (some ⟨Bn, 0, none⟩)] W fun e W' => (∃ v, e = .returned v) ∧
      ((∃ ys, ys.map (fun x => x.2.1) = rs.reverse ∧ J ys W') ∨ (∃ pre, True ∧ Jx pre W')) := by
  have HROW := hide hrow
  have HCB := hide hc
  clear hrow
  refine callsIn_of_wp Tryz.func82 rfl trivial ?_ rfl
  simp only [Tryz.ntmps82, List.size_toArray, List.length_cons, List.length_nil, Nat.reduceAdd, Nat.reduceSub, Array.replicate_succ, Array.replicate_zero, List.push_toArray, List.append_toArray, List.nil_append, List.cons_append]
  gi_wp2
  clear hc
  gi_loopw [3] (fun i wr => ∃ (pre : List (Pl P)) (k : Nat), k ≤ rs.length ∧ i = .int .i64 ((k : Int) - 1) ∧ pre.length + k = rs.length ∧ Hid (pre.map (fun x => x.2.1) = (rs.drop k).reverse) ∧ Hid (J pre wr) ∧ Hid (KpR Bn g W wr)) (fun i _ => (intOf i + 1).toNat)
  case atStart => exact ⟨[], rs.length, Nat.le_refl _, by first | rfl | simp, by simp, hide (by simp), hide h0, hide (KpR.refl _ _ _)⟩
  case round =>
    obtain ⟨pre, k, hk, rfl, hpk, HPR, HJ, HW⟩ := hrel
    cases k with
    | zero =>
      gi_wp2_with fail
      go_end0
      exact ⟨⟨_, rfl⟩, .inl ⟨pre, by have := HPR.out; simpa using this, HJ.out⟩⟩
    | succ j =>
      obtain ⟨r, hr⟩ : ∃ r, rs[j]? = some r := ⟨_, List.getElem?_eq_getElem (by omega)⟩
      have hPr : P r := hP r (List.mem_of_getElem? hr)
      obtain ⟨d0, d1, d2, d3, d4⟩ := HROW.out j r hr
      have c0 := HW.out.cell (.inr rfl) hg d0
      have c1 := HW.out.cell (.inr rfl) hg d1
      have c2 := HW.out.cell (.inr rfl) hg d2
      have c3 := HW.out.cell (.inr rfl) hg d3
      have c4 := HW.out.cell (.inr rfl) hg d4
      have cB := HW.out.cell (.inl rfl) hBn HCB.out
      have ez : (((j + 1 : Nat) : Int) - 1) = (j : Int) := by omega
      have hj0 : (0 : Int) ≤ (j : Int) := by omega
      have hj1 : (j : Int) < (rs.length : Int) := by omega
      have HPN := hide (show (pre ++ [((j : Int), (⟨r, hPr⟩ : { r : Rs // P r }))]).map (fun x => x.2.1) = (rs.drop j).reverse by
        rw [List.map_append, HPR.out, drop_at hr, List.reverse_cons]; rfl)
      obtain ⟨fn, tmps, assign, body, hy, hR⟩ := hY pre ((j : Int), ⟨r, hPr⟩) wr HJ.out (by omega)
      dsimp only [plV] at hy
      rw [ez]
      clear d0 d1 d2 d3 d4 hr
      gi_wp2_with fail
      refine ⟨fun h => (by cases h), hR.mono ?_⟩
      clear hR hy
      rintro e W3 (⟨rfl, hJ3, hk3⟩ | ⟨rfl, hJx3⟩)
      · have H3 := hide hJ3
        have B3 := hide (HW.out.trans hk3)
        clear hJ3 hk3 c0 c1 c2 c3 c4 cB
        gi_wp2_with fail
        go_roundw
        case rel => exact ⟨_, j, by omega, by first | rfl | go_num | simp, by simp; omega, HPN, H3, B3⟩
        case measure => simp [intOf]
      · have H3 := hide hJx3
        clear hJx3
        gi_wp2_with fail
        refine bodyPost_ret (results_none rfl _ _ _) rfl ?_
        exact ⟨⟨_, rfl⟩, .inr ⟨_, trivial, H3.out⟩⟩
end Go.Proofs.YtolnlfnndnpiiaaGreat

