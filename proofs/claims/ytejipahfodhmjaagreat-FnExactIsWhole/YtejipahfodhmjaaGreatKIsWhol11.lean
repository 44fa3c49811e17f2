/-
  Texts put together: SeeR SeeS DrawH OvrK FetL LazI OvrO OvrQ.
-/
import Derived.Test.YtejipahfodhmjaaGreatKIsWhol10
import Derived.Test.YtejipahfodhmjaaGreatKIsWhol6
import Derived.Test.YtejipahfodhmjaaGreatKIsWhol4
import Derived.Test.YtejipahfodhmjaaGreatKIsWhol7
import Derived.Test.YtejipahfodhmjaaGreatKIsWhol1
import Derived.Test.YtejipahfodhmjaaGreatKIsWhol5
import Derived.Test.YtejipahfodhmjaaGreatKIsWhol8
import Derived.Test.YtejipahfodhmjaaGreatKIsWhol9
namespace Go.Proofs.YtejipahfodhmjaaGreat
open Go.RowKit Go.Maps Go.Sort Go.Shelf
set_option linter.unusedVariables false
attribute [local go_sem ↓] Go.wp_at_zero Go.wp_at_succ

set_option maxRecDepth 100000 in
set_option maxHeartbeats 1600000 in
theorem insNilS_any (f : Value) (w : World) : Calls Tryz.prog 191 #[.slice none 0 0, .int .i64 0, .int .i64 0, f] w fun r w' => r = .returned (.tuple #[]) ∧ w' = w := by
  go_enter Tryz.func191, Tryz.ntmps191
  go_wp2_with fail
  go_loopw [8] (fun i wr => i = .int .i64 1 ∧ wr = w) (fun i _ => 0)
  case atStart => exact ⟨by go_num, rfl⟩
  case round =>
    obtain ⟨rfl, rfl⟩ := hrel
    go_wp2_with fail
    first | go_end0 | skip
    first | exact ⟨rfl, rfl⟩ | exact ⟨rfl, _, by simp [results, Tryz.results164, go_sem], rfl, rfl⟩
set_option maxRecDepth 100000 in
set_option maxHeartbeats 1600000 in
theorem pdqNilS_any (f : Value) (w : World) : Calls Tryz.prog 164 #[.slice none 0 0, .int .i64 0, .int .i64 0, .int .i64 0, f] w fun r w' => r = .returned (.tuple #[]) ∧ w' = w := by
  go_enter Tryz.func164, Tryz.ntmps164
  go_wp2_with fail
  go_loopw [1, 2] (fun i j wr => i = .int .i64 0 ∧ j = .int .i64 0 ∧ wr = w) (fun i j _ => 0)
  case atStart => exact ⟨rfl, rfl, rfl⟩
  case round =>
    obtain ⟨rfl, rfl, rfl⟩ := hrel
    go_wp2_with fail
    refine (insNilS_any f _).mono ?_
    rintro r w1 ⟨rfl, rfl⟩
    go_wp2_with fail
    first | go_end0 | skip
    first | exact ⟨rfl, rfl⟩ | exact ⟨rfl, _, by simp [results, Tryz.results164, go_sem], rfl, rfl⟩
set_option maxRecDepth 100000 in
set_option maxHeartbeats 1600000 in
theorem sortNilS_any (f : Value) (w : World) : Calls Tryz.prog 139 #[.slice none 0 0, f] w fun r w' => r = .returned (.tuple #[]) ∧ w' = w := by
  have HL : Hid (Calls Tryz.prog 162 #[.int .u64 0] w fun e w' => e = .returned (.int .i64 0) ∧ w' = w) := hide (by
    have h3 := Any.bits_Len Tryz.lenT 0 w (by omega) (by omega)
    exact h3)
  have wr : IntKind.u64.wrap 0 = 0 := by simp [IntKind.wrap, IntKind.bits, IntKind.signed]
  go_enter Tryz.func139, Tryz.ntmps139
  go_wp2_with fail
  refine HL.out.mono ?_
  rintro e w1 ⟨rfl, rfl⟩
  go_wp2_with fail
  refine (pdqNilS_any f _).mono ?_
  rintro r w1 ⟨rfl, rfl⟩
  go_wp2_with fail
  first | go_end0 | skip
  exact ⟨rfl, rfl⟩

theorem insR (r : Rw) : ∀ ss : List Rw, ss.Pairwise (fun x y => Op.bytesLess x.e.path y.e.path = true) → (∀ x ∈ ss, x.e.path ≠ r.e.path) → ∃ s2 : List Rw, s2.Perm (r :: ss) ∧ s2.Pairwise (fun x y => Op.bytesLess x.e.path y.e.path = true)
  | [], _, _ => ⟨[r], List.Perm.refl _, by simp⟩
  | x :: t, h, hn => by
    obtain ⟨h1, h2⟩ := List.pairwise_cons.1 h
    by_cases hr : Op.bytesLess r.e.path x.e.path = true
    · refine ⟨r :: x :: t, List.Perm.refl _, List.pairwise_cons.2 ⟨fun y hy => ?_, h⟩⟩
      rcases List.mem_cons.1 hy with rfl | hy
      · exact hr
      · exact bl_trans _ _ _ hr (h1 y hy)
    · obtain ⟨s2, hp, hs⟩ := insR r t h2 (fun y hy => hn y (List.mem_cons_of_mem _ hy))
      refine ⟨x :: s2, ((hp.cons x).trans (List.Perm.swap _ _ _)), List.pairwise_cons.2 ⟨fun y hy => ?_, hs⟩⟩
      rcases List.mem_cons.1 (hp.mem_iff.1 hy) with rfl | hy
      · exact bl_total _ _ (by simpa using hr) (hn x List.mem_cons_self).symm
      · exact h1 y hy
theorem sortR : ∀ rs : List Rw, rs.Pairwise (fun x y => x.e.path ≠ y.e.path) → ∃ ss : List Rw, ss.Perm rs ∧ ss.Pairwise (fun x y => Op.bytesLess x.e.path y.e.path = true)
  | [], _ => ⟨[], List.Perm.refl _, List.Pairwise.nil⟩
  | r :: t, h => by
    obtain ⟨h1, h2⟩ := List.pairwise_cons.1 h
    obtain ⟨ss, hp, hs⟩ := sortR t h2
    obtain ⟨s2, hp2, hs2⟩ := insR r ss hs (fun x hx => (h1 x (hp.mem_iff.1 hx)).symm)
    exact ⟨s2, hp2.trans (hp.cons r), hs2⟩
def OneP (S : Nat → Bs → Option En) : Prop := ∀ i j p q e f, S i p = some e → S j q = some f → e.path = f.path → (i, p) = (j, q)
theorem CameS.apart {w0 : World} {S : Nat → Bs → Option En} {left : Lit → Bool} {ss : List ((Nat × Bs) × Rw)} (h : CameS w0 S left ss) (ho : OneP S) : (ss.map Prod.snd).Pairwise (fun x y => x.e.path ≠ y.e.path) := by
  rw [List.pairwise_map]
  have h1 := h.one
  rw [List.Nodup, List.pairwise_map] at h1
  refine h1.imp_of_mem (fun {x y} hx hy hne he => ?_)
  exact hne (ho _ _ _ _ _ _ (h.was x hx).2.2.1 (h.was y hy).2.2.1 he)
theorem CameS.mem {w0 : World} {S : Nat → Bs → Option En} {ss : List ((Nat × Bs) × Rw)} (h : CameS w0 S (fun _ => false) ss) (e : En) : e ∈ (ss.map Prod.snd).map Rw.e ↔ ∃ i p, i ≤ 100 ∧ p.length ≤ 1048576 ∧ S i p = some e := by
  constructor
  · intro he
    obtain ⟨r, hr, rfl⟩ := List.mem_map.1 he
    obtain ⟨x, hx, rfl⟩ := List.mem_map.1 hr
    obtain ⟨a1, a2, a3, -⟩ := h.was x hx
    exact ⟨_, _, a1, a2, a3⟩
  · rintro ⟨i, p, hi, hp, hS⟩
    obtain ⟨x, hx, hxe⟩ := List.mem_map.1 (h.all i p e hi hp hS rfl)
    obtain ⟨a1, a2, a3, -⟩ := h.was x hx
    rw [hxe] at a3
    have : x.2.e = e := by rw [hS] at a3; exact (Option.some.inj a3).symm
    exact List.mem_map.2 ⟨x.2, List.mem_map.2 ⟨x, hx, rfl⟩, this⟩

set_option maxRecDepth 100000 in
set_option maxHeartbeats 1600000 in
theorem collectI_any (Bm b N : Nat) (S : Nat → Bs → Option En) (w0 w : World) (hBm : Bm < w.heap.size) (hm : w.cell? ⟨Bm, 0, none⟩ = some (.map (some b))) (hS : SeeM w0 w b N S) (hN : N ≤ 1000) :
    Calls Tryz.prog 138 #[.func (.func 140) #[] #[.pointer (some ⟨Bm, 0, none⟩)]] w fun e w' => ∃ (v : Value) (ss : List ((Nat × Bs) × Rw)), e = .returned v ∧ ss.length ≤ N ∧ CameS w0 S (fun _ => false) ss ∧ w'.ownsRow w.heap.size 91 4 v (ss.map Prod.snd).length (rowI (ss.map Prod.snd)) ∧ Below w.heap.size w w' := by
  have HA := hide (callsIn_wide.1 (appendSeqI_in Fence.wide 5 trivial rfl (by omega) trivial Bm b N S w0 w hBm hm hS hN))
  clear hS hm
  go_enter Tryz.func138, Tryz.ntmps138
  go_wp2_with fail
  refine HA.out.mono ?_
  rintro e w1 ⟨v, ss, rfl, hln, hC, hrow, -, hb⟩
  have HC := hide hC
  have HRw := hide hrow
  have HB := hide hb
  clear hC hrow hb
  go_wp2_with fail
  go_ret
  exact ⟨v, ss, rfl, hln, HC.out, HRw.out, HB.out⟩
theorem rdI_sorted {w : World} {g : Nat} {ss : List Rw} (hg : ss ≠ [] → g < w.heap.size) (hc : ∀ i q r, ss[i]? = some r → q < 4 → w.cell? ⟨g, i * 4 + q, none⟩ = (cellsI r)[q]?) (hr : ∀ r ∈ ss, Reads .i64 w r.a r.e.chunks) : RdI w (some ⟨g, 0, none⟩) (ss.map Rw.e) := by
  intro hz
  refine ⟨g, 0, fun i => ((ss[i]?).map Rw.a).getD none, fun i => ((ss[i]?).map Rw.c).getD 0, rfl, hg (fun e => hz (by rw [e]; rfl)), fun i e he => ?_⟩
  rw [List.getElem?_map] at he
  obtain ⟨r, hri, rfl⟩ := Option.map_eq_some_iff.1 he
  simp only [hri, Option.map_some, Option.getD_some, Nat.zero_add]
  exact ⟨hc i 0 r hri (by omega), hc i 1 r hri (by omega), hc i 2 r hri (by omega), hc i 3 r hri (by omega), hr r (List.mem_of_getElem? hri)⟩
set_option maxRecDepth 100000 in
set_option maxHeartbeats 1600000 in
theorem sortedI_any (Bm b N : Nat) (S : Nat → Bs → Option En) (w0 w : World) (hBm : Bm < w.heap.size) (hm : w.cell? ⟨Bm, 0, none⟩ = some (.map (some b))) (hS : SeeM w0 w b N S) (hN : N ≤ 1000) (ho : OneP S) (hw0 : Below w0.heap.size w0 w) :
    Calls Tryz.prog 100 #[.func (.func 140) #[] #[.pointer (some ⟨Bm, 0, none⟩)], .func (.func 102) #[] #[]] w fun r w' => ∃ av cv rs, r = .returned (.slice av rs.length cv) ∧ Rise rs ∧ (∀ e, e ∈ rs ↔ ∃ i p, i ≤ 100 ∧ p.length ≤ 1048576 ∧ S i p = some e) ∧ RdI w' av rs ∧ Below w.heap.size w w' := by
  have HCo := hide (collectI_any Bm b N S w0 w hBm hm hS hN)
  clear hS hm
  go_enter Tryz.func100, Tryz.ntmps100
  go_wp2_with fail
  refine HCo.out.mono ?_
  rintro e w1 ⟨v, cs, rfl, hln, hC, hrow, hb1⟩
  have HM := hide hC.mem
  obtain ⟨ss, hperm, hsort⟩ := sortR _ (hC.apart ho)
  have HRd := hide (show ∀ r ∈ ss, Reads .i64 w0 r.a r.e.chunks from fun r hr => by
    obtain ⟨x, hx, rfl⟩ := List.mem_map.1 (hperm.mem_iff.1 hr)
    exact (hC.was x hx).2.2.2.1)
  have HB1 := hide hb1
  have HB0 := hide (below_next hw0 hb1)
  have HP := hide hperm
  have HSo := hide hsort
  have hlen : (cs.map Prod.snd).length ≤ 1000 := by rw [List.length_map]; omega
  have hsw := hw0.size
  have hsw1 := hb1.size
  clear hC hperm hsort hb1 hw0 hln
  generalize cs.map Prod.snd = rs at *
  rcases hrow.2 with ⟨rfl, h0⟩ | ⟨g, cap, cur, rfl, hgw, hgb, hx⟩
  · have hrs : rs = [] := List.length_eq_zero_iff.1 h0
    subst hrs
    go_wp2_with fail
    refine (sortNilS_any _ _).mono ?_
    rintro r w2 ⟨rfl, rfl⟩
    go_wp2_with fail
    go_ret
    exact ⟨none, 0, [], rfl, List.Pairwise.nil, fun e => by rw [← HM.out e]; simp, fun hz => absurd rfl hz, HB1.out⟩
  · have HSS := hide (sortSlice_any w.heap.size g rs.length cap rs ss w1 hrow rfl (by omega) HP.out HSo.out)
    have hgl : g < w1.heap.size := (Array.getElem?_eq_some_iff.1 hgb).1
    have HL := hide (show rs.length = (ss.map Rw.e).length by rw [List.length_map]; exact HP.out.length_eq.symm)
    clear hrow hgb hx
    go_wp2_with fail
    refine HSS.out.mono ?_
    rintro r w2 ⟨rfl, hcells, hk⟩
    have B2 := hide (kept_below HB1.out hk (by omega) (by omega))
    have B02 := hide (kept_below HB0.out hk (by omega) (by omega))
    have hsz2 := hk.size
    have RI := hide (rdI_sorted (w := w2) (g := g) (ss := ss) (fun _ => by omega) hcells (fun r hr => (HRd.out r hr).below B02.out))
    clear hcells hk HSS
    go_wp2_with fail
    go_ret
    refine ⟨some ⟨g, 0, none⟩, cap, ss.map Rw.e, by rw [HL.out]; rfl, ?_, fun e => ?_, RI.out, B2.out⟩
    · unfold Rise
      rw [List.pairwise_map]
      exact HSo.out
    · rw [← HM.out e]
      exact (HP.out.map Rw.e).mem_iff
set_option maxRecDepth 100000 in
set_option maxHeartbeats 1600000 in
theorem rising_any (b N : Nat) (S : Nat → Bs → Option En) (w0 w : World) (hS : SeeM w0 w b N S) (hN : N ≤ 1000) (ho : OneP S) (hw0 : Below w0.heap.size w0 w) :
    Calls Tryz.prog 56 #[.map (some b)] w fun r w' => ∃ av cv rs, r = .returned (.slice av rs.length cv) ∧ Rise rs ∧ (∀ e, e ∈ rs ↔ ∃ i p, i ≤ 100 ∧ p.length ≤ 1048576 ∧ S i p = some e) ∧ RdI w' av rs ∧ Below w.heap.size w w' := by
  have hV : Calls Tryz.prog 101 #[.map (some b)] w fun r w' => r = .returned (.func (.func 140) #[] #[.pointer (some ⟨w.heap.size, 0, none⟩)]) ∧ w' = w.alloc (.cells #[.map (some b)] 83) := by
    go_enter Tryz.func101, Tryz.ntmps101
    go_wp2_with fail
    go_ret
    exact ⟨rfl, rfl⟩
  have HV := hide hV
  have B0 := hide (below_alloc w (.cells #[.map (some b)] 83))
  have HSo := hide (sortedI_any w.heap.size b N S w0 (w.alloc (.cells #[.map (some b)] 83)) (by simp) (by simp) (hS.below B0.out) hN ho (below_next hw0 B0.out))
  clear hV hS hw0
  go_enter Tryz.func56, Tryz.ntmps56
  go_wp2_with fail
  refine HV.out.mono ?_
  rintro r w1 ⟨rfl, rfl⟩
  go_wp2_with fail
  refine HSo.out.mono ?_
  rintro r w2 ⟨av, cv, rs, rfl, h1, h2, h3, h4⟩
  have H1 := hide h1
  have H2 := hide h2
  have H3 := hide h3
  have H4 := hide (below_next B0.out h4)
  clear h1 h2 h3 h4
  go_wp2_with fail
  go_ret
  exact ⟨av, cv, rs, rfl, H1.out, H2.out, H3.out, H4.out⟩
end Go.Proofs.YtejipahfodhmjaaGreat

namespace Go.Proofs.YtejipahfodhmjaaGreat
open Go.RowKit Go.Maps
set_option linter.unusedVariables false
attribute [local go_sem ↓] Go.wp_at_zero Go.wp_at_succ

theorem leftS_some {S : Nat → Bs → Option En} {i : Nat} {p : Bs} {e : En} : leftS S i p = some e ↔ seenG S p 4 = some i ∧ S i p = some e := by
  unfold leftS goneS
  by_cases h : seenG S p 4 = some i <;> simp [h]
theorem left_one {ls : List (List En)} : OneP (leftS (seeL ls)) := by
  intro i j p q e f h1 h2 hpe
  obtain ⟨s1, e1⟩ := leftS_some.1 h1
  obtain ⟨s2, e2⟩ := leftS_some.1 h2
  obtain ⟨_, _, _, p1⟩ := seeL_mem e1
  obtain ⟨_, _, _, p2⟩ := seeL_mem e2
  have hpq : p = q := by rw [← p1, ← p2, hpe]
  subst hpq
  rw [s1] at s2
  rw [Option.some.inj s2]
theorem left_all {ls : List (List En)} (hsm : SmallL ls) (e : En) : (∃ i p, i ≤ 100 ∧ p.length ≤ 1048576 ∧ leftS (seeL ls) i p = some e) ↔ ∃ k, seenL ls e.path = some k ∧ seeL ls k e.path = some e := by
  constructor
  · rintro ⟨i, p, -, -, h⟩
    obtain ⟨s1, e1⟩ := leftS_some.1 h
    obtain ⟨_, _, _, p1⟩ := seeL_mem e1
    rw [p1]
    exact ⟨i, s1, e1⟩
  · rintro ⟨k, s1, e1⟩
    obtain ⟨es, hes, he, -⟩ := seeL_mem e1
    have hk := (seen_some (show seenG (seeL ls) e.path 4 = some k from s1)).1
    exact ⟨k, e.path, by omega, ((hsm es hes).2 e he).1, leftS_some.2 ⟨s1, e1⟩⟩
theorem all_len {ls : List (List En)} (h : ∀ es ∈ ls, Right es) : ∀ n, n ≤ ls.length → (allE (ls.take n)).length ≤ 12 * n
  | 0, _ => by simp [allE]
  | n + 1, hn => by
    have ih := all_len h n (by omega)
    have hL : ls[n]? = some (ls[n]'(by omega)) := List.getElem?_eq_getElem (by omega)
    have hm := (h _ (List.mem_of_getElem? hL)).len
    generalize ls[n]'(by omega) = L at *
    have ht : ls.take (n + 1) = ls.take n ++ [L] := by rw [List.take_add_one, hL]; rfl
    rw [ht, allE_snoc]
    have := merge_len L (allE (ls.take n))
    omega
def pthL (ls : List (List En)) : List Bs := if layersP ls = 0 then (allE ls).map En.path else []

end Go.Proofs.YtejipahfodhmjaaGreat

namespace Go.Proofs.YtejipahfodhmjaaGreat
open Go.RowKit Go.Maps
set_option linter.unusedVariables false
attribute [local go_sem ↓] Go.wp_at_zero Go.wp_at_succ

theorem path_short {p : Bs} (h : faultP p = 0) : p.length ≤ 15 := by
  obtain ⟨ns, hN, hpe, _, _⟩ := faultP_zero h
  have := join_len'' ns 4 hN.2.2.1
  have := hN.2.2.2
  rw [hpe]
  omega
theorem right_small {es : List En} (h : Right es) : SmallE es := fun e he => by
  have h1 := path_short (entFault_zero (h.ent e he))
  have h2 := entFault_chunks (h.ent e he)
  omega
end Go.Proofs.YtejipahfodhmjaaGreat

namespace Go.Proofs.YtejipahfodhmjaaGreat
open Go.RowKit Go.Maps
set_option linter.unusedVariables false
attribute [local go_sem ↓] Go.wp_at_zero Go.wp_at_succ

theorem wpList_append_one_at {P : Program} {wr : World} {news : Array Value} {ops : Array Oper} {rest : List Oper} {o : Oper} {a : Act} {Q : Exit → Act → World → Prop} (hgd : o.guard = none) (s x : Operand) (t : TypeId)
    (ho : o.op = .call { callee := .builtin .append, args := #[s, x], argTypes := #[t, t] })
    (base : Nat) (e : TypeId) (i : TypeInfo) (z : Value) (size bytes : Nat) (ht : P.underlying t = some (.slice e)) (hi : P.info? e = some i) (hz : i.zero = some z)
    (hsize : i.size = size) (hby : i.bytes = bytes) (hzs : z.cells.size = size) (hsz : 0 < size)
    (v : Value) (n : Nat) (xs : List Value) (hs : a.eval s = v) (hown : wr.ownsRow base e size v n xs)
    (hx : a.eval x = .slice (some ⟨wr.heap.size, 0, none⟩) 1 1) (hl : news.size = size) (h1 : ∀ u ∈ news.toList, u.oneCell' = true)
    (h63 : n + 1 ≤ maxLen) (hbytes : (n + 1) * bytes ≤ 140737488355328) (hbase : base ≤ wr.heap.size)
    (h : ∀ v' w', w'.ownsRow base e size v' (n + 1) (xs ++ news.toList) → Kept (fun b => v.ownBlock = some b) wr w' → (v'.ownBlock = v.ownBlock ∨ ∃ g, v'.ownBlock = some g ∧ wr.heap.size ≤ g) → wpList P ops Q rest (a.put o.dst v') w') :
    wpList P ops Q (o :: rest) a (wr.alloc (.cells news e)) := by
  refine wpList_append_own_at _ hgd s x t ho base e i z size bytes ht hi hz hsize hby hzs hsz v n xs hs (hown.alloc _) ⟨wr.heap.size, 0, none⟩ 1 1 news.toList hx (by simp [hl]) ?_ h1 h63 hbytes (by simp; omega) ?_
  · intro j u hj
    have hadd : (⟨wr.heap.size, 0, none⟩ : Addr).add j = ⟨wr.heap.size, j, none⟩ := by unfold Addr.add; split <;> simp_all
    rw [hadd, cell_of_row _ wr.heap.size j news e (0, 0) (heap_alloc_new wr _)]
    simpa using hj
  · intro v' w' ho' hg _ hat
    refine h v' w' ho' ⟨hg.os, hg.tape, hg.output, Nat.le_trans (by simp) hg.size, fun k hk hn => ?_⟩ ?_
    · rw [hg.block k (by simp; omega) (fun e => hn e.symm)]
      exact Below.heap_alloc _ _ _ hk
    · rcases hat with hat | hat
      · exact .inl hat
      · exact .inr ⟨_, hat, by simp⟩

end Go.Proofs.YtejipahfodhmjaaGreat

namespace Go.Proofs.YtejipahfodhmjaaGreat
open Go.RowKit
set_option linter.unusedVariables false

theorem getD_mem {α : Type} {l : List α} {i : Nat} (x : α) (h : i < l.length) : l.getD i x ∈ l := by
  rw [List.getD_eq_getElem?_getD, List.getElem?_eq_getElem h]; exact List.getElem_mem h
end Go.Proofs.YtejipahfodhmjaaGreat

namespace Go.Proofs.YtejipahfodhmjaaGreat
open Go.RowKit Go.Maps
set_option linter.unusedVariables false
attribute [local go_sem ↓] Go.wp_at_zero Go.wp_at_succ

set_option maxRecDepth 100000 in
set_option maxHeartbeats 800000 in
theorem lacFault_any (a : Option Addr) (c m : Nat) (ls : List (List En)) (b : Option Addr) (d n : Nat) (D : Nat → Int) (P : Nat → List Int) (w : World) (h : RdL w a ls) (hm : m = ls.length) (hl : ls.length ≤ 1048576) (hs : SmallL ls) (hC : RdC w b D P n) (hn : n ≤ 1048576) (hP : ∀ i, i < n → U8 (P i) ∧ (P i).length ≤ 1048576) :
    Calls Tryz.prog 54 #[.slice a m c, .slice b n d] w fun e w' => e = .returned (.int .i64 (lacF ls D P n)) ∧ Below w.heap.size w w' := by
  subst hm
  have HLF := hide (implLayersFault_any a c ls.length ls w h rfl hl hs)
  have HCF := hide (fun (u : World) (hu : Below w.heap.size w u) => implFault_any b d n D P u (hC.below hu) hn hP)
  unfold lacF
  clear h hC hP hs
  by_cases hz : layersP ls = 0
  · rw [hz] at HLF
    rw [if_pos hz]
    generalize fault D P n = F at *
    clear hz
    go_enter Tryz.func54, Tryz.ntmps54
    go_wp2_with fail
    refine HLF.out.mono ?_
    rintro r w1 ⟨rfl, hb1⟩
    have B1 := hide hb1
    clear hb1
    go_wp2_with fail
    refine (HCF.out _ B1.out).mono ?_
    rintro r w2 ⟨rfl, hb2⟩
    have B2 := hide (below_next B1.out hb2)
    clear hb2
    go_wp2_with fail
    go_ret
    exact ⟨rfl, B2.out⟩
  · rw [if_neg hz]
    generalize layersP ls = F at *
    have hz2 : (F != 0) = true := by simp; exact hz
    clear hz
    go_enter Tryz.func54, Tryz.ntmps54
    go_wp2_with fail
    refine HLF.out.mono ?_
    rintro r w1 ⟨rfl, hb1⟩
    have B1 := hide hb1
    clear hb1
    go_wp2_with fail
    go_ret
    exact ⟨rfl, B1.out⟩
def awayI (ls : List (List En)) (D : Nat → Int) (P : Nat → List Int) (n : Nat) : List Int := if lacF ls D P n = 0 then awayE D n (allE ls) else []
def wholeB (ls : List (List En)) (D : Nat → Int) (P : Nat → List Int) (n : Nat) : Bool := decide (lacF ls D P n = 0 ∧ awayE D n (allE ls) = [])
theorem ent_digs {e : En} (hz : entFault e = 0) : ∀ d ∈ e.chunks, 0 ≤ d ∧ d ≤ 4294967295 := by
  intro d hc
  have hall : e.chunks.all isDig = true := by
    by_cases hx : e.chunks.all isDig = true
    · exact hx
    · exfalso
      unfold entFault at hz
      rw [if_neg hx] at hz
      split at hz
      · split at hz
        · split at hz
          · split at hz
            · omega
            · omega
          · omega
        · omega
      · contradiction
  have := List.all_eq_true.1 hall d hc
  simpa [isDig] using this
def AprtZ (a : Option Addr) (v : Value) : Prop := ∀ x, a = some x → ∀ g, v.ownBlock = some g → g ≠ x.block
theorem both_right {D : Nat → Int} {P : Nat → List Int} {n : Nat} {e : En} (hf : fault D P n = 0) (he : entFault e = 0) : both (fault D P n) e.chunks = 0 := by
  unfold both
  rw [if_pos hf]
  have h3 := entFault_chunks he
  have hd := ent_digs he
  unfold asked
  rw [if_neg (by omega)]
  refine firstBad_zero _ _ fun j _ hj => ?_
  have hm : e.chunks.getD j 0 ∈ e.chunks := getD_mem 0 (by omega)
  obtain ⟨h0, h1⟩ := hd _ hm
  exact digFault_ok rfl h0 h1
theorem ResI.of {q : Int} {zs : List Int} {w w3 : World} {B b n : Nat} {av : Option Addr} {cv : Nat} {u v : Value} (hB : b < B) (hw : w.heap.size ≤ b) (hn : n = zs.length) (hG : w3.ownsRow B 2 1 (.slice av n cv) n (zs.map (Value.int .i64))) (hb : Below w.heap.size w w3) :
    ResI q zs w (.returned (.agg #[.int .i64 q, .slice av n cv])) ((w3.setCell ⟨b, 0, none⟩ u).setCell ⟨b, 1, none⟩ v) := by
  subst hn
  refine ⟨av, cv, rfl, ?_, (hb.setCell hw _).setCell hw _⟩
  exact G1.mk (ownsRow_mono (ownsRow_kept (S := fun x => x = b) hG (Kept.two _ _ _ _ _ _) (fun x hx e => by have := (hG.lt x hx).1; omega)) (by omega)) rfl
set_option maxRecDepth 100000 in
set_option maxHeartbeats 6400000 in
theorem implAwayIn_any (a : Option Addr) (c m : Nat) (ls : List (List En)) (b : Option Addr) (d n : Nat) (D : Nat → Int) (P : Nat → List Int) (w : World) (h : RdL w a ls) (hm : m = ls.length) (hl : ls.length ≤ 1048576) (hs : SmallL ls) (hC : RdC w b D P n) (hn : n ≤ 1048576) (hP : ∀ i, i < n → U8 (P i) ∧ (P i).length ≤ 1048576) :
    Calls Tryz.prog 18 #[.slice a m c, .slice b n d] w (ResI (lacF ls D P n) (awayI ls D P n) w) := by
  subst hm
  obtain ⟨i1, ki, kz0, kz1, kz2⟩ := info_parts Tryz.infoI64
  have X0 := hide (Box.new w (.int .i64 0) (.slice none 0 0) 33)
  have B0 := hide (below_alloc w (.cells #[.int .i64 0, .slice none 0 0] 33))
  have HR := hide h
  have HSL := hide hs
  have HC := hide hC
  have HP := hide hP
  have HLF := hide (lacFault_any a c ls.length ls b d n D P _ (h.below B0.out) rfl hl hs (hC.below B0.out) hn hP)
  clear h hs hC hP
  by_cases hz : lacF ls D P n = 0
  · obtain ⟨hz1, hz2⟩ := lac_zero.1 hz
    obtain ⟨h4, hRs⟩ := layersP_zero.1 hz1
    have HAW := hide (show awayI ls D P n = awayE D n (allE ls) from by rw [awayI, if_pos hz])
    rw [hz] at HLF ⊢
    have HRr := hide hRs
    have HRs := hide (rights_sight hRs HSL.out)
    have HFT := hide hz2
    clear hz hRs hz1 hz2
    go_enter Tryz.func18, Tryz.ntmps18
    go_wp2_with fail
    refine HLF.out.mono ?_
    rintro r w1 ⟨rfl, hb1⟩
    have B1 := hide (below_next B0.out hb1)
    have X1 := hide (X0.out.below hb1)
    have hlt1 : w.heap.size < w1.heap.size := X1.out.1.lt
    clear hb1 X0 B0 HLF
    go_wp2_with fail
    refine (sightOf_any a c ls.length ls w1 (HR.out.below B1.out) rfl h4 HRs.out).mono ?_
    rintro r w2 ⟨bb, N, rfl, hbb, hN, hM, hb2⟩
    have HM := hide hM
    have BB2 := hide hb2
    clear hM hb2
    go_wp2_with fail
    refine (seen_any bb N (seeL ls) w1 w2 HM.out).mono ?_
    rintro r w3 ⟨b3, rfl, hb3b, hM3, hb3⟩
    have HM3 := hide hM3
    have BB3 := hide (below_next BB2.out hb3)
    clear hM3 hb3 HM BB2
    go_wp2_with fail
    refine (rising_any b3 N (leftS (seeL ls)) w1 w3 HM3.out (by omega) left_one BB3.out).mono ?_
    rintro r w4 ⟨av, cv, rs, rfl, hri, hmem, hRI, hb4⟩
    have RK := hide hRI
    have BB4 := hide (below_next BB3.out hb4)
    have hall := all_rise HRr.out h4 hri (fun e => (hmem e).trans (left_all HSL.out e))
    have HPL := hide (show awayI ls D P n = awayE D n rs from by
      rw [HAW.out, ← hall]
      exact awayE_chunks (map_asT_chunks rs))
    have HKM := hide (show ∀ e ∈ rs, entFault e = 0 from fun e he => by
      obtain ⟨k, s1, e1⟩ := (left_all HSL.out e).1 ((hmem e).1 he)
      obtain ⟨es, hes, hee, -⟩ := seeL_mem e1
      exact (HRr.out es hes).ent e hee)
    have HKC := hide (fun e (he : e ∈ rs) => entFault_chunks (HKM.out e he))
    have hkl : rs.length ≤ 48 := by
      have h1 := all_len HRr.out ls.length (Nat.le_refl _)
      rw [List.take_length] at h1
      have h2 := congrArg List.length hall
      rw [List.length_map] at h2
      omega
    have hs4 := BB4.out.size
    have BW4 := hide (below_next B1.out BB4.out)
    clear hri hmem hRI hb4 HM3 BB3 HAW hall
    go_wp2_with fail
    go_loopw [6, 8, 10, 23] (fun v _ _ i wr => ∃ k : Nat, k ≤ rs.length ∧ i = .int .i64 k ∧ Hid (wr.ownsRow w4.heap.size 2 1 v (awayE D n (rs.take k)).length ((awayE D n (rs.take k)).map (Value.int .i64))) ∧ Hid (Below w4.heap.size w4 wr)) (fun _ _ _ i _ => rs.length - (intOf i).toNat)
    case atStart => exact ⟨0, Nat.zero_le _, rfl, hide (by simpa [awayE] using World.ownsRow_nil _ _ _ _), hide (Below.refl _ _)⟩
    case round =>
      obtain ⟨k, hk, rfl, HO, HW⟩ := hrel
      obtain ⟨lv, lc, hv⟩ := ownsRow_shape HO.out
      subst hv
      by_cases hlt : k < rs.length
      · obtain ⟨bk, off, e, x, cc, rfl, hbk, he, c0, c1, c2, c3, hr⟩ := (RK.out.below HW.out).at hlt
        have hem := List.mem_of_getElem? he
        have hent := HKM.out e hem
        have h3c := HKC.out e hem
        have HTK := hide (awayE_take (D := D) (n := n) he)
        have hal := awayE_len (D := D) (n := n) (fun e he => HKC.out e he) k hk
        have BA := hide (below_alloc wr (.cells #[.int .i64 e.size, .slice x e.chunks.length cc, .string (str e.path), .int .i64 e.kind] 91))
        have BWA := hide (below_next HW.out BA.out)
        have HMI := hide (implMissingOf_ok b d n D P x cc e.chunks _ (HC.out.below (below_next BW4.out BWA.out)) hn HP.out (hr.below BA.out) (by omega) (both_right HFT.out hent))
        have HOA := hide (ownsRow_below HO.out BA.out)
        have hml := missE_len D n e
        unfold missE at HTK hml
        generalize awayE D n (rs.take k) = ms at *
        generalize miss D n e.chunks e.chunks.length = zs at *
        clear he hr hem hent HO
        go_wp2_with fail
        refine HMI.out.mono ?_
        rintro r w5 ⟨ga, gc, rfl, hg5, hb5⟩
        have HW5 := hide (below_next BWA.out hb5)
        have HO5 := hide (ownsRow_below HOA.out hb5)
        have HZ5 := hide (ownInts_reads hg5.1 rfl)
        have HAP5 := hide (show AprtZ ga (.slice lv ms.length lc) from fun x hx g hgv e9 => by
          have h1 := (HOA.out.lt g hgv).2
          have h2 := (hg5.1.lt x.block (by rw [hx]; rfl)).1
          omega)
        have hfd : ∀ u : World, (Instr.field 33 (.agg #[.int .i64 0, .slice ga zs.length gc]) 1).run Tryz.prog u = .ok (.slice ga zs.length gc) u := fun _ => by kernel_rfl
        clear hb5 hg5 HOA BA BWA HW HMI c0 c1 c2 c3
        go_wp2_with fail
        go_loopw [6, 10, 34] (fun v _ i wx => ∃ j : Nat, j ≤ zs.length ∧ i = .int .i64 j ∧ Hid (wx.ownsRow w4.heap.size 2 1 v (putsZ ms (zs.take j)).length ((putsZ ms (zs.take j)).map (Value.int .i64))) ∧ Hid (Below w4.heap.size w4 wx) ∧ Hid (Reads .i64 wx ga zs) ∧ Hid (AprtZ ga v) ∧ Hid (∀ x, zs ≠ [] → ga = some x → x.block < wx.heap.size)) (fun _ _ i _ => zs.length - (intOf i).toNat)
        case atStart => exact ⟨0, Nat.zero_le _, rfl, hide (by simpa [putsZ] using HO5.out), HW5, HZ5, hide (by simpa [putsZ] using HAP5.out), hide (fun x hz hx => HZ5.out.lt hz x hx)⟩
        case round =>
          clear HO5 HW5 HZ5 HAP5
          obtain ⟨j, hj, rfl, HOx, HWx, HZx, HAx, HLx⟩ := hrel
          obtain ⟨tv, tc, hv⟩ := ownsRow_shape HOx.out
          subst hv
          by_cases hlt2 : j < zs.length
          · obtain ⟨bz, oz, rfl, hbz, hcz⟩ := HZx.out (by intro e; simp [e] at hlt2)
            have hc1 := hcz j hlt2
            have HAT := hide (putsZ_take (o := ms) hlt2)
            have hxl := putsZ_len ms (zs.take j)
            have htl : (zs.take j).length ≤ j := List.length_take_le _ _
            generalize zs.getD j 0 = z at *
            generalize putsZ ms (zs.take j) = ys at *
            have hszx := HWx.out.size
            have RM := hide (ownsRow_own HOx.out rfl).reads
            have HCn := hide (slContains_any tv tc ys z wr RM.out (by omega))
            have hm1 : ys.length + 1 ≤ maxLen := by unfold maxLen; omega
            have hm2 : (ys.length + 1) * 8 ≤ 140737488355328 := by omega
            clear hcz
            cases hcn : ys.contains z with
            | true =>
              have HST := hide (HAT.out.trans (putZ_yes hcn))
              rw [hcn] at HCn
              clear hcn
              go_wp2_with fail
              refine HCn.out.mono ?_
              rintro r w6 ⟨rfl, rfl⟩
              go_wp2_with fail
              go_roundw
              case rel => exact ⟨j + 1, by omega, by go_num, by rw [HST.out]; exact HOx, HWx, HZx, HAx, HLx⟩
              case measure => simp [intOf]; omega
            | false =>
              have HST := hide (HAT.out.trans (putZ_no hcn))
              rw [hcn] at HCn
              clear hcn
              go_wp2_with fail
              refine HCn.out.mono ?_
              rintro r w6 ⟨rfl, rfl⟩
              go_wp2_with (at_builtin; refine wpList_append_one_at rfl (.tmp 42) (.tmp 44) 31 rfl w4.heap.size 2 i1 (.int .i64 0) 1 8 Tryz.underlying31 ki kz0 kz1 kz2 rfl (by decide) _ _ _ rfl HOx.out rfl rfl (by intro u hu; simp at hu; subst hu; rfl) hm1 hm2 hszx ?_; intro v' w7 hown7 hkept hat; have O7 := hide hown7; have K7 := hide hkept; have A7 := hide hat; clear hown7 hkept hat)
              go_roundw
              case rel =>
                refine ⟨j + 1, by omega, by go_num, by rw [HST.out]; exact hide (by simpa using O7.out), hide (Kept.below_own HWx.out hszx HOx.out K7.out), hide ?_, hide ?_, hide (fun x hz hx => Nat.lt_of_lt_of_le (HLx.out x hz hx) K7.out.size)⟩
                · exact HZx.out.kept K7.out (fun hz x hx e => HAx.out x hx _ e rfl)
                · intro x hx g hg e9
                  rcases A7.out with e | ⟨g2, e, hg2⟩
                  · exact HAx.out x hx g (e.symm.trans hg) e9
                  · rw [e] at hg
                    have := Option.some.inj hg
                    have := HLx.out x (by intro e; simp [e] at hlt2) hx
                    omega
              case measure => simp [intOf]; omega
          · have hje : zs.take j = zs := List.take_of_length_le (by omega)
            rw [hje] at HOx ⊢
            clear hje
            go_wp2_with fail
            go_roundw
            case rel => exact ⟨k + 1, by omega, by go_num, by rw [HTK.out]; exact HOx, HWx⟩
            case measure => simp [intOf]; omega
      · have hke : rs.take k = rs := List.take_of_length_le (by omega)
        rw [hke, ← HPL.out] at HO ⊢
        obtain ⟨ZS, hZS⟩ : ∃ ZS, ZS = awayI ls D P n := ⟨_, rfl⟩
        rw [← hZS] at HO ⊢
        have HZS := hide hZS
        clear hZS
        have BB5 := hide (below_next BB4.out HW.out)
        obtain ⟨⟨t0, t1⟩, t2, t3⟩ := X1.out.below BB5.out
        have B5 := hide (below_next B1.out BB5.out)
        clear hke
        go_wp2_with fail
        exact bodyPost_ret (v := .agg #[.int .i64 0, .slice lv ZS.length lc]) (by simp [results, Tryz.results18, go_sem, t0, t1]) rfl (by rw [← HZS.out]; exact ResI.of (B := w4.heap.size) (by omega) (Nat.le_refl _) rfl HO.out B5.out)
  · have HCC := hide (show awayI ls D P n = [] from by rw [awayI, if_neg hz])
    generalize lacF ls D P n = F at *
    have hz2 : (F != 0) = true := by simp; exact hz
    clear hz
    go_enter Tryz.func18, Tryz.ntmps18
    go_wp2_with fail
    refine HLF.out.mono ?_
    rintro r w1 ⟨rfl, hb1⟩
    have B1 := hide (below_next B0.out hb1)
    obtain ⟨⟨t0, t1⟩, t2, t3⟩ := X0.out.below hb1
    clear hb1
    go_wp2_with fail
    exact bodyPost_ret (v := .agg #[.int .i64 F, .slice none 0 0]) (by simp [results, Tryz.results18, go_sem, t0, t1]) rfl (by rw [HCC.out]; exact ResI.no ((B1.out.setCell (Nat.le_refl _) _).setCell (Nat.le_refl _) _))
set_option maxRecDepth 100000 in
set_option maxHeartbeats 1600000 in
theorem implIsWhole_any (a : Option Addr) (c m : Nat) (ls : List (List En)) (b : Option Addr) (d n : Nat) (D : Nat → Int) (P : Nat → List Int) (w : World) (h : RdL w a ls) (hm : m = ls.length) (hl : ls.length ≤ 1048576) (hs : SmallL ls) (hC : RdC w b D P n) (hn : n ≤ 1048576) (hP : ∀ i, i < n → U8 (P i) ∧ (P i).length ≤ 1048576) :
    Calls Tryz.prog 20 #[.slice a m c, .slice b n d] w fun e w' => e = .returned (.bool (wholeB ls D P n)) ∧ Below w.heap.size w w' := by
  subst hm
  have HA := hide (implAwayIn_any a c ls.length ls b d n D P w h rfl hl hs hC hn hP)
  by_cases hz : lacF ls D P n = 0
  · have HWB := hide (show wholeB ls D P n = decide ((awayI ls D P n).length = 0) from by unfold wholeB awayI; rw [if_pos hz, hz]; simp)
    rw [hz] at HA
    rw [HWB.out]
    clear h hs hC hP hz HWB
    generalize awayI ls D P n = zs at *
    by_cases hL : zs.length = 0
    · have hne : ((zs.length : Int) == 0) = true := by simp [hL]
      rw [decide_eq_true hL]
      clear hL
      go_enter Tryz.func20, Tryz.ntmps20
      go_wp2_with fail
      refine HA.out.mono ?_
      rintro r w1 ⟨ga, gc, rfl, hg, hb1⟩
      have B1 := hide hb1
      have A1 := hide (below_alloc w1 (.cells #[.int .i64 0, .slice ga zs.length gc] 33))
      obtain ⟨q0, q1⟩ := Two.new w1 (.int .i64 0) (.slice ga zs.length gc) 33
      clear hb1 hg HA
      go_wp2_with fail
      go_ret
      exact ⟨rfl, below_next B1.out A1.out⟩
    · have hne : ((zs.length : Int) == 0) = false := by rw [beq_eq_false_iff_ne]; omega
      rw [decide_eq_false hL]
      clear hL
      go_enter Tryz.func20, Tryz.ntmps20
      go_wp2_with fail
      refine HA.out.mono ?_
      rintro r w1 ⟨ga, gc, rfl, hg, hb1⟩
      have B1 := hide hb1
      have A1 := hide (below_alloc w1 (.cells #[.int .i64 0, .slice ga zs.length gc] 33))
      obtain ⟨q0, q1⟩ := Two.new w1 (.int .i64 0) (.slice ga zs.length gc) 33
      clear hb1 hg HA
      go_wp2_with fail
      go_ret
      exact ⟨rfl, below_next B1.out A1.out⟩
  · have HWB := hide (show wholeB ls D P n = false from by unfold wholeB; simp [hz])
    have HCC := hide (show awayI ls D P n = [] from by rw [awayI, if_neg hz])
    rw [HWB.out]
    rw [HCC.out] at HA
    generalize lacF ls D P n = F at *
    have hz2 : (F == 0) = false := by simpa using hz
    clear h hs hC hP hz HWB HCC
    go_enter Tryz.func20, Tryz.ntmps20
    go_wp2_with fail
    refine HA.out.mono ?_
    rintro r w1 ⟨ga, gc, rfl, hg, hb1⟩
    have B1 := hide hb1
    have A1 := hide (below_alloc w1 (.cells #[.int .i64 F, .slice ga 0 gc] 33))
    obtain ⟨q0, q1⟩ := Two.new w1 (.int .i64 F) (.slice ga 0 gc) 33
    clear hb1 hg HA
    go_wp2_with fail
    go_ret
    exact ⟨rfl, below_next B1.out A1.out⟩
end Go.Proofs.YtejipahfodhmjaaGreat

namespace Go.Proofs.YtejipahfodhmjaaGreat
open Go.RowKit Go.Maps
set_option linter.unusedVariables false
attribute [local go_sem ↓] Go.wp_at_zero Go.wp_at_succ

def LookYes (e : En) (w : World) (r : Ending) (w' : World) : Prop :=
  ∃ x c, r = .returned (.tuple #[.agg #[.string (str e.path), .int .i64 e.kind, .int .i64 e.size, .slice x e.chunks.length c], .bool true]) ∧ w'.ownsRow w.heap.size 2 1 (.slice x e.chunks.length c) e.chunks.length (e.chunks.map (Value.int .i64)) ∧ Below w.heap.size w w'

def Eight (w : World) (b : Nat) (u0 u1 u2 u3 : Value) : Prop := Four w b u0 u1 u2 u3 ∧ ∀ i, w.frozen? ⟨b, i, none⟩ = false
theorem Eight.new (w : World) (u0 u1 u2 u3 : Value) (t : TypeId) : Eight (w.alloc (.cells #[u0, u1, u2, u3] t)).drew w.heap.size u0 u1 u2 u3 :=
  ⟨(Four.new w u0 u1 u2 u3 t).below (Below.refl _ _).drew, fun i => ((Below.refl (w.alloc (.cells #[u0, u1, u2, u3] t)).heap.size _).drew.frozen (p := ⟨w.heap.size, i, none⟩) (by simp)).trans (by simp)⟩
theorem Eight.below {w w' : World} {b : Nat} {u0 u1 u2 u3 : Value} (h : Eight w b u0 u1 u2 u3) (hk : Below w.heap.size w w') : Eight w' b u0 u1 u2 u3 :=
  ⟨h.1.below hk, fun i => (hk.frozen (p := ⟨b, i, none⟩) h.1.lt).trans (h.2 i)⟩
theorem Eight.kept {S : Nat → Prop} {w w' : World} {b : Nat} {u0 u1 u2 u3 : Value} (h : Eight w b u0 u1 u2 u3) (hk : Kept S w w') (hn : ¬ S b) : Eight w' b u0 u1 u2 u3 :=
  ⟨⟨(hk.cell (p := ⟨b, 0, none⟩) h.1.lt hn).trans h.1.1, (hk.cell (p := ⟨b, 1, none⟩) h.1.lt hn).trans h.1.2.1, (hk.cell (p := ⟨b, 2, none⟩) h.1.lt hn).trans h.1.2.2.1, (hk.cell (p := ⟨b, 3, none⟩) h.1.lt hn).trans h.1.2.2.2⟩, fun i => (hk.frozen (p := ⟨b, i, none⟩) h.1.lt hn).trans (h.2 i)⟩
theorem Eight.set1 {w : World} {b : Nat} {u0 u1 u2 u3 : Value} (h : Eight w b u0 u1 u2 u3) (v : Value) : Eight (w.setCell ⟨b, 1, none⟩ v) b u0 v u2 u3 :=
  ⟨⟨by rw [cell_set_other (by simp)]; exact h.1.1, cell_set_same h.1.2.1, by rw [cell_set_other (by simp)]; exact h.1.2.2.1, by rw [cell_set_other (by simp)]; exact h.1.2.2.2⟩, fun i => by rw [World.frozen?_setCell]; exact h.2 i⟩

set_option maxRecDepth 100000 in
set_option maxHeartbeats 6400000 in
theorem l8Look_some (a : Option Addr) (c n : Nat) (ls : List (List En)) (p : Bs) (w : World) (h : RdL w a ls) (hn : n = ls.length) (h4 : ls.length ≤ 4) (hR : ∀ es ∈ ls, Right es) (hp : faultP p = 0) (hpl : p.length ≤ 1048576) (i : Nat) (e : En) (hs : seenL ls p = some i) (he : seeL ls i p = some e) :
    Calls Tryz.prog 77 #[.slice a n c, .string (str p)] w (LookYes (asT e) w) := by
  subst hn
  obtain ⟨i0, hi0, hz0, hz1, hz2⟩ := info_parts Tryz.infoI64
  have X0 := hide (Four.new w (.string ⟨#[]⟩) (.int .i64 0) (.int .i64 0) (.slice none 0 0) 40)
  have B0 := hide (below_alloc w (.cells #[.string ⟨#[]⟩, .int .i64 0, .int .i64 0, .slice none 0 0] 40))
  have HPL := hide (l8Place_any a c ls.length ls p _ (h.below B0.out) rfl h4 hR hp hpl)
  rw [hs, show placeI (some i) = (i : Int) from rfl] at HPL
  have f0 : ∀ i, (w.alloc (.cells #[.string ⟨#[]⟩, .int .i64 0, .int .i64 0, .slice none 0 0] 40)).frozen? ⟨w.heap.size, i, none⟩ = false := fun i => by simp
  have hil : i < ls.length := by
    have := seeL_mem he
    unfold seeL at he
    cases hh : ls[i]? with
    | none => rw [hh] at he; cases he
    | some y => exact (List.getElem?_eq_some_iff.1 hh).1
  obtain ⟨b, off, es, x, cc, rfl, hb, hes, c0, hr⟩ := h.at hil
  have hRi := hR es (List.mem_of_getElem? hes)
  have hel := hRi.len
  have hfe : findE es p = some e := by rw [← seeL_at hes]; exact he
  obtain ⟨q, hq⟩ : ∃ q, atE es p = some q := by
    cases ha : atE es p with
    | none => rw [find_at_none ha] at hfe; cases hfe
    | some q => exact ⟨q, rfl⟩
  obtain ⟨e', he', hfe'⟩ := find_at_some hq
  have : e' = e := Option.some.inj (hfe'.symm.trans hfe)
  subst this
  have hqlt := atE_lt hq
  obtain ⟨bb, off2, e2, y, yc, rfl, hbb, he2, z0, z1, z2, z3, hrc⟩ := hr.at hqlt
  have : e2 = e' := Option.some.inj (he2.symm.trans he')
  subst this
  have hsm := right_small hRi e2 (List.mem_of_getElem? he2)
  have hek := ent_kinds (hRi.ent e2 (List.mem_of_getElem? he2))
  have KS : Hid (∀ w', Below w.heap.size w w' → w'.cell? ⟨b, off + i, none⟩ = some (.slice (some ⟨bb, off2, none⟩) es.length cc) ∧ w'.cell? ⟨bb, off2 + q * 4, none⟩ = some (.string (str e2.path)) ∧ w'.cell? ⟨bb, off2 + q * 4 + 1, none⟩ = some (.int .i64 e2.kind) ∧ w'.cell? ⟨bb, off2 + q * 4 + 2, none⟩ = some (.int .i64 e2.size) ∧ w'.cell? ⟨bb, off2 + q * 4 + 3, none⟩ = some (.slice y e2.chunks.length yc)) := hide (fun w' hb' => ⟨(hb'.cell (p := ⟨b, off + i, none⟩) hb).trans c0, (hb'.cell (p := ⟨bb, off2 + q * 4, none⟩) hbb).trans z0, (hb'.cell (p := ⟨bb, off2 + q * 4 + 1, none⟩) hbb).trans z1, (hb'.cell (p := ⟨bb, off2 + q * 4 + 2, none⟩) hbb).trans z2, (hb'.cell (p := ⟨bb, off2 + q * 4 + 3, none⟩) hbb).trans z3⟩)
  have HAT : Hid (∀ w', Below w.heap.size w w' → Calls Tryz.prog 78 #[.slice (some ⟨bb, off2, none⟩) es.length cc, .string (str p)] w' fun r w2 => r = .returned (.int .i64 q) ∧ w2 = w') := hide (fun w' hb' => by have h1 := l4At_any (some ⟨bb, off2, none⟩) cc es.length es p w' (hr.below hb') rfl (by omega); rw [hq] at h1; exact h1)
  have HRC := hide hrc
  have hi1 : (0 : Int) ≤ (i : Int) := by omega
  have hi2 : (i : Int) < (ls.length : Int) := by omega
  have hi3 : ¬ (i : Int) < 0 := by omega
  have hq1 : (0 : Int) ≤ (q : Int) := by omega
  have hq2 : (q : Int) < (es.length : Int) := by omega
  clear h hR hs he hes c0 hr hRi hfe hq he' hfe' he2 z0 z1 z2 z3 hrc
  go_enter Tryz.func77, Tryz.ntmps77
  go_wp2_with fail
  refine HPL.out.mono ?_
  rintro r w1 ⟨rfl, hb1⟩
  have B1 := hide (below_next B0.out hb1)
  have X1 := hide (X0.out.below hb1)
  have FZ := hide (fun i => (hb1.frozen (p := ⟨w.heap.size, i, none⟩) X0.out.lt).trans (f0 i))
  clear hb1 f0 X0 HPL
  obtain ⟨s0, s1, s2, s3, s4⟩ := KS.out _ B1.out
  go_wp2_with fail
  go_region_held3 (fun w' => w'.cell? ⟨b, off + i, none⟩ = some (.slice (some ⟨bb, off2, none⟩) es.length cc) ∧ w'.cell? ⟨bb, off2 + q * 4, none⟩ = some (.string (str e2.path)) ∧ w'.cell? ⟨bb, off2 + q * 4 + 1, none⟩ = some (.int .i64 e2.kind) ∧ w'.cell? ⟨bb, off2 + q * 4 + 2, none⟩ = some (.int .i64 e2.size) ∧ w'.cell? ⟨bb, off2 + q * 4 + 3, none⟩ = some (.slice y e2.chunks.length yc)) (first | exact KS.out _ B1.out.drew | exact KS.out _ (below_next B1.out (below_alloc _ _)).drew | exact KS.out _ (below_next B1.out (below_alloc _ _)) | go_keep)
    ((go_at_call 78; refine (HAT.out _ (by first | exact B1.out.drew | exact (below_next B1.out (below_alloc _ _)).drew)).mono ?_; rintro r w9 ⟨rfl, hw9⟩; have hw8 := hw9.symm; clear hw9; subst hw8))
  all_goals
    have BD := hide (below_next B1.out (below_alloc w1 (.cells #[.string (str e2.path), .int .i64 e2.kind, .int .i64 e2.size, .slice y e2.chunks.length yc] 40))).drew
    have BE := hide ((below_alloc w1 (.cells #[.string (str e2.path), .int .i64 e2.kind, .int .i64 e2.size, .slice y e2.chunks.length yc] 40)).drew)
    have XE : Hid (Eight (w1.alloc (.cells #[.string (str e2.path), .int .i64 e2.kind, .int .i64 e2.size, .slice y e2.chunks.length yc] 40)).drew w1.heap.size (.string (str e2.path)) (.int .i64 e2.kind) (.int .i64 e2.size) (.slice y e2.chunks.length yc)) := hide (Eight.new w1 _ _ _ _ _)
    have XR : Hid (Eight (w1.alloc (.cells #[.string (str e2.path), .int .i64 e2.kind, .int .i64 e2.size, .slice y e2.chunks.length yc] 40)).drew w.heap.size (.string ⟨#[]⟩) (.int .i64 0) (.int .i64 0) (.slice none 0 0)) := hide (Eight.below (w := w1) ⟨X1.out, FZ.out⟩ BE.out)
    have hRE : w.heap.size < w1.heap.size := X1.out.lt
    have hEW : w1.heap.size < (w1.alloc (.cells #[.string (str e2.path), .int .i64 e2.kind, .int .i64 e2.size, .slice y e2.chunks.length yc] 40)).drew.heap.size := XE.out.1.lt
    clear X1 FZ s0 s1 s2 s3 s4 KS HAT BE B1 B0
    generalize (w1.alloc (.cells #[.string (str e2.path), .int .i64 e2.kind, .int .i64 e2.size, .slice y e2.chunks.length yc] 40)).drew = WD at *
    generalize w1.heap.size = be at *
    have hne : w.heap.size ≠ be := by omega
    have hne2 : be ≠ w.heap.size := by omega
    have hm0 : 0 + e2.chunks.length ≤ maxLen := by unfold maxLen; omega
    have hm0' : (0 + e2.chunks.length) * 8 ≤ 140737488355328 := by omega
    obtain ⟨⟨e0, e1, e3, e4⟩, ez⟩ := XE.out
    have ez1 := ez 1
    have ez3 := ez 3
    clear ez
    by_cases h4k : e2.kind = 4
    · have h4' : (e2.kind == 4) = true := by simpa using h4k
      have HAS := hide (show asT e2 = ⟨e2.path, 2, e2.size, e2.chunks⟩ from by unfold asT; rw [if_pos h4k]; rfl)
      clear h4k
      have XE5 := hide (XE.out.set1 (.int .i64 2))
      have XR5 := hide (XR.out.kept (Kept.setCell (S := fun b => b = be) (p := ⟨be, 1, none⟩) (Kept.refl _ WD) (fun _ => rfl) (.int .i64 2)) hne)
      have BW5 := hide (BD.out.setCell (p := ⟨be, 1, none⟩) (by show w.heap.size ≤ be; omega) (.int .i64 2))
      have hz5 : (WD.setCell ⟨be, 1, none⟩ (.int .i64 2)).heap.size = WD.heap.size := by simp [World.setCell]
      have OWN0 : Hid (((WD.setCell ⟨be, 1, none⟩ (.int .i64 2)).alloc (.cells #[] 2)).ownsRow WD.heap.size 2 1 (.slice (some ⟨WD.heap.size, 0, none⟩) 0 0) 0 (([] : List Int).map (Value.int .i64))) := hide (by have h := World.ownsRow_made (base := (WD.setCell ⟨be, 1, none⟩ (.int .i64 2)).heap.size) (e := 2) (size := 1) (WD.setCell ⟨be, 1, none⟩ (.int .i64 2)) #[] 0 (Nat.le_refl _) (Nat.zero_le _) rfl; rw [hz5] at h; exact h)
      have RD0 : Hid (Reads .i64 ((WD.setCell ⟨be, 1, none⟩ (.int .i64 2)).alloc (.cells #[] 2)) y e2.chunks) := hide (HRC.out.below (below_next BW5.out (below_alloc _ _)))
      have XEA := hide (XE5.out.below (below_alloc (WD.setCell ⟨be, 1, none⟩ (.int .i64 2)) (.cells #[] 2)))
      have XRA := hide (XR5.out.below (below_alloc (WD.setCell ⟨be, 1, none⟩ (.int .i64 2)) (.cells #[] 2)))
      have hlE : be < WD.heap.size := XE.out.1.lt
      have hlR : w.heap.size < WD.heap.size := XR.out.1.lt
      have KK : Hid (∀ W6 : World, Kept (fun b => b = WD.heap.size) ((WD.setCell ⟨be, 1, none⟩ (.int .i64 2)).alloc (.cells #[] 2)) W6 → Eight W6 be (.string (str e2.path)) (.int .i64 2) (.int .i64 e2.size) (.slice y e2.chunks.length yc) ∧ Eight W6 w.heap.size (.string ⟨#[]⟩) (.int .i64 0) (.int .i64 0) (.slice none 0 0)) := hide (fun W6 hk => ⟨XEA.out.kept hk (by omega), XRA.out.kept hk (by omega)⟩)
      clear XEA XRA
      go_wp2_with (at_builtin; refine wpList_append_take rfl (.tmp 30) (.tmp 32) 31 rfl WD.heap.size 2 i0 .i64 8 Tryz.underlying31 hi0 hz0 hz1 hz2 WD.heap.size 0 0 [] rfl OWN0.out y e2.chunks.length yc e2.chunks rfl rfl RD0.out e2.chunks.length (by simp) hm0 hm0' (by simp) ?_; intro av cv w6 hown6 hk6; obtain ⟨⟨⟨p0, p1, p2, p3⟩, pz⟩, ⟨⟨r0, r1, r2, r3⟩, rz⟩⟩ := KK.out _ hk6; have pz3 := pz 3; have rz0 := rz 0; have rz1 := rz 1; have rz2 := rz 2; have rz3 := rz 3; have O6 := hide hown6; have K6 := hide hk6; clear pz rz hown6 hk6)
      have BB6 := hide ((below_next BW5.out (below_alloc (WD.setCell ⟨be, 1, none⟩ (.int .i64 2)) (.cells #[] 2))).trans (K6.out.below (B := w.heap.size) (by have := (below_next BW5.out (below_alloc (WD.setCell ⟨be, 1, none⟩ (.int .i64 2)) (.cells #[] 2))).size; omega) (fun k hk hS => by omega)))
      rw [HAS.out]
      refine bodyPost_ret (v := .tuple #[.agg #[.string (str e2.path), .int .i64 2, .int .i64 e2.size, .slice av e2.chunks.length cv], .bool true]) (by simp [results, Tryz.results77, go_sem, r0, r1, r2, r3]) rfl ⟨av, cv, rfl, ?_, ?_⟩
      · refine ownsRow_mono (base := WD.heap.size) ?_ (by omega)
        refine ownsRow_kept (S := fun b => b = be ∨ b = w.heap.size) (by simpa using O6.out) ?_ (fun b hb hS => by have := (O6.out.lt b hb).1; omega)
        exact Kept.setCell (S := fun b => b = be ∨ b = w.heap.size) (p := ⟨w.heap.size, 3, none⟩) (Kept.setCell (S := fun b => b = be ∨ b = w.heap.size) (p := ⟨w.heap.size, 2, none⟩) (Kept.setCell (S := fun b => b = be ∨ b = w.heap.size) (p := ⟨w.heap.size, 1, none⟩) (Kept.setCell (S := fun b => b = be ∨ b = w.heap.size) (p := ⟨w.heap.size, 0, none⟩) (Kept.setCell (S := fun b => b = be ∨ b = w.heap.size) (p := ⟨be, 3, none⟩) (Kept.refl _ _) (fun _ => .inl rfl) _) (fun _ => .inr rfl) _) (fun _ => .inr rfl) _) (fun _ => .inr rfl) _) (fun _ => .inr rfl) _
      · exact ((((BB6.out.setCell (p := ⟨be, 3, none⟩) (by show w.heap.size ≤ be; omega) _).setCell (p := ⟨w.heap.size, 0, none⟩) (Nat.le_refl _) _).setCell (p := ⟨w.heap.size, 1, none⟩) (Nat.le_refl _) _).setCell (p := ⟨w.heap.size, 2, none⟩) (Nat.le_refl _) _).setCell (p := ⟨w.heap.size, 3, none⟩) (Nat.le_refl _) _
    · have h4' : (e2.kind == 4) = false := by simpa using h4k
      have HAS := hide (show asT e2 = ⟨e2.path, e2.kind, e2.size, e2.chunks⟩ from by unfold asT; rw [if_neg h4k])
      clear h4k
      have XE5 := XE
      have XR5 := XR
      have BW5 := BD
      have OWN0 : Hid ((WD.alloc (.cells #[] 2)).ownsRow WD.heap.size 2 1 (.slice (some ⟨WD.heap.size, 0, none⟩) 0 0) 0 (([] : List Int).map (Value.int .i64))) := hide (World.ownsRow_made (base := WD.heap.size) (e := 2) (size := 1) WD #[] 0 (Nat.le_refl _) (Nat.zero_le _) rfl)
      have RD0 : Hid (Reads .i64 (WD.alloc (.cells #[] 2)) y e2.chunks) := hide (HRC.out.below (below_next BW5.out (below_alloc _ _)))
      have XEA := hide (XE5.out.below (below_alloc WD (.cells #[] 2)))
      have XRA := hide (XR5.out.below (below_alloc WD (.cells #[] 2)))
      have hlE := XE5.out.1.lt
      have hlR := XR5.out.1.lt
      have KK : Hid (∀ W6 : World, Kept (fun b => b = WD.heap.size) (WD.alloc (.cells #[] 2)) W6 → Eight W6 be (.string (str e2.path)) (.int .i64 e2.kind) (.int .i64 e2.size) (.slice y e2.chunks.length yc) ∧ Eight W6 w.heap.size (.string ⟨#[]⟩) (.int .i64 0) (.int .i64 0) (.slice none 0 0)) := hide (fun W6 hk => ⟨XEA.out.kept hk (by omega), XRA.out.kept hk (by omega)⟩)
      clear XEA XRA
      go_wp2_with (at_builtin; refine wpList_append_take rfl (.tmp 30) (.tmp 32) 31 rfl WD.heap.size 2 i0 .i64 8 Tryz.underlying31 hi0 hz0 hz1 hz2 WD.heap.size 0 0 [] rfl OWN0.out y e2.chunks.length yc e2.chunks rfl rfl RD0.out e2.chunks.length (by simp) hm0 hm0' (by simp) ?_; intro av cv w6 hown6 hk6; obtain ⟨⟨⟨p0, p1, p2, p3⟩, pz⟩, ⟨⟨r0, r1, r2, r3⟩, rz⟩⟩ := KK.out _ hk6; have pz3 := pz 3; have rz0 := rz 0; have rz1 := rz 1; have rz2 := rz 2; have rz3 := rz 3; have O6 := hide hown6; have K6 := hide hk6; clear pz rz hown6 hk6)
      have BB6 := hide ((below_next BW5.out (below_alloc WD (.cells #[] 2))).trans (K6.out.below (B := w.heap.size) (by have := (below_next BW5.out (below_alloc WD (.cells #[] 2))).size; omega) (fun k hk hS => by omega)))
      rw [HAS.out]
      refine bodyPost_ret (v := .tuple #[.agg #[.string (str e2.path), .int .i64 e2.kind, .int .i64 e2.size, .slice av e2.chunks.length cv], .bool true]) (by simp [results, Tryz.results77, go_sem, r0, r1, r2, r3]) rfl ⟨av, cv, rfl, ?_, ?_⟩
      · refine ownsRow_mono (base := WD.heap.size) ?_ (by omega)
        refine ownsRow_kept (S := fun b => b = be ∨ b = w.heap.size) (by simpa using O6.out) ?_ (fun b hb hS => by have := (O6.out.lt b hb).1; omega)
        exact Kept.setCell (S := fun b => b = be ∨ b = w.heap.size) (p := ⟨w.heap.size, 3, none⟩) (Kept.setCell (S := fun b => b = be ∨ b = w.heap.size) (p := ⟨w.heap.size, 2, none⟩) (Kept.setCell (S := fun b => b = be ∨ b = w.heap.size) (p := ⟨w.heap.size, 1, none⟩) (Kept.setCell (S := fun b => b = be ∨ b = w.heap.size) (p := ⟨w.heap.size, 0, none⟩) (Kept.setCell (S := fun b => b = be ∨ b = w.heap.size) (p := ⟨be, 3, none⟩) (Kept.refl _ _) (fun _ => .inl rfl) _) (fun _ => .inr rfl) _) (fun _ => .inr rfl) _) (fun _ => .inr rfl) _) (fun _ => .inr rfl) _
      · exact ((((BB6.out.setCell (p := ⟨be, 3, none⟩) (by show w.heap.size ≤ be; omega) _).setCell (p := ⟨w.heap.size, 0, none⟩) (Nat.le_refl _) _).setCell (p := ⟨w.heap.size, 1, none⟩) (Nat.le_refl _) _).setCell (p := ⟨w.heap.size, 2, none⟩) (Nat.le_refl _) _).setCell (p := ⟨w.heap.size, 3, none⟩) (Nat.le_refl _) _
end Go.Proofs.YtejipahfodhmjaaGreat

namespace Go.Proofs.YtejipahfodhmjaaGreat
open Go.RowKit Go.Maps
set_option linter.unusedVariables false
attribute [local go_sem ↓] Go.wp_at_zero Go.wp_at_succ

theorem box_set1 {w : World} {b : Nat} {u v : Value} (h : Box w b u v) (v' : Value) : Box (w.setCell ⟨b, 1, none⟩ v') b u v' :=
  ⟨⟨by rw [cell_set_other (by simp)]; exact h.1.1, cell_set_same h.1.2⟩, by rw [World.frozen?_setCell]; exact h.2.1, by rw [World.frozen?_setCell]; exact h.2.2⟩
end Go.Proofs.YtejipahfodhmjaaGreat

