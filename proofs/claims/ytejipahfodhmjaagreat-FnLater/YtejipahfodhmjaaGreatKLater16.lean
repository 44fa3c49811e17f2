/-
  Texts put together: OvrI SeeF SeeG SeeH OvrP TreR.
-/
import Derived.Test.YtejipahfodhmjaaGreatKLater1
import Derived.Test.YtejipahfodhmjaaGreatKLater4
import Derived.Test.YtejipahfodhmjaaGreatKLater15
import Derived.ProofKit
import Derived.Deep.DrawnRows
import Derived.Deep.RegionHeld3
import Derived.Deep.RegionLaw
import Derived.Test.YtejipahfodhmjaaGreatKLater9
import Derived.Test.YtejipahfodhmjaaGreatKLater10
import Derived.Test.YtejipahfodhmjaaGreatKLater6
import Derived.Test.YtejipahfodhmjaaGreatKLater5
import Derived.Shelf.Abstract
import Derived.Test.YtejipahfodhmjaaGreatKLater8
import Derived.Test.YtejipahfodhmjaaGreatKLater2
import Derived.Test.YtejipahfodhmjaaGreatKLater7
import Derived.Shelf.SlSortCmp.WholeK
import Derived.Shelf.Small.Bits
import Derived.Ground.SlsfProg
import Derived.Test.YtejipahfodhmjaaGreatProg
namespace Go.Proofs.YtejipahfodhmjaaGreat
open Go.RowKit
set_option linter.unusedVariables false
attribute [local go_sem ↓] Go.wp_at_zero Go.wp_at_succ

def lowS (ps : List Bs) (p : Bs) : Nat := (ps.takeWhile fun x => Op.bytesLess x p).length
def putS (ps : List Bs) (p : Bs) : List Bs := ps.take (lowS ps p) ++ p :: ps.drop (lowS ps p)
theorem lowS_at {bs : List Bs} {p : Bs} {k : Nat} (hk : k ≤ bs.length) (h1 : (bs.take k).all (fun x => Op.bytesLess x p) = true) (h2 : ∀ y, bs[k]? = some y → Op.bytesLess y p = false) : lowS bs p = k := by
  have e : bs = bs.take k ++ bs.drop k := (List.take_append_drop k bs).symm
  have hd : (bs.drop k).takeWhile (fun x => Op.bytesLess x p) = [] := by
    cases hx : bs.drop k with
    | nil => rfl
    | cons y r =>
      have : bs[k]? = some y := by
        have h3 := congrArg (fun l => l[0]?) hx
        simpa using h3
      simp [h2 y this]
  unfold lowS
  conv => lhs; rw [e]
  rw [List.takeWhile_append_of_pos (by intro x hx; exact List.all_eq_true.1 h1 x hx), hd, List.append_nil, List.length_take]
  omega
theorem putS_len (ps : List Bs) (p : Bs) : (putS ps p).length = ps.length + 1 := by
  unfold putS
  have : lowS ps p ≤ ps.length := by unfold lowS; exact List.Sublist.length_le (List.takeWhile_sublist _)
  simp; omega
theorem vS_one (ys : List Bs) : ∀ u ∈ ys.map vS, u.oneCell' = true := by
  intro u hu
  obtain ⟨p, -, rfl⟩ := List.mem_map.1 hu
  rfl
theorem reads_newsS {w : World} {b off : Nat} {ys : List Bs} (h : ∀ i, i < ys.length → w.cell? ⟨b, off + i, none⟩ = some (.string (str (ys.getD i [])))) : ∀ j u, (ys.map vS)[j]? = some u → w.cell? ((⟨b, off, none⟩ : Addr).add j) = some u := by
  intro j u hj
  rw [addr_add]
  have hlt : j < ys.length := by have := (List.getElem?_eq_some_iff.1 hj).1; simpa using this
  rw [h j hlt]
  rw [List.getElem?_map, List.getElem?_eq_getElem hlt] at hj
  simp only [Option.map_some, Option.some.injEq] at hj
  rw [← hj, List.getD_eq_getElem?_getD, List.getElem?_eq_getElem hlt]
  rfl
theorem step_appS {P : Program} {w : World} {ops : Array Oper} {o : Oper} {a : Act} {K : Act → World → Prop} {Q : Exit → Act → World → Prop} {E : Prop} (hgd : o.guard = none) (s x : Operand) (t : TypeId)
    (ho : o.op = .call { callee := .builtin .append, args := #[s, x], argTypes := #[t, t] })
    (base : Nat) (e : TypeId) (i : TypeInfo) (ht : P.underlying t = some (.slice e)) (hi : P.info? e = some i) (hz : i.zero = some (.string ⟨#[]⟩))
    (hsize : i.size = 1) (hby : i.bytes = 16)
    (av0 : Option Addr) (n c0 : Nat) (xs : List Bs) (hs : a.eval s = .slice av0 n c0) (hown : w.ownsRow base e 1 (.slice av0 n c0) n (xs.map vS))
    (xv : Option Addr) (m xc : Nat) (ys : List Bs) (hx : a.eval x = .slice xv m xc) (hm : ys.length = m) (hr : ReadsS w xv ys)
    (N : Nat) (hN : n + m = N) (h63 : n + m ≤ maxLen) (hbytes : (n + m) * 16 ≤ 140737488355328) (hbase : base ≤ w.heap.size)
    (h : ∀ av cv w', w'.ownsRow base e 1 (.slice av N cv) N ((xs ++ ys).map vS) → Kept (fun b => (Value.slice av0 n c0).ownBlock = some b) w w' → K (a.put o.dst (.slice av N cv)) w') :
    if Region.wanted o (yielded ops a.tmps) = true then Oper.wp P o a w K Q else E := by
  have hw : Region.wanted o (yielded ops a.tmps) = true := by simp [Region.wanted, hgd]
  rw [if_pos hw]
  subst hm
  cases xv with
  | some ad =>
    refine wp_append_own w s x t ho base e i (.string ⟨#[]⟩) 1 16 ht hi hz hsize hby rfl (by decide) _ n _ hs hown ad ys.length xc (ys.map vS) hx (by simp) (fun j u hj => ?_) (vS_one ys) h63 hbytes hbase fun v' w' h2 h3 _ => ?_
    · have h0 : ys ≠ [] := fun e => by subst e; simp at hj
      obtain ⟨b, off, e1, hb, hc⟩ := hr h0
      simp only [Option.some.injEq] at e1
      subst e1
      exact reads_newsS hc j u hj
    · rw [hN] at h2
      obtain ⟨av, cv, rfl⟩ := ownsRow_shape h2
      exact h av cv w' (by rw [List.map_append]; exact h2) ⟨h3.os, h3.tape, h3.output, h3.size, fun q hq hn => h3.block q hq (fun e => hn e.symm)⟩
  | none =>
    have h0 : ys = [] := by
      by_cases h0 : ys = []
      · exact h0
      · obtain ⟨b, off, e1, -⟩ := hr h0; cases e1
    subst h0
    have hN' : N = n := by simp at hN; omega
    subst hN'
    have hc0 : (if xc = 0 then true else true) = true := by split <;> rfl
    have hrun : (Builtin.append_ #[t, t] o.type #[.slice av0 N c0, .slice none 0 xc]).run P w = .ok (.slice av0 N c0) w := by
      rcases hown.2 with ⟨hv, h0⟩ | ⟨g, cap, cur, hv, -, -, hnc, -⟩
      · simp only [Value.slice.injEq] at hv
        obtain ⟨rfl, rfl, rfl⟩ := hv
        simp [Builtin.append_, run_underlying ht, sizeOf, typeInfo, hi, Builtin.lenOf, Builtin.firstCells]
      · simp only [Value.slice.injEq, true_and] at hv
        obtain ⟨rfl, rfl⟩ := hv
        simp [Builtin.append_, run_underlying ht, sizeOf, typeInfo, hi, Builtin.lenOf, Builtin.firstCells, hnc, storeCells]
    unfold Oper.wp execOp
    simp only [ho, resolve, invoke, builtin, Sem.run_bind, Sem.run_pure, Result.andThen_ok, List.map_toArray, List.map_cons, List.map_nil, hs, hx, List.length_nil, hrun]
    exact h av0 c0 w (by rw [List.append_nil]; exact hown) (Kept.refl _ _)

theorem ReadsS.drop {w : World} {g : Nat} {ps : List Bs} (h : ReadsS w (some ⟨g, 0, none⟩) ps) (k : Nat) : ReadsS w (some ⟨g, k, none⟩) (ps.drop k) := by
  intro hz
  have hp : ps ≠ [] := by rintro rfl; simp at hz
  obtain ⟨b, off, e1, hb, hc⟩ := h hp
  simp only [Option.some.injEq, Addr.mk.injEq, and_true] at e1
  obtain ⟨rfl, rfl⟩ := e1
  refine ⟨g, k, rfl, hb, fun i hi => ?_⟩
  have hi' : k + i < ps.length := by simp at hi; omega
  have := hc (k + i) hi'
  rw [Nat.zero_add] at this
  rw [this]
  simp [List.getD_eq_getElem?_getD]
theorem reads_name (w : World) (p : Bs) : ReadsS (w.alloc (.cells #[.string (str p)] 9)) (some ⟨w.heap.size, 0, none⟩) [p] := by
  intro _
  refine ⟨w.heap.size, 0, rfl, by simp, fun i hi => ?_⟩
  obtain rfl : i = 0 := by simp at hi; omega
  simp
theorem made_none (w : World) : (w.alloc (.cells #[] 9)).ownsRow w.heap.size 9 1 (.slice (some ⟨w.heap.size, 0, none⟩) 0 0) 0 (([] : List Bs).map vS) := World.ownsRow_made w #[] 0 (Nat.le_refl _) (Nat.zero_le _) rfl

theorem apd_step {w w1 w2 : World} {b n c : Nat} (h : Below w.heap.size w w1) (hk : Kept (fun q => (Value.slice (some ⟨b, 0, none⟩) n c).ownBlock = some q) w1 w2) (hb : w.heap.size ≤ b) : Below w.heap.size w w2 :=
  h.trans (hk.below h.size (fun q hq hS => by simp [Value.ownBlock] at hS; omega))
theorem apd_step2 {w w1 w2 w3 : World} {t : TypeId} {a : Option Addr} {n c m : Nat} {xs : List Value} (h : Below w.heap.size w w1) (hk : Kept (fun q => (Value.slice a n c).ownBlock = some q) w1 w2) (ho : w3.ownsRow w.heap.size t 1 (.slice a n c) m xs) : Below w.heap.size w w2 :=
  h.trans (hk.below h.size (fun q hq hS => by have := (ho.lt q hS).1; omega))
theorem keep_name {w1 w2 : World} {b d n c : Nat} {p : Bs} (hk : Kept (fun q => (Value.slice (some ⟨b, 0, none⟩) n c).ownBlock = some q) w1 w2) (hd : d ≠ b) (h : ReadsS w1 (some ⟨d, 0, none⟩) [p]) : ReadsS w2 (some ⟨d, 0, none⟩) [p] :=
  h.kept hk (fun _ x hx hS => by simp only [Option.some.injEq] at hx; subst hx; simp [Value.ownBlock] at hS; exact hd hS.symm)
theorem put_own {B : Nat} {w : World} {a : Option Addr} {c k n : Nat} {ps qs : List Bs} {p : Bs} (h : w.ownsRow B 9 1 (.slice a n c) n ((((([] : List Bs) ++ ps.take k) ++ [p]) ++ ps.drop k).map vS)) (hq : qs = ps.take k ++ p :: ps.drop k) (hn : qs.length = n) : OwnS B w (.slice a n c) qs := by
  subst hq
  unfold OwnS
  rw [hn]
  simpa using h
set_option maxRecDepth 100000 in
set_option maxHeartbeats 12800000 in
theorem l8Put_some (g c : Nat) (ps : List Bs) (p : Bs) (w : World) (h : ReadsS w (some ⟨g, 0, none⟩) ps) (hc : ps.length ≤ c) (hl : ps.length ≤ 1048576) :
    Calls Tryz.prog 65 #[.slice (some ⟨g, 0, none⟩) ps.length c, .string (str p)] w fun r w' => ∃ av cv, r = .returned (.slice av (putS ps p).length cv) ∧ OwnS w.heap.size w' (.slice av (putS ps p).length cv) (putS ps p) ∧ Below w.heap.size w w' := by
  obtain ⟨i1, ki, kz0, kz1, kz2⟩ := info_parts infoS
  have HR := hide h
  clear h
  go_enter Tryz.func65, Tryz.ntmps65
  go_wp2_with fail
  go_loopw [5] (fun i wr => ∃ k : Nat, k ≤ ps.length ∧ i = .int .i64 k ∧ wr = w ∧ Hid ((ps.take k).all (fun x => Op.bytesLess x p) = true)) (fun i _ => ps.length - (intOf i).toNat)
  case atStart => exact ⟨0, Nat.zero_le _, rfl, rfl, hide (by simp)⟩
  case round =>
    obtain ⟨k, hk, rfl, rfl, HL⟩ := hrel
    have hk0 : (0 : Int) ≤ (k : Int) := by omega
    have hkc : (k : Int) ≤ (c : Int) := by omega
    have hkl : (k : Int) ≤ (ps.length : Int) := by omega
    have hlc : (ps.length : Int) ≤ (c : Int) := by omega
    by_cases hlt : k < ps.length
    · obtain ⟨b, off, q, hbb, hb, he, c0⟩ := HR.out.at hlt
      simp only [Option.some.injEq, Addr.mk.injEq, and_true] at hbb
      obtain ⟨rfl, rfl⟩ := hbb
      rw [Nat.zero_add] at c0
      have hk1 : (k : Int) < (ps.length : Int) := by omega
      have HX := hide he
      clear he
      cases hlo : Op.bytesLess (str q).toList (str p).toList
      · have HLk := hide (lowS_at hk HL.out (fun y' hy' => by rw [HX.out] at hy'; cases hy'; rw [str_toList, str_toList] at hlo; exact hlo))
        have hck : ¬ c = k := by omega
        have HPut := hide (show putS ps p = ps.take k ++ p :: ps.drop k from by unfold putS; rw [HLk.out])
        have HLen := hide (putS_len ps p)
        have BSA : Hid (Below wr.heap.size wr ((wr.alloc (.cells #[] 9)).drew)) := hide (below_alloc wr _).drew
        have BSB : Hid (Below wr.heap.size wr (((wr.alloc (.cells #[] 9)).alloc (.cells #[.string (str p)] 9)).drew)) := hide (below_next (below_alloc wr _) (below_alloc _ _)).drew
        have BSC : Hid (Below wr.heap.size wr (((wr.alloc (.cells #[.string (str p)] 9)).alloc (.cells #[] 9)).drew)) := hide (below_next (below_alloc wr _) (below_alloc _ _)).drew
        have OA : Hid (((wr.alloc (.cells #[] 9)).drew).ownsRow wr.heap.size 9 1 (.slice (some ⟨wr.heap.size, 0, none⟩) 0 0) 0 (([] : List Bs).map vS)) := hide (made_none wr)
        have OB : Hid ((((wr.alloc (.cells #[] 9)).alloc (.cells #[.string (str p)] 9)).drew).ownsRow wr.heap.size 9 1 (.slice (some ⟨wr.heap.size, 0, none⟩) 0 0) 0 (([] : List Bs).map vS)) := hide (ownsRow_below (made_none wr) (below_alloc _ _).drew)
        have OC : Hid ((((wr.alloc (.cells #[.string (str p)] 9)).alloc (.cells #[] 9)).drew).ownsRow wr.heap.size 9 1 (.slice (some ⟨wr.heap.size + 1, 0, none⟩) 0 0) 0 (([] : List Bs).map vS)) := hide (by have := made_none (wr.alloc (.cells #[.string (str p)] 9)); rw [show (wr.alloc (.cells #[.string (str p)] 9)).heap.size = wr.heap.size + 1 by simp] at this; exact ownsRow_mono this (by omega))
        have RNB : Hid (ReadsS (((wr.alloc (.cells #[] 9)).alloc (.cells #[.string (str p)] 9)).drew) (some ⟨wr.heap.size + 1, 0, none⟩) [p]) := hide (by have := reads_name (wr.alloc (.cells #[] 9)) p; rw [show (wr.alloc (.cells #[] 9)).heap.size = wr.heap.size + 1 by simp] at this; exact this)
        have RNC : Hid (ReadsS (((wr.alloc (.cells #[.string (str p)] 9)).alloc (.cells #[] 9)).drew) (some ⟨wr.heap.size, 0, none⟩) [p]) := hide ((reads_name wr p).below (below_alloc _ _).drew)
        have HNB : Hid (wr.heap.size + 1 ≠ wr.heap.size) := hide (by omega)
        have HNC : Hid (wr.heap.size ≠ wr.heap.size + 1) := hide (by omega)
        have HBA : Hid (wr.heap.size ≤ wr.heap.size) := hide (Nat.le_refl _)
        have HBB : Hid (wr.heap.size ≤ wr.heap.size) := hide (Nat.le_refl _)
        have HBC : Hid (wr.heap.size ≤ wr.heap.size + 1) := hide (by omega)
        have htk : Hid ((ps.take k).length = k) := hide (by rw [List.length_take]; omega)
        have hk00 : Hid (0 + k = k) := hide (by omega)
        have hdk : Hid ((ps.drop k).length = (ps.length - k)) := hide (by rw [List.length_drop])
        have hN3 : Hid (k + 1 + (ps.length - k) = ps.length + 1) := hide (by omega)
        have RTA : Hid (ReadsS ((wr.alloc (.cells #[] 9)).drew) (some ⟨g, 0, none⟩) (ps.take k)) := hide ((HR.out.below BSA.out).take k)
        have RTB : Hid (ReadsS (((wr.alloc (.cells #[] 9)).alloc (.cells #[.string (str p)] 9)).drew) (some ⟨g, 0, none⟩) (ps.take k)) := hide ((HR.out.below BSB.out).take k)
        have RTC : Hid (ReadsS (((wr.alloc (.cells #[.string (str p)] 9)).alloc (.cells #[] 9)).drew) (some ⟨g, 0, none⟩) (ps.take k)) := hide ((HR.out.below BSC.out).take k)
        have RD : Hid (∀ u : World, Below wr.heap.size wr u → ReadsS u (some ⟨g, k, none⟩) (ps.drop k)) := hide (fun u hu => (HR.out.below hu).drop k)
        have hm0 : 0 + k ≤ maxLen := by unfold maxLen; omega
        have hm0' : (0 + k) * 16 ≤ 140737488355328 := by omega
        have hm1 : k + 1 ≤ maxLen := by unfold maxLen; omega
        have hm1' : (k + 1) * 16 ≤ 140737488355328 := by omega
        have hm2 : k + 1 + (ps.length - k) ≤ maxLen := by unfold maxLen; omega
        have hm2' : (k + 1 + (ps.length - k)) * 16 ≤ 140737488355328 := by omega
        go_wp2_with fail
        go_region_law
          ((first
            | (refine step_appS (by rfl) (.tmp 20) (.tmp 23) 50 (by rfl) wr.heap.size 9 i1 Tryz.underlying50 ki kz0 kz1 kz2 (some ⟨wr.heap.size + 1, 0, none⟩) 0 0 [] (by rfl) OC.out (some ⟨g, 0, none⟩) k c (ps.take k) (by rfl) htk.out RTC.out k hk00.out hm0 hm0' BSC.out.size ?_; intro av3 cv3 w3 hown3 hk3; have RN3 := hide (keep_name hk3 HNC.out RNC.out); have BW3 := hide (apd_step BSC.out hk3 HBC.out); have O3 := hide hown3; clear hown3 hk3)
            | (refine step_appS (by rfl) (.tmp 20) (.tmp 23) 50 (by rfl) wr.heap.size 9 i1 Tryz.underlying50 ki kz0 kz1 kz2 (some ⟨wr.heap.size, 0, none⟩) 0 0 [] (by rfl) OB.out (some ⟨g, 0, none⟩) k c (ps.take k) (by rfl) htk.out RTB.out k hk00.out hm0 hm0' BSB.out.size ?_; intro av3 cv3 w3 hown3 hk3; have RN3 := hide (keep_name hk3 HNB.out RNB.out); have BW3 := hide (apd_step BSB.out hk3 HBB.out); have O3 := hide hown3; clear hown3 hk3)
            | (refine step_appS (by rfl) (.tmp 20) (.tmp 23) 50 (by rfl) wr.heap.size 9 i1 Tryz.underlying50 ki kz0 kz1 kz2 (some ⟨wr.heap.size, 0, none⟩) 0 0 [] (by rfl) OA.out (some ⟨g, 0, none⟩) k c (ps.take k) (by rfl) htk.out RTA.out k hk00.out hm0 hm0' BSA.out.size ?_; intro av3 cv3 w3 hown3 hk3; have BW3 := hide (apd_step BSA.out hk3 HBA.out); have O3 := hide hown3; clear hown3 hk3)
            | (refine step_appS (by rfl) (.tmp 24) (.tmp 26) 50 (by rfl) wr.heap.size 9 i1 Tryz.underlying50 ki kz0 kz1 kz2 av3 k cv3 (([] : List Bs) ++ ps.take k) (by rfl) O3.out (some ⟨wr.heap.size, 0, none⟩) 1 1 [p] (by rfl) rfl RN3.out (k + 1) rfl hm1 hm1' BW3.out.size ?_; intro av4 cv4 w4 hown4 hk4; have BW4 := hide (apd_step2 BW3.out hk4 O3.out); have O4 := hide hown4; clear hown4 hk4)
            | (refine step_appS (by rfl) (.tmp 24) (.tmp 26) 50 (by rfl) wr.heap.size 9 i1 Tryz.underlying50 ki kz0 kz1 kz2 av3 k cv3 (([] : List Bs) ++ ps.take k) (by rfl) O3.out (some ⟨wr.heap.size + 1, 0, none⟩) 1 1 [p] (by rfl) rfl RN3.out (k + 1) rfl hm1 hm1' BW3.out.size ?_; intro av4 cv4 w4 hown4 hk4; have BW4 := hide (apd_step2 BW3.out hk4 O3.out); have O4 := hide hown4; clear hown4 hk4)
            | (refine step_appS (by rfl) (.tmp 24) (.tmp 26) 50 (by rfl) wr.heap.size 9 i1 Tryz.underlying50 ki kz0 kz1 kz2 av3 k cv3 (([] : List Bs) ++ ps.take k) (by rfl) (ownsRow_below O3.out (below_alloc w3 (.cells #[.string (str p)] 9))) (some ⟨w3.heap.size, 0, none⟩) 1 1 [p] (by rfl) rfl (reads_name w3 p) (k + 1) rfl hm1 hm1' (below_next BW3.out (below_alloc w3 (.cells #[.string (str p)] 9))).size ?_; intro av4 cv4 w4 hown4 hk4; have BW4 := hide (apd_step2 (below_next BW3.out (below_alloc w3 (.cells #[.string (str p)] 9))) hk4 O3.out); have O4 := hide hown4; clear hown4 hk4)
            | (refine step_appS (by rfl) (.tmp 27) (.tmp 30) 50 (by rfl) wr.heap.size 9 i1 Tryz.underlying50 ki kz0 kz1 kz2 av4 (k + 1) cv4 ((([] : List Bs) ++ ps.take k) ++ [p]) (by rfl) O4.out (some ⟨g, k, none⟩) (ps.length - k) (c - k) (ps.drop k) (by rfl) hdk.out (RD.out _ BW4.out) (ps.length + 1) hN3.out hm2 hm2' BW4.out.size ?_; intro av5 cv5 w5 hown5 hk5; have BW5 := hide (apd_step2 BW4.out hk5 O4.out); have O5 := hide hown5; clear hown5 hk5)))
        all_goals
          go_wp2_with fail
          go_ret
          exact ⟨av5, cv5, by rw [HLen.out]; rfl, by rw [HLen.out]; exact put_own O5.out HPut.out HLen.out, BW5.out⟩
      · have HLk := hide (show (ps.take (k + 1)).all (fun x => Op.bytesLess x p) = true from by
          rw [str_toList, str_toList] at hlo
          rw [take_snoc_at HX.out]; simp only [List.all_append, HL.out, List.all_cons, hlo, List.all_nil, Bool.and_self])
        go_wp2_with fail
        go_roundw
        case rel => exact ⟨k + 1, by omega, by go_num, (by first | rfl | trivial), HLk⟩
        case measure => simp [intOf]; omega
    · have HLk := hide (lowS_at hk HL.out (fun y' hy' => by have := (List.getElem?_eq_some_iff.1 hy').1; omega))
      have hk1 : ¬ (k : Int) < (ps.length : Int) := by omega
      by_cases hck : c = k
      · obtain rfl : k = c := hck.symm
        have hkn : k = ps.length := by omega
        have HPut := hide (show putS ps p = ps.take k ++ p :: ps.drop k from by unfold putS; rw [HLk.out])
        have HLen := hide (putS_len ps p)
        have BSA : Hid (Below wr.heap.size wr ((wr.alloc (.cells #[] 9)).drew)) := hide (below_alloc wr _).drew
        have BSB : Hid (Below wr.heap.size wr (((wr.alloc (.cells #[] 9)).alloc (.cells #[.string (str p)] 9)).drew)) := hide (below_next (below_alloc wr _) (below_alloc _ _)).drew
        have BSC : Hid (Below wr.heap.size wr (((wr.alloc (.cells #[.string (str p)] 9)).alloc (.cells #[] 9)).drew)) := hide (below_next (below_alloc wr _) (below_alloc _ _)).drew
        have OA : Hid (((wr.alloc (.cells #[] 9)).drew).ownsRow wr.heap.size 9 1 (.slice (some ⟨wr.heap.size, 0, none⟩) 0 0) 0 (([] : List Bs).map vS)) := hide (made_none wr)
        have OB : Hid ((((wr.alloc (.cells #[] 9)).alloc (.cells #[.string (str p)] 9)).drew).ownsRow wr.heap.size 9 1 (.slice (some ⟨wr.heap.size, 0, none⟩) 0 0) 0 (([] : List Bs).map vS)) := hide (ownsRow_below (made_none wr) (below_alloc _ _).drew)
        have OC : Hid ((((wr.alloc (.cells #[.string (str p)] 9)).alloc (.cells #[] 9)).drew).ownsRow wr.heap.size 9 1 (.slice (some ⟨wr.heap.size + 1, 0, none⟩) 0 0) 0 (([] : List Bs).map vS)) := hide (by have := made_none (wr.alloc (.cells #[.string (str p)] 9)); rw [show (wr.alloc (.cells #[.string (str p)] 9)).heap.size = wr.heap.size + 1 by simp] at this; exact ownsRow_mono this (by omega))
        have RNB : Hid (ReadsS (((wr.alloc (.cells #[] 9)).alloc (.cells #[.string (str p)] 9)).drew) (some ⟨wr.heap.size + 1, 0, none⟩) [p]) := hide (by have := reads_name (wr.alloc (.cells #[] 9)) p; rw [show (wr.alloc (.cells #[] 9)).heap.size = wr.heap.size + 1 by simp] at this; exact this)
        have RNC : Hid (ReadsS (((wr.alloc (.cells #[.string (str p)] 9)).alloc (.cells #[] 9)).drew) (some ⟨wr.heap.size, 0, none⟩) [p]) := hide ((reads_name wr p).below (below_alloc _ _).drew)
        have HNB : Hid (wr.heap.size + 1 ≠ wr.heap.size) := hide (by omega)
        have HNC : Hid (wr.heap.size ≠ wr.heap.size + 1) := hide (by omega)
        have HBA : Hid (wr.heap.size ≤ wr.heap.size) := hide (Nat.le_refl _)
        have HBB : Hid (wr.heap.size ≤ wr.heap.size) := hide (Nat.le_refl _)
        have HBC : Hid (wr.heap.size ≤ wr.heap.size + 1) := hide (by omega)
        have htk : Hid ((ps.take k).length = k) := hide (by rw [List.length_take]; omega)
        have hk00 : Hid (0 + k = k) := hide (by omega)
        have hdk : Hid ((ps.drop k).length = 0) := hide (by rw [List.length_drop]; omega)
        have hN3 : Hid (k + 1 + 0 = ps.length + 1) := hide (by omega)
        have RTA : Hid (ReadsS ((wr.alloc (.cells #[] 9)).drew) (some ⟨g, 0, none⟩) (ps.take k)) := hide ((HR.out.below BSA.out).take k)
        have RTB : Hid (ReadsS (((wr.alloc (.cells #[] 9)).alloc (.cells #[.string (str p)] 9)).drew) (some ⟨g, 0, none⟩) (ps.take k)) := hide ((HR.out.below BSB.out).take k)
        have RTC : Hid (ReadsS (((wr.alloc (.cells #[.string (str p)] 9)).alloc (.cells #[] 9)).drew) (some ⟨g, 0, none⟩) (ps.take k)) := hide ((HR.out.below BSC.out).take k)
        have RD : Hid (∀ u : World, Below wr.heap.size wr u → ReadsS u (some ⟨g, 0, none⟩) (ps.drop k)) := hide (fun u hu => by rw [List.drop_eq_nil_of_le (by omega)]; exact ReadsS.nil _ _)
        have hm0 : 0 + k ≤ maxLen := by unfold maxLen; omega
        have hm0' : (0 + k) * 16 ≤ 140737488355328 := by omega
        have hm1 : k + 1 ≤ maxLen := by unfold maxLen; omega
        have hm1' : (k + 1) * 16 ≤ 140737488355328 := by omega
        have hm2 : k + 1 + 0 ≤ maxLen := by unfold maxLen; omega
        have hm2' : (k + 1 + 0) * 16 ≤ 140737488355328 := by omega
        clear hkn
        go_wp2_with fail
        go_region_law
          ((first
            | (refine step_appS (by rfl) (.tmp 20) (.tmp 23) 50 (by rfl) wr.heap.size 9 i1 Tryz.underlying50 ki kz0 kz1 kz2 (some ⟨wr.heap.size + 1, 0, none⟩) 0 0 [] (by rfl) OC.out (some ⟨g, 0, none⟩) k k (ps.take k) (by rfl) htk.out RTC.out k hk00.out hm0 hm0' BSC.out.size ?_; intro av3 cv3 w3 hown3 hk3; have RN3 := hide (keep_name hk3 HNC.out RNC.out); have BW3 := hide (apd_step BSC.out hk3 HBC.out); have O3 := hide hown3; clear hown3 hk3)
            | (refine step_appS (by rfl) (.tmp 20) (.tmp 23) 50 (by rfl) wr.heap.size 9 i1 Tryz.underlying50 ki kz0 kz1 kz2 (some ⟨wr.heap.size, 0, none⟩) 0 0 [] (by rfl) OB.out (some ⟨g, 0, none⟩) k k (ps.take k) (by rfl) htk.out RTB.out k hk00.out hm0 hm0' BSB.out.size ?_; intro av3 cv3 w3 hown3 hk3; have RN3 := hide (keep_name hk3 HNB.out RNB.out); have BW3 := hide (apd_step BSB.out hk3 HBB.out); have O3 := hide hown3; clear hown3 hk3)
            | (refine step_appS (by rfl) (.tmp 20) (.tmp 23) 50 (by rfl) wr.heap.size 9 i1 Tryz.underlying50 ki kz0 kz1 kz2 (some ⟨wr.heap.size, 0, none⟩) 0 0 [] (by rfl) OA.out (some ⟨g, 0, none⟩) k k (ps.take k) (by rfl) htk.out RTA.out k hk00.out hm0 hm0' BSA.out.size ?_; intro av3 cv3 w3 hown3 hk3; have BW3 := hide (apd_step BSA.out hk3 HBA.out); have O3 := hide hown3; clear hown3 hk3)
            | (refine step_appS (by rfl) (.tmp 24) (.tmp 26) 50 (by rfl) wr.heap.size 9 i1 Tryz.underlying50 ki kz0 kz1 kz2 av3 k cv3 (([] : List Bs) ++ ps.take k) (by rfl) O3.out (some ⟨wr.heap.size, 0, none⟩) 1 1 [p] (by rfl) rfl RN3.out (k + 1) rfl hm1 hm1' BW3.out.size ?_; intro av4 cv4 w4 hown4 hk4; have BW4 := hide (apd_step2 BW3.out hk4 O3.out); have O4 := hide hown4; clear hown4 hk4)
            | (refine step_appS (by rfl) (.tmp 24) (.tmp 26) 50 (by rfl) wr.heap.size 9 i1 Tryz.underlying50 ki kz0 kz1 kz2 av3 k cv3 (([] : List Bs) ++ ps.take k) (by rfl) O3.out (some ⟨wr.heap.size + 1, 0, none⟩) 1 1 [p] (by rfl) rfl RN3.out (k + 1) rfl hm1 hm1' BW3.out.size ?_; intro av4 cv4 w4 hown4 hk4; have BW4 := hide (apd_step2 BW3.out hk4 O3.out); have O4 := hide hown4; clear hown4 hk4)
            | (refine step_appS (by rfl) (.tmp 24) (.tmp 26) 50 (by rfl) wr.heap.size 9 i1 Tryz.underlying50 ki kz0 kz1 kz2 av3 k cv3 (([] : List Bs) ++ ps.take k) (by rfl) (ownsRow_below O3.out (below_alloc w3 (.cells #[.string (str p)] 9))) (some ⟨w3.heap.size, 0, none⟩) 1 1 [p] (by rfl) rfl (reads_name w3 p) (k + 1) rfl hm1 hm1' (below_next BW3.out (below_alloc w3 (.cells #[.string (str p)] 9))).size ?_; intro av4 cv4 w4 hown4 hk4; have BW4 := hide (apd_step2 (below_next BW3.out (below_alloc w3 (.cells #[.string (str p)] 9))) hk4 O3.out); have O4 := hide hown4; clear hown4 hk4)
            | (refine step_appS (by rfl) (.tmp 27) (.tmp 30) 50 (by rfl) wr.heap.size 9 i1 Tryz.underlying50 ki kz0 kz1 kz2 av4 (k + 1) cv4 ((([] : List Bs) ++ ps.take k) ++ [p]) (by rfl) O4.out (some ⟨g, 0, none⟩) 0 0 (ps.drop k) (by rfl) hdk.out (RD.out _ BW4.out) (ps.length + 1) hN3.out hm2 hm2' BW4.out.size ?_; intro av5 cv5 w5 hown5 hk5; have BW5 := hide (apd_step2 BW4.out hk5 O4.out); have O5 := hide hown5; clear hown5 hk5)))
        all_goals
          go_wp2_with fail
          go_ret
          exact ⟨av5, cv5, by rw [HLen.out]; rfl, by rw [HLen.out]; exact put_own O5.out HPut.out HLen.out, BW5.out⟩
      · have hck2 : ¬ c = k := hck
        have HPut := hide (show putS ps p = ps.take k ++ p :: ps.drop k from by unfold putS; rw [HLk.out])
        have HLen := hide (putS_len ps p)
        have BSA : Hid (Below wr.heap.size wr ((wr.alloc (.cells #[] 9)).drew)) := hide (below_alloc wr _).drew
        have BSB : Hid (Below wr.heap.size wr (((wr.alloc (.cells #[] 9)).alloc (.cells #[.string (str p)] 9)).drew)) := hide (below_next (below_alloc wr _) (below_alloc _ _)).drew
        have BSC : Hid (Below wr.heap.size wr (((wr.alloc (.cells #[.string (str p)] 9)).alloc (.cells #[] 9)).drew)) := hide (below_next (below_alloc wr _) (below_alloc _ _)).drew
        have OA : Hid (((wr.alloc (.cells #[] 9)).drew).ownsRow wr.heap.size 9 1 (.slice (some ⟨wr.heap.size, 0, none⟩) 0 0) 0 (([] : List Bs).map vS)) := hide (made_none wr)
        have OB : Hid ((((wr.alloc (.cells #[] 9)).alloc (.cells #[.string (str p)] 9)).drew).ownsRow wr.heap.size 9 1 (.slice (some ⟨wr.heap.size, 0, none⟩) 0 0) 0 (([] : List Bs).map vS)) := hide (ownsRow_below (made_none wr) (below_alloc _ _).drew)
        have OC : Hid ((((wr.alloc (.cells #[.string (str p)] 9)).alloc (.cells #[] 9)).drew).ownsRow wr.heap.size 9 1 (.slice (some ⟨wr.heap.size + 1, 0, none⟩) 0 0) 0 (([] : List Bs).map vS)) := hide (by have := made_none (wr.alloc (.cells #[.string (str p)] 9)); rw [show (wr.alloc (.cells #[.string (str p)] 9)).heap.size = wr.heap.size + 1 by simp] at this; exact ownsRow_mono this (by omega))
        have RNB : Hid (ReadsS (((wr.alloc (.cells #[] 9)).alloc (.cells #[.string (str p)] 9)).drew) (some ⟨wr.heap.size + 1, 0, none⟩) [p]) := hide (by have := reads_name (wr.alloc (.cells #[] 9)) p; rw [show (wr.alloc (.cells #[] 9)).heap.size = wr.heap.size + 1 by simp] at this; exact this)
        have RNC : Hid (ReadsS (((wr.alloc (.cells #[.string (str p)] 9)).alloc (.cells #[] 9)).drew) (some ⟨wr.heap.size, 0, none⟩) [p]) := hide ((reads_name wr p).below (below_alloc _ _).drew)
        have HNB : Hid (wr.heap.size + 1 ≠ wr.heap.size) := hide (by omega)
        have HNC : Hid (wr.heap.size ≠ wr.heap.size + 1) := hide (by omega)
        have HBA : Hid (wr.heap.size ≤ wr.heap.size) := hide (Nat.le_refl _)
        have HBB : Hid (wr.heap.size ≤ wr.heap.size) := hide (Nat.le_refl _)
        have HBC : Hid (wr.heap.size ≤ wr.heap.size + 1) := hide (by omega)
        have htk : Hid ((ps.take k).length = k) := hide (by rw [List.length_take]; omega)
        have hk00 : Hid (0 + k = k) := hide (by omega)
        have hdk : Hid ((ps.drop k).length = (ps.length - k)) := hide (by rw [List.length_drop])
        have hN3 : Hid (k + 1 + (ps.length - k) = ps.length + 1) := hide (by omega)
        have RTA : Hid (ReadsS ((wr.alloc (.cells #[] 9)).drew) (some ⟨g, 0, none⟩) (ps.take k)) := hide ((HR.out.below BSA.out).take k)
        have RTB : Hid (ReadsS (((wr.alloc (.cells #[] 9)).alloc (.cells #[.string (str p)] 9)).drew) (some ⟨g, 0, none⟩) (ps.take k)) := hide ((HR.out.below BSB.out).take k)
        have RTC : Hid (ReadsS (((wr.alloc (.cells #[.string (str p)] 9)).alloc (.cells #[] 9)).drew) (some ⟨g, 0, none⟩) (ps.take k)) := hide ((HR.out.below BSC.out).take k)
        have RD : Hid (∀ u : World, Below wr.heap.size wr u → ReadsS u (some ⟨g, k, none⟩) (ps.drop k)) := hide (fun u hu => (HR.out.below hu).drop k)
        have hm0 : 0 + k ≤ maxLen := by unfold maxLen; omega
        have hm0' : (0 + k) * 16 ≤ 140737488355328 := by omega
        have hm1 : k + 1 ≤ maxLen := by unfold maxLen; omega
        have hm1' : (k + 1) * 16 ≤ 140737488355328 := by omega
        have hm2 : k + 1 + (ps.length - k) ≤ maxLen := by unfold maxLen; omega
        have hm2' : (k + 1 + (ps.length - k)) * 16 ≤ 140737488355328 := by omega
        go_wp2_with fail
        go_region_law
          ((first
            | (refine step_appS (by rfl) (.tmp 20) (.tmp 23) 50 (by rfl) wr.heap.size 9 i1 Tryz.underlying50 ki kz0 kz1 kz2 (some ⟨wr.heap.size + 1, 0, none⟩) 0 0 [] (by rfl) OC.out (some ⟨g, 0, none⟩) k c (ps.take k) (by rfl) htk.out RTC.out k hk00.out hm0 hm0' BSC.out.size ?_; intro av3 cv3 w3 hown3 hk3; have RN3 := hide (keep_name hk3 HNC.out RNC.out); have BW3 := hide (apd_step BSC.out hk3 HBC.out); have O3 := hide hown3; clear hown3 hk3)
            | (refine step_appS (by rfl) (.tmp 20) (.tmp 23) 50 (by rfl) wr.heap.size 9 i1 Tryz.underlying50 ki kz0 kz1 kz2 (some ⟨wr.heap.size, 0, none⟩) 0 0 [] (by rfl) OB.out (some ⟨g, 0, none⟩) k c (ps.take k) (by rfl) htk.out RTB.out k hk00.out hm0 hm0' BSB.out.size ?_; intro av3 cv3 w3 hown3 hk3; have RN3 := hide (keep_name hk3 HNB.out RNB.out); have BW3 := hide (apd_step BSB.out hk3 HBB.out); have O3 := hide hown3; clear hown3 hk3)
            | (refine step_appS (by rfl) (.tmp 20) (.tmp 23) 50 (by rfl) wr.heap.size 9 i1 Tryz.underlying50 ki kz0 kz1 kz2 (some ⟨wr.heap.size, 0, none⟩) 0 0 [] (by rfl) OA.out (some ⟨g, 0, none⟩) k c (ps.take k) (by rfl) htk.out RTA.out k hk00.out hm0 hm0' BSA.out.size ?_; intro av3 cv3 w3 hown3 hk3; have BW3 := hide (apd_step BSA.out hk3 HBA.out); have O3 := hide hown3; clear hown3 hk3)
            | (refine step_appS (by rfl) (.tmp 24) (.tmp 26) 50 (by rfl) wr.heap.size 9 i1 Tryz.underlying50 ki kz0 kz1 kz2 av3 k cv3 (([] : List Bs) ++ ps.take k) (by rfl) O3.out (some ⟨wr.heap.size, 0, none⟩) 1 1 [p] (by rfl) rfl RN3.out (k + 1) rfl hm1 hm1' BW3.out.size ?_; intro av4 cv4 w4 hown4 hk4; have BW4 := hide (apd_step2 BW3.out hk4 O3.out); have O4 := hide hown4; clear hown4 hk4)
            | (refine step_appS (by rfl) (.tmp 24) (.tmp 26) 50 (by rfl) wr.heap.size 9 i1 Tryz.underlying50 ki kz0 kz1 kz2 av3 k cv3 (([] : List Bs) ++ ps.take k) (by rfl) O3.out (some ⟨wr.heap.size + 1, 0, none⟩) 1 1 [p] (by rfl) rfl RN3.out (k + 1) rfl hm1 hm1' BW3.out.size ?_; intro av4 cv4 w4 hown4 hk4; have BW4 := hide (apd_step2 BW3.out hk4 O3.out); have O4 := hide hown4; clear hown4 hk4)
            | (refine step_appS (by rfl) (.tmp 24) (.tmp 26) 50 (by rfl) wr.heap.size 9 i1 Tryz.underlying50 ki kz0 kz1 kz2 av3 k cv3 (([] : List Bs) ++ ps.take k) (by rfl) (ownsRow_below O3.out (below_alloc w3 (.cells #[.string (str p)] 9))) (some ⟨w3.heap.size, 0, none⟩) 1 1 [p] (by rfl) rfl (reads_name w3 p) (k + 1) rfl hm1 hm1' (below_next BW3.out (below_alloc w3 (.cells #[.string (str p)] 9))).size ?_; intro av4 cv4 w4 hown4 hk4; have BW4 := hide (apd_step2 (below_next BW3.out (below_alloc w3 (.cells #[.string (str p)] 9))) hk4 O3.out); have O4 := hide hown4; clear hown4 hk4)
            | (refine step_appS (by rfl) (.tmp 27) (.tmp 30) 50 (by rfl) wr.heap.size 9 i1 Tryz.underlying50 ki kz0 kz1 kz2 av4 (k + 1) cv4 ((([] : List Bs) ++ ps.take k) ++ [p]) (by rfl) O4.out (some ⟨g, k, none⟩) (ps.length - k) (c - k) (ps.drop k) (by rfl) hdk.out (RD.out _ BW4.out) (ps.length + 1) hN3.out hm2 hm2' BW4.out.size ?_; intro av5 cv5 w5 hown5 hk5; have BW5 := hide (apd_step2 BW4.out hk5 O4.out); have O5 := hide hown5; clear hown5 hk5)))
        all_goals
          go_wp2_with fail
          go_ret
          exact ⟨av5, cv5, by rw [HLen.out]; rfl, by rw [HLen.out]; exact put_own O5.out HPut.out HLen.out, BW5.out⟩
set_option maxRecDepth 100000 in
set_option maxHeartbeats 12800000 in
theorem l8Put_nil (p : Bs) (w : World) :
    Calls Tryz.prog 65 #[.slice none 0 0, .string (str p)] w fun r w' => ∃ av cv, r = .returned (.slice av (putS [] p).length cv) ∧ OwnS w.heap.size w' (.slice av (putS [] p).length cv) (putS [] p) ∧ Below w.heap.size w w' := by
  obtain ⟨i1, ki, kz0, kz1, kz2⟩ := info_parts infoS
  obtain ⟨ps, hps⟩ : ∃ ps : List Bs, ps = [] := ⟨_, rfl⟩
  obtain ⟨k, hk⟩ : ∃ k : Nat, k = 0 := ⟨_, rfl⟩
  rw [← hps]
  have hpl : ps.length = 0 := by rw [hps]; rfl
  have HLk := hide (show lowS ps p = k from by rw [hps, hk]; rfl)
  have HR := hide (show ReadsS w none ps from by rw [hps]; exact ReadsS.nil _ _)
  clear hps
  have HPut := hide (show putS ps p = ps.take k ++ p :: ps.drop k from by unfold putS; rw [HLk.out])
  have HLen := hide (putS_len ps p)
  have BSA : Hid (Below w.heap.size w ((w.alloc (.cells #[] 9)).drew)) := hide (below_alloc w _).drew
  have BSB : Hid (Below w.heap.size w (((w.alloc (.cells #[] 9)).alloc (.cells #[.string (str p)] 9)).drew)) := hide (below_next (below_alloc w _) (below_alloc _ _)).drew
  have BSC : Hid (Below w.heap.size w (((w.alloc (.cells #[.string (str p)] 9)).alloc (.cells #[] 9)).drew)) := hide (below_next (below_alloc w _) (below_alloc _ _)).drew
  have OA : Hid (((w.alloc (.cells #[] 9)).drew).ownsRow w.heap.size 9 1 (.slice (some ⟨w.heap.size, 0, none⟩) 0 0) 0 (([] : List Bs).map vS)) := hide (made_none w)
  have OB : Hid ((((w.alloc (.cells #[] 9)).alloc (.cells #[.string (str p)] 9)).drew).ownsRow w.heap.size 9 1 (.slice (some ⟨w.heap.size, 0, none⟩) 0 0) 0 (([] : List Bs).map vS)) := hide (ownsRow_below (made_none w) (below_alloc _ _).drew)
  have OC : Hid ((((w.alloc (.cells #[.string (str p)] 9)).alloc (.cells #[] 9)).drew).ownsRow w.heap.size 9 1 (.slice (some ⟨w.heap.size + 1, 0, none⟩) 0 0) 0 (([] : List Bs).map vS)) := hide (by have := made_none (w.alloc (.cells #[.string (str p)] 9)); rw [show (w.alloc (.cells #[.string (str p)] 9)).heap.size = w.heap.size + 1 by simp] at this; exact ownsRow_mono this (by omega))
  have RNB : Hid (ReadsS (((w.alloc (.cells #[] 9)).alloc (.cells #[.string (str p)] 9)).drew) (some ⟨w.heap.size + 1, 0, none⟩) [p]) := hide (by have := reads_name (w.alloc (.cells #[] 9)) p; rw [show (w.alloc (.cells #[] 9)).heap.size = w.heap.size + 1 by simp] at this; exact this)
  have RNC : Hid (ReadsS (((w.alloc (.cells #[.string (str p)] 9)).alloc (.cells #[] 9)).drew) (some ⟨w.heap.size, 0, none⟩) [p]) := hide ((reads_name w p).below (below_alloc _ _).drew)
  have HNB : Hid (w.heap.size + 1 ≠ w.heap.size) := hide (by omega)
  have HNC : Hid (w.heap.size ≠ w.heap.size + 1) := hide (by omega)
  have HBA : Hid (w.heap.size ≤ w.heap.size) := hide (Nat.le_refl _)
  have HBB : Hid (w.heap.size ≤ w.heap.size) := hide (Nat.le_refl _)
  have HBC : Hid (w.heap.size ≤ w.heap.size + 1) := hide (by omega)
  have htk : Hid ((ps.take k).length = 0) := hide (by rw [List.length_take]; omega)
  have hk00 : Hid (0 + 0 = 0) := hide (by omega)
  have hdk : Hid ((ps.drop k).length = 0) := hide (by rw [List.length_drop]; omega)
  have hN3 : Hid (0 + 1 + 0 = ps.length + 1) := hide (by omega)
  have RTA : Hid (ReadsS ((w.alloc (.cells #[] 9)).drew) none (ps.take k)) := hide ((HR.out.below BSA.out).take k)
  have RTB : Hid (ReadsS (((w.alloc (.cells #[] 9)).alloc (.cells #[.string (str p)] 9)).drew) none (ps.take k)) := hide ((HR.out.below BSB.out).take k)
  have RTC : Hid (ReadsS (((w.alloc (.cells #[.string (str p)] 9)).alloc (.cells #[] 9)).drew) none (ps.take k)) := hide ((HR.out.below BSC.out).take k)
  have RD : Hid (∀ u : World, Below w.heap.size w u → ReadsS u none (ps.drop k)) := hide (fun u hu => by rw [List.drop_eq_nil_of_le (by omega)]; exact ReadsS.nil _ _)
  have hm0 : 0 + 0 ≤ maxLen := by unfold maxLen; omega
  have hm0' : (0 + 0) * 16 ≤ 140737488355328 := by omega
  have hm1 : 0 + 1 ≤ maxLen := by unfold maxLen; omega
  have hm1' : (0 + 1) * 16 ≤ 140737488355328 := by omega
  have hm2 : 0 + 1 + 0 ≤ maxLen := by unfold maxLen; omega
  have hm2' : (0 + 1 + 0) * 16 ≤ 140737488355328 := by omega
  rw [hk] at *
  clear hk hpl
  go_enter Tryz.func65, Tryz.ntmps65
  go_wp2_with fail
  go_loopw [5] (fun i w9 => i = .int .i64 0 ∧ w9 = w) (fun _ _ => 0)
  case atStart => exact ⟨rfl, rfl⟩
  case round =>
    obtain ⟨rfl, hw9⟩ := hrel
    subst hw9
    go_wp2_with fail
    go_region_law
      ((first
        | (refine step_appS (by rfl) (.tmp 20) (.tmp 23) 50 (by rfl) wr.heap.size 9 i1 Tryz.underlying50 ki kz0 kz1 kz2 (some ⟨wr.heap.size + 1, 0, none⟩) 0 0 [] (by rfl) OC.out none 0 0 (ps.take 0) (by rfl) htk.out RTC.out 0 rfl hm0 hm0' BSC.out.size ?_; intro av3 cv3 w3 hown3 hk3; have RN3 := hide (keep_name hk3 HNC.out RNC.out); have BW3 := hide (apd_step BSC.out hk3 HBC.out); have O3 := hide hown3; clear hown3 hk3)
        | (refine step_appS (by rfl) (.tmp 20) (.tmp 23) 50 (by rfl) wr.heap.size 9 i1 Tryz.underlying50 ki kz0 kz1 kz2 (some ⟨wr.heap.size, 0, none⟩) 0 0 [] (by rfl) OB.out none 0 0 (ps.take 0) (by rfl) htk.out RTB.out 0 rfl hm0 hm0' BSB.out.size ?_; intro av3 cv3 w3 hown3 hk3; have RN3 := hide (keep_name hk3 HNB.out RNB.out); have BW3 := hide (apd_step BSB.out hk3 HBB.out); have O3 := hide hown3; clear hown3 hk3)
        | (refine step_appS (by rfl) (.tmp 20) (.tmp 23) 50 (by rfl) wr.heap.size 9 i1 Tryz.underlying50 ki kz0 kz1 kz2 (some ⟨wr.heap.size, 0, none⟩) 0 0 [] (by rfl) OA.out none 0 0 (ps.take 0) (by rfl) htk.out RTA.out 0 rfl hm0 hm0' BSA.out.size ?_; intro av3 cv3 w3 hown3 hk3; have BW3 := hide (apd_step BSA.out hk3 HBA.out); have O3 := hide hown3; clear hown3 hk3)
        | (refine step_appS (by rfl) (.tmp 24) (.tmp 26) 50 (by rfl) wr.heap.size 9 i1 Tryz.underlying50 ki kz0 kz1 kz2 av3 0 cv3 (([] : List Bs) ++ ps.take 0) (by rfl) O3.out (some ⟨wr.heap.size, 0, none⟩) 1 1 [p] (by rfl) rfl RN3.out (0 + 1) rfl hm1 hm1' BW3.out.size ?_; intro av4 cv4 w4 hown4 hk4; have BW4 := hide (apd_step2 BW3.out hk4 O3.out); have O4 := hide hown4; clear hown4 hk4)
        | (refine step_appS (by rfl) (.tmp 24) (.tmp 26) 50 (by rfl) wr.heap.size 9 i1 Tryz.underlying50 ki kz0 kz1 kz2 av3 0 cv3 (([] : List Bs) ++ ps.take 0) (by rfl) O3.out (some ⟨wr.heap.size + 1, 0, none⟩) 1 1 [p] (by rfl) rfl RN3.out (0 + 1) rfl hm1 hm1' BW3.out.size ?_; intro av4 cv4 w4 hown4 hk4; have BW4 := hide (apd_step2 BW3.out hk4 O3.out); have O4 := hide hown4; clear hown4 hk4)
        | (refine step_appS (by rfl) (.tmp 24) (.tmp 26) 50 (by rfl) wr.heap.size 9 i1 Tryz.underlying50 ki kz0 kz1 kz2 av3 0 cv3 (([] : List Bs) ++ ps.take 0) (by rfl) (ownsRow_below O3.out (below_alloc w3 (.cells #[.string (str p)] 9))) (some ⟨w3.heap.size, 0, none⟩) 1 1 [p] (by rfl) rfl (reads_name w3 p) (0 + 1) rfl hm1 hm1' (below_next BW3.out (below_alloc w3 (.cells #[.string (str p)] 9))).size ?_; intro av4 cv4 w4 hown4 hk4; have BW4 := hide (apd_step2 (below_next BW3.out (below_alloc w3 (.cells #[.string (str p)] 9))) hk4 O3.out); have O4 := hide hown4; clear hown4 hk4)
        | (refine step_appS (by rfl) (.tmp 27) (.tmp 30) 50 (by rfl) wr.heap.size 9 i1 Tryz.underlying50 ki kz0 kz1 kz2 av4 (0 + 1) cv4 ((([] : List Bs) ++ ps.take 0) ++ [p]) (by rfl) O4.out none 0 0 (ps.drop 0) (by rfl) hdk.out (RD.out _ BW4.out) (ps.length + 1) hN3.out hm2 hm2' BW4.out.size ?_; intro av5 cv5 w5 hown5 hk5; have BW5 := hide (apd_step2 BW4.out hk5 O4.out); have O5 := hide hown5; clear hown5 hk5)))
    all_goals
      go_wp2_with fail
      go_ret
      exact ⟨av5, cv5, by rw [HLen.out]; rfl, by rw [HLen.out]; exact put_own O5.out HPut.out HLen.out, BW5.out⟩
theorem l8Put_any (a : Option Addr) (c n : Nat) (ps : List Bs) (p : Bs) (w : World) {B : Nat} (h : OwnS B w (.slice a n c) ps) (hn : n = ps.length) (hl : ps.length ≤ 1048576) :
    Calls Tryz.prog 65 #[.slice a n c, .string (str p)] w fun r w' => ∃ av cv, r = .returned (.slice av (putS ps p).length cv) ∧ OwnS w.heap.size w' (.slice av (putS ps p).length cv) (putS ps p) ∧ Below w.heap.size w w' := by
  subst hn
  have hr := h.reads
  have hc := h.cap rfl
  rcases h.2 with ⟨h', hh⟩ | ⟨g, cap, cur, h', -⟩
  · simp only [Value.slice.injEq] at h'
    obtain ⟨rfl, h0, rfl⟩ := h'
    obtain rfl : ps = [] := List.eq_nil_of_length_eq_zero h0
    exact l8Put_nil p w
  · simp only [Value.slice.injEq, true_and] at h'
    obtain ⟨rfl, rfl⟩ := h'
    exact l8Put_some g c ps p w hr hc hl
end Go.Proofs.YtejipahfodhmjaaGreat

namespace Go.Proofs.YtejipahfodhmjaaGreat
open Go.RowKit Go.Maps
set_option linter.unusedVariables false
attribute [local go_sem ↓] Go.wp_at_zero Go.wp_at_succ

set_option maxRecDepth 100000 in
set_option maxHeartbeats 6400000 in
theorem seenAt_any (b N : Nat) (p : Bs) (S : Nat → Bs → Option En) (w0 w : World) (h : SeeM w0 w b N S) (hp : p.length ≤ 1048576) :
    Calls Tryz.prog 41 #[.map (some b), .string (str p)] w (ResW (seenG S p 4) p w) := by
  have X0 := hide (Box.new w (.int .i64 0) (.string ⟨#[]⟩) 86)
  have B0 := hide (below_alloc w (.cells #[.int .i64 0, .string ⟨#[]⟩] 86))
  have M0 := hide (h.below B0.out)
  clear h
  go_enter Tryz.func41, Tryz.ntmps41
  go_wp2_with fail
  generalize w.alloc (.cells #[.int .i64 0, .string ⟨#[]⟩] 86) = W0 at *
  go_loopw [6] (fun i wr => ∃ n : Nat, n ≤ 4 ∧ i = .int .i64 ((n : Int) - 1) ∧ Hid (seenG S p 4 = seenG S p n) ∧ Hid (Below W0.heap.size W0 wr)) (fun i _ => (intOf i + 1).toNat)
  case atStart => exact ⟨4, Nat.le_refl _, rfl, hide rfl, hide (Below.refl _ _)⟩
  case round =>
    obtain ⟨n, hn, hi, HV, HW⟩ := hrel
    cases n with
    | zero =>
      rw [show ((0 : Nat) : Int) - 1 = -1 from rfl] at hi
      subst hi
      have HN := hide (show seenG S p 4 = none from HV.out)
      obtain ⟨⟨t0, t1⟩, t2, t3⟩ := X0.out.below HW.out
      clear HV
      go_wp2_with fail
      refine bodyPost_ret (v := .tuple #[.agg #[.int .i64 0, .string ⟨#[]⟩], .bool false]) (by simp [results, Tryz.results41, go_sem, t0, t1]) rfl ?_
      rw [HN.out]
      exact ⟨⟨0, ⟨#[]⟩, rfl⟩, ((below_next B0.out HW.out).setCell (p := ⟨w.heap.size, 0, none⟩) (Nat.le_refl _) _).setCell (p := ⟨w.heap.size, 1, none⟩) (Nat.le_refl _) _⟩
    | succ m =>
      rw [show ((m + 1 : Nat) : Int) - 1 = (m : Int) from by omega] at hi
      subst hi
      have hm0 : (0 : Int) ≤ (m : Int) := by omega
      have MW := hide (M0.out.below HW.out)
      have BS := hide (below_alloc wr (.cells #[.int .i64 m, .string (str p)] 86))
      have MS := hide (MW.out.below BS.out)
      cases hS : S m p with
      | none =>
        have HL := hide (MS.out.no (i := m) (p := p) (by omega) hp hS)
        have BI := hide (below_next BS.out (below_alloc _ (.cells #[.int .i64 0, .slice none 0 0, .string ⟨#[]⟩, .int .i64 0] 91)))
        have HHA := hide (hidesAbove_any b N m p S w0 _ (MW.out.below BI.out) (by omega) hp)
        have hm1 : IntKind.i64.wrap ((m : Int) - 1) = (m : Int) - 1 := by simp [IntKind.wrap, IntKind.signed, IntKind.bits]; omega
        cases hh : (above p).any fun q => (S m q).any fun e => !decide (e.kind = 2)
        · have HN := hide (HV.out.trans (seen_down hS hh))
          rw [hh] at HHA
          clear hh hS
          go_wp2_with (at_lookup; refine wpList_lookS rfl _ _ 83 true rfl _ _ _ rfl rfl HL.out ?_)
          refine HHA.out.mono ?_
          rintro r w2 ⟨rfl, hb2⟩
          have B2 := hide (below_next (below_next HW.out BI.out) hb2)
          clear hb2
          go_wp2_with fail
          go_roundw
          case rel => exact ⟨m, by omega, by first | rfl | go_num, HN, B2⟩
          case measure => simp [intOf] <;> omega
        · have HN := hide (HV.out.trans (seen_hid hS hh))
          rw [hh] at HHA
          clear hh hS
          go_wp2_with (at_lookup; refine wpList_lookS rfl _ _ 83 true rfl _ _ _ rfl rfl HL.out ?_)
          refine HHA.out.mono ?_
          rintro r w2 ⟨rfl, hb2⟩
          have B2 := hide (below_next (below_next HW.out BI.out) hb2)
          obtain ⟨⟨t0, t1⟩, t2, t3⟩ := X0.out.below B2.out
          clear hb2
          go_wp2_with fail
          refine bodyPost_ret (v := .tuple #[.agg #[.int .i64 0, .string ⟨#[]⟩], .bool false]) (by simp [results, Tryz.results41, go_sem, t0, t1]) rfl ?_
          rw [HN.out]
          exact ⟨⟨0, ⟨#[]⟩, rfl⟩, ((below_next B0.out B2.out).setCell (p := ⟨w.heap.size, 0, none⟩) (Nat.le_refl _) _).setCell (p := ⟨w.heap.size, 1, none⟩) (Nat.le_refl _) _⟩
      | some e =>
        obtain ⟨x, cc, hl, -, -⟩ := MS.out.yes (i := m) (p := p) (by omega) hp hS
        have HL := hide hl
        have HN := hide (HV.out.trans (seen_hit hS))
        unfold itV at HL
        clear hl hS
        have BI := hide (below_next BS.out (below_alloc _ (.cells #[.int .i64 e.size, .slice x e.chunks.length cc, .string (str e.path), .int .i64 e.kind] 91)))
        have B2 := hide (below_next B0.out (below_next HW.out BI.out))
        obtain ⟨⟨t0, t1⟩, t2, t3⟩ := (X0.out.below HW.out).below BI.out
        by_cases hk : e.kind = 3
        · rw [if_pos hk] at HN
          have hk' : (e.kind != 3) = false := by simp [hk]
          clear hk
          go_wp2_with (at_lookup; refine wpList_lookS rfl _ _ 83 true rfl _ _ _ rfl rfl HL.out ?_)
          go_region
          all_goals
            go_wp2_with fail
            refine bodyPost_ret (v := .tuple #[.agg #[.int .i64 m, .string (str p)], .bool false]) (by simp [results, Tryz.results41, go_sem, t0, t1]) rfl ?_
            rw [HN.out]
            exact ⟨⟨m, str p, rfl⟩, (B2.out.drew.setCell (p := ⟨w.heap.size, 0, none⟩) (Nat.le_refl _) _).setCell (p := ⟨w.heap.size, 1, none⟩) (Nat.le_refl _) _⟩
        · rw [if_neg hk] at HN
          have hk' : (e.kind != 3) = true := by simpa using hk
          clear hk
          go_wp2_with (at_lookup; refine wpList_lookS rfl _ _ 83 true rfl _ _ _ rfl rfl HL.out ?_)
          go_region
          all_goals
            go_wp2_with fail
            refine bodyPost_ret (v := .tuple #[.agg #[.int .i64 m, .string (str p)], .bool true]) (by simp [results, Tryz.results41, go_sem, t0, t1]) rfl ?_
            rw [HN.out]
            exact ⟨rfl, (B2.out.drew.setCell (p := ⟨w.heap.size, 0, none⟩) (Nat.le_refl _) _).setCell (p := ⟨w.heap.size, 1, none⟩) (Nat.le_refl _) _⟩
end Go.Proofs.YtejipahfodhmjaaGreat

namespace Go.Proofs.YtejipahfodhmjaaGreat
open Go.RowKit Go.Maps
set_option linter.unusedVariables false
attribute [local go_sem ↓] Go.wp_at_zero Go.wp_at_succ

def askL (ls : List (List En)) (p : Bs) : Int := if layersP ls = 0 then faultP p else layersP ls
theorem askL_right {ls : List (List En)} {p : Bs} (h : askL ls p = 0) : ls.length ≤ 4 ∧ (∀ es ∈ ls, Right es) ∧ faultP p = 0 := by
  unfold askL at h
  split at h
  · rename_i h1
    exact ⟨(layersP_zero.1 h1).1, (layersP_zero.1 h1).2, h⟩
  · rename_i h1; exact absurd h h1
set_option maxRecDepth 100000 in
set_option maxHeartbeats 1600000 in
theorem implAskL_any (a : Option Addr) (c n : Nat) (ls : List (List En)) (p : Bs) (w : World) (h : RdL w a ls) (hn : n = ls.length) (hl : ls.length ≤ 1048576) (hs : SmallL ls) (hp : p.length ≤ 1048576) :
    Calls Tryz.prog 39 #[.slice a n c, .string (str p)] w fun r w' => r = .returned (.int .i64 (askL ls p)) ∧ Below w.heap.size w w' := by
  subst hn
  have hsz := str_size p
  have HLF := hide (implLayersFault_any a c ls.length ls w h rfl hl hs)
  have HPF : Hid (∀ w', Calls Tryz.prog 90 #[.string (str p)] w' fun e w2 => e = .returned (.int .i64 (faultP p)) ∧ Below w'.heap.size w' w2) := hide (fun w' => by have h1 := implPathFault_any (str p) w' (by omega); rw [str_data] at h1; exact h1)
  clear h hs
  by_cases hz : layersP ls = 0
  · have HZ := hide (show askL ls p = faultP p by simp [askL, hz])
    rw [hz] at HLF
    clear hz
    generalize askL ls p = V at *
    generalize faultP p = F at *
    go_enter Tryz.func39, Tryz.ntmps39
    go_wp2_with fail
    refine HLF.out.mono ?_
    rintro r w1 ⟨rfl, hb1⟩
    have B1 := hide hb1
    clear hb1
    go_wp2_with fail
    refine (HPF.out w1).mono ?_
    rintro r w2 ⟨rfl, hb2⟩
    have B2 := hide (below_next B1.out hb2)
    clear hb2
    go_wp2_with fail
    go_ret
    exact ⟨by rw [HZ.out]; rfl, B2.out⟩
  · have HZ := hide (show askL ls p = layersP ls by simp [askL, hz])
    generalize askL ls p = V at *
    generalize layersP ls = F at *
    have hz2 : (F != 0) = true := by simp; exact hz
    clear hz
    go_enter Tryz.func39, Tryz.ntmps39
    go_wp2_with fail
    refine HLF.out.mono ?_
    rintro r w1 ⟨rfl, hb1⟩
    have B1 := hide hb1
    clear hb1
    go_wp2_with fail
    go_ret
    exact ⟨by rw [HZ.out]; rfl, B1.out⟩
set_option maxRecDepth 100000 in
set_option maxHeartbeats 1600000 in
theorem ofTree_any (e : En) (x : Option Addr) (cc : Nat) (w : World) (hk : e.kind = 1 ∨ e.kind = 2 ∨ e.kind = 3 ∨ e.kind = 4) :
    Calls Tryz.prog 43 #[itV e x cc] w fun r w' => r = .returned (itV (asT e) x cc) ∧ Below w.heap.size w w' := by
  unfold itV
  have B0 := hide (below_next (below_alloc w (.cells #[.int .i64 e.size, .slice x e.chunks.length cc, .string (str e.path), .int .i64 e.kind] 91)) (below_alloc _ (.cells #[.int .i64 0, .slice none 0 0, .string ⟨#[]⟩, .int .i64 0] 91)))
  have F0 := hide ((Box4.new w (.int .i64 e.size) (.slice x e.chunks.length cc) (.string (str e.path)) (.int .i64 e.kind) 91).below (below_alloc _ (.cells #[.int .i64 0, .slice none 0 0, .string ⟨#[]⟩, .int .i64 0] 91)))
  have G0 := hide (Box4.new (w.alloc (.cells #[.int .i64 e.size, .slice x e.chunks.length cc, .string (str e.path), .int .i64 e.kind] 91)) (.int .i64 0) (.slice none 0 0) (.string ⟨#[]⟩) (.int .i64 0) 91)
  have hsz : (w.alloc (.cells #[.int .i64 e.size, .slice x e.chunks.length cc, .string (str e.path), .int .i64 e.kind] 91)).heap.size = w.heap.size + 1 := by simp
  rw [hsz] at G0
  have HT := hide (show dirK e.kind = true → asT e = { e with kind := 2 } from fun hd => by
    rcases hk with h | h | h | h <;> rw [h] at hd <;> simp [dirK] at hd
    · cases e; simp at h; subst h; simp [asT]
    · simp [asT, h, kindE])
  have HT2 := hide (show dirK e.kind = false → asT e = e from fun hd => by
    rcases hk with h | h | h | h <;> rw [h] at hd <;> simp [dirK] at hd
    · simp [asT, h]
    · simp [asT, h])
  clear hsz hk
  obtain ⟨⟨f0, f1, f2, f3⟩, -⟩ := F0.out
  go_enter Tryz.func43, Tryz.ntmps43
  go_wp2_with fail
  generalize (w.alloc (.cells #[.int .i64 e.size, .slice x e.chunks.length cc, .string (str e.path), .int .i64 e.kind] 91)).alloc (.cells #[.int .i64 0, .slice none 0 0, .string ⟨#[]⟩, .int .i64 0] 91) = W0 at *
  refine (isDir_any _ _ _ _ _ _ _).mono ?_
  rintro r w1 ⟨rfl, hb1⟩
  have B1 := hide (below_next B0.out hb1)
  clear f0 f1 f2 f3
  obtain ⟨⟨f0, f1, f2, f3⟩, ff⟩ := F0.out.below hb1
  obtain ⟨⟨g0, g1, g2, g3⟩, gf⟩ := G0.out.below hb1
  have ff3 := ff 3
  have gf0 := gf 0
  have gf1 := gf 1
  have gf2 := gf 2
  have gf3 := gf 3
  clear hb1 ff gf
  have BF := hide (show ∀ y0 y1 y2 y3 : Value, ∀ W : World, Below w.heap.size w W → Below w.heap.size w ((((W.setCell ⟨w.heap.size + 1, 0, none⟩ y0).setCell ⟨w.heap.size + 1, 1, none⟩ y1).setCell ⟨w.heap.size + 1, 2, none⟩ y2).setCell ⟨w.heap.size + 1, 3, none⟩ y3) from fun y0 y1 y2 y3 W hb => (((hb.setCell (p := ⟨w.heap.size + 1, 0, none⟩) (by simp) y0).setCell (p := ⟨w.heap.size + 1, 1, none⟩) (by simp) y1).setCell (p := ⟨w.heap.size + 1, 2, none⟩) (by simp) y2).setCell (p := ⟨w.heap.size + 1, 3, none⟩) (by simp) y3)
  cases hd : dirK e.kind
  · have HE := hide (HT2.out hd)
    clear hd HT HT2
    go_wp2_with fail
    refine bodyPost_ret (v := .agg #[.int .i64 e.size, .slice x e.chunks.length cc, .string (str e.path), .int .i64 e.kind]) (by simp [results, Tryz.results43, go_sem, g0, g1, g2, g3]) rfl ⟨by rw [HE.out], ?_⟩
    exact BF.out _ _ _ _ _ B1.out
  · have HE := hide (HT.out hd)
    clear hd HT HT2
    go_wp2_with fail
    refine bodyPost_ret (v := .agg #[.int .i64 e.size, .slice x e.chunks.length cc, .string (str e.path), .int .i64 2]) (by simp [results, Tryz.results43, go_sem, g0, g1, g2, g3]) rfl ⟨by rw [HE.out], ?_⟩
    exact BF.out _ _ _ _ _ (B1.out.setCell (p := ⟨w.heap.size, 3, none⟩) (Nat.le_refl _) _)
end Go.Proofs.YtejipahfodhmjaaGreat

namespace Go.Proofs.YtejipahfodhmjaaGreat
open Go.RowKit Go.Maps
set_option linter.unusedVariables false
attribute [local go_sem ↓] Go.wp_at_zero Go.wp_at_succ

def seenL (ls : List (List En)) (p : Bs) : Option Nat := seenG (seeL ls) p 4
theorem seen_some {S : Nat → Bs → Option En} {p : Bs} : ∀ {n k : Nat}, seenG S p n = some k → k < n ∧ ∃ e, S k p = some e ∧ e.kind ≠ 3
  | 0, k, h => by cases h
  | n + 1, k, h => by
    cases hS : S n p with
    | some e =>
      rw [seen_hit hS] at h
      by_cases hk : e.kind = 3
      · rw [if_pos hk] at h; cases h
      · rw [if_neg hk] at h
        cases h
        exact ⟨by omega, e, hS, hk⟩
    | none =>
      cases hh : (above p).any fun q => (S n q).any fun e => !decide (e.kind = 2)
      · rw [seen_down hS hh] at h
        obtain ⟨h1, h2⟩ := seen_some h
        exact ⟨by omega, h2⟩
      · rw [seen_hid hS hh] at h; cases h
def plcC (ls : List (List En)) (p : Bs) : Int := if askL ls p = 0 then (if (seenL ls p).isSome then 0 else 4) else askL ls p
def plcV (ls : List (List En)) (p : Bs) : Int := if askL ls p = 0 then (match seenL ls p with | some n => (n : Int) | none => 0) else 0
def lookL (ls : List (List En)) (p : Bs) : List En := if askL ls p = 0 then (match seenL ls p with | some n => ((seeL ls n p).map asT).toList | none => []) else []
theorem plc_bad {ls : List (List En)} {p : Bs} (h : askL ls p ≠ 0) : plcC ls p = askL ls p ∧ plcV ls p = 0 ∧ lookL ls p = [] := by simp [plcC, plcV, lookL, h]
theorem plc_none {ls : List (List En)} {p : Bs} (h : askL ls p = 0) (hn : seenL ls p = none) : plcC ls p = 4 ∧ plcV ls p = 0 ∧ lookL ls p = [] := by simp [plcC, plcV, lookL, h, hn]
theorem plc_some {ls : List (List En)} {p : Bs} {n : Nat} {e : En} (h : askL ls p = 0) (hn : seenL ls p = some n) (he : seeL ls n p = some e) : plcC ls p = 0 ∧ plcV ls p = n ∧ lookL ls p = [asT e] := by simp [plcC, plcV, lookL, h, hn, he]
theorem seeL_mem {ls : List (List En)} {n : Nat} {p : Bs} {e : En} (h : seeL ls n p = some e) : ∃ es ∈ ls, e ∈ es ∧ e.path = p := by
  unfold seeL at h
  cases hx : ls[n]? with
  | none => rw [hx] at h; cases h
  | some es =>
    rw [hx] at h
    obtain ⟨h1, h2⟩ := find_mem (show findE es p = some e from h)
    exact ⟨es, List.mem_of_getElem? hx, h1, h2⟩
theorem rights_sight {ls : List (List En)} (h : ∀ es ∈ ls, Right es) (hs : SmallL ls) : ∀ es ∈ ls, Rise es ∧ es.length ≤ 12 ∧ SmallE es := fun es he => ⟨(h es he).rise, (h es he).len, (hs es he).2⟩

end Go.Proofs.YtejipahfodhmjaaGreat

namespace Go.Proofs.YtejipahfodhmjaaGreat
set_option linter.unusedVariables false

theorem up_hid {L : List En} (h : Fit L) {q : Bs} (hq : faultP q = 0) : ((above q).any fun u => (findE L u).any fun e => !decide (e.kind = 2)) = hid L q := by
  rw [Bool.eq_iff_iff, hid_iff, List.any_eq_true]
  constructor
  · rintro ⟨u, hu, hr⟩
    cases hf : findE L u with
    | none => rw [hf] at hr; cases hr
    | some e =>
      rw [hf] at hr
      obtain ⟨he, rfl⟩ := find_mem hf
      have hb : isBelow q e.path = true := by simpa [isBelow] using hu
      rw [isBelow_good hq] at hb
      exact ⟨e, he, by simpa using hr, (of_decide_eq_true hb).2⟩
  · rintro ⟨e, he, hk, hb⟩
    refine ⟨e.path, ?_, by rw [rise_find h.rise he]; simpa using hk⟩
    have hb : isBelow q e.path = true := by rw [isBelow_good hq]; exact decide_eq_true ⟨h.path he, hb⟩
    simpa [isBelow] using hb

def allE (ls : List (List En)) : List En := ls.foldl mergeE []
theorem allE_snoc (D : List (List En)) (L : List En) : allE (D ++ [L]) = mergeE (allE D) L := by simp [allE, List.foldl_append]
def sawN (ls : List (List En)) (q : Bs) (n : Nat) : Option En := (seenG (seeL ls) q n).bind fun k => (seeL ls k q).map asT
theorem all_view {ls : List (List En)} (h : ∀ es ∈ ls, Fit es) : ∀ n, n ≤ ls.length → FitT (allE (ls.take n)) ∧ ∀ q, faultP q = 0 → findE (allE (ls.take n)) q = sawN ls q n
  | 0, _ => ⟨by simpa [allE] using fitT_nil, fun q _ => by simp [allE, sawN, seenG, findE]⟩
  | n + 1, hn => by
    obtain ⟨ih1, ih2⟩ := all_view h n (by omega)
    have hL : ls[n]? = some (ls[n]'(by omega)) := List.getElem?_eq_getElem (by omega)
    have hm := List.mem_of_getElem? hL
    generalize ls[n]'(by omega) = L at *
    have ht : ls.take (n + 1) = ls.take n ++ [L] := by rw [List.take_add_one, hL]; rfl
    rw [ht, allE_snoc]
    have hF := h L hm
    refine ⟨merge_fit ih1 hF, fun q hq => ?_⟩
    rw [merge_find ih1 hF]
    have hS : ∀ u, seeL ls n u = findE L u := fun u => by simp [seeL, hL]
    unfold sawN
    cases hf : findE L q with
    | some e =>
      rw [seeT_some hf, seen_hit (by rw [hS]; exact hf)]
      by_cases h3 : e.kind = 3
      · simp [h3]
      · simp [h3, hS, hf]
    | none =>
      rw [seeT_none hf]
      have hu := up_hid hF hq
      cases hh : hid L q
      · rw [seen_down (by rw [hS]; exact hf) (by simp only [hS]; rw [hu, hh]), if_neg (by simp), ih2 q hq]
        rfl
      · rw [seen_hid (by rw [hS]; exact hf) (by simp only [hS]; rw [hu, hh])]
        simp
theorem seen_over {ls : List (List En)} {q : Bs} : ∀ {n : Nat}, ls.length ≤ n → seenG (seeL ls) q n = seenG (seeL ls) q ls.length
  | 0, h => by rw [Nat.le_zero.1 h]
  | n + 1, h => by
    by_cases h1 : ls.length = n + 1
    · rw [h1]
    · have hS : ∀ u, seeL ls n u = none := fun u => by
        have : ls[n]? = none := List.getElem?_eq_none (by omega)
        simp [seeL, this]
      rw [seen_down (hS q) (by rw [List.any_eq_false]; intro u _; rw [hS u]; simp)]
      exact seen_over (by omega)
def sawE (ls : List (List En)) (q : Bs) : Option En := (seenL ls q).bind fun k => (seeL ls k q).map asT
theorem all_fit {ls : List (List En)} (h : ∀ es ∈ ls, Fit es) : FitT (allE ls) := by
  have := (all_view h ls.length (Nat.le_refl _)).1
  rwa [List.take_length] at this
theorem all_find {ls : List (List En)} (h : ∀ es ∈ ls, Fit es) (h4 : ls.length ≤ 4) {q : Bs} (hq : faultP q = 0) : findE (allE ls) q = sawE ls q := by
  have := (all_view h ls.length (Nat.le_refl _)).2 q hq
  rw [List.take_length] at this
  rw [this]
  unfold sawN sawE seenL
  rw [seen_over h4]
theorem rights_fit {ls : List (List En)} (h : ∀ es ∈ ls, Right es) : ∀ es ∈ ls, Fit es := fun es he => (right_fit.1 (h es he)).1
theorem look_all {ls : List (List En)} {p : Bs} (h : askL ls p = 0) : plcC ls p = (if (findE (allE ls) p).isSome then 0 else 4) ∧ lookL ls p = (findE (allE ls) p).toList := by
  obtain ⟨h4, hR, hp⟩ := askL_right h
  rw [all_find (rights_fit hR) h4 hp]
  cases hs : seenL ls p with
  | none =>
    obtain ⟨h1, -, h2⟩ := plc_none h hs
    rw [h1, h2]; simp [sawE, hs]
  | some k =>
    obtain ⟨-, e, he, -⟩ := seen_some (show seenG (seeL ls) p 4 = some k from hs)
    obtain ⟨h1, -, h2⟩ := plc_some h hs he
    rw [h1, h2]; simp [sawE, hs, he]
end Go.Proofs.YtejipahfodhmjaaGreat

namespace Go.Proofs.YtejipahfodhmjaaGreat
open Go.RowKit Go.Maps
set_option linter.unusedVariables false

def ResN (q : Int) (ns : List Bs) (w : World) (r : Ending) (w' : World) : Prop :=
  ∃ av cv, r = .returned (.agg #[.int .i64 q, .slice av ns.length cv]) ∧ OwnS w.heap.size w' (.slice av ns.length cv) ns ∧ Below w.heap.size w w'
theorem ResN.bad {q : Int} {w w3 : World} {b : Nat} {u v : Value} (hw : w.heap.size ≤ b) (hb : Below w.heap.size w w3) :
    ResN q [] w (.returned (.agg #[.int .i64 q, .slice none 0 0])) ((w3.setCell ⟨b, 0, none⟩ u).setCell ⟨b, 1, none⟩ v) :=
  ⟨none, 0, rfl, OwnS.nil _ _, (hb.setCell hw _).setCell hw _⟩
end Go.Proofs.YtejipahfodhmjaaGreat

