/-
  Texts put together: TreR EntH TreN TreC TreD SeeS SeeT EntY EntT.
-/
import Derived.Test.YtebgfaohhhgdpaaGreatKMounts5
import Derived.Test.YtebgfaohhhgdpaaGreatKMounts1
import Derived.Test.YtebgfaohhhgdpaaGreatKMounts11
import Derived.Test.YtebgfaohhhgdpaaGreatKMounts6
import Derived.Test.YtebgfaohhhgdpaaGreatKMounts4
import Derived.Test.YtebgfaohhhgdpaaGreatKMounts10
namespace Go.Proofs.YtebgfaohhhgdpaaGreat
open Go.RowKit Go.Maps
set_option linter.unusedVariables false

def Box3 (w : World) (b : Nat) (u0 u1 u2 : Value) : Prop := (w.cell? ⟨b, 0, none⟩ = some u0 ∧ w.cell? ⟨b, 1, none⟩ = some u1 ∧ w.cell? ⟨b, 2, none⟩ = some u2) ∧ w.frozen? ⟨b, 0, none⟩ = false ∧ w.frozen? ⟨b, 1, none⟩ = false ∧ w.frozen? ⟨b, 2, none⟩ = false
theorem Box3.new (w : World) (u0 u1 u2 : Value) (t : TypeId) : Box3 (w.alloc (.cells #[u0, u1, u2] t)) w.heap.size u0 u1 u2 := ⟨⟨by simp, by simp, by simp⟩, by simp, by simp, by simp⟩
theorem Box3.lt {w : World} {b : Nat} {u0 u1 u2 : Value} (h : Box3 w b u0 u1 u2) : b < w.heap.size := World.block_lt_of_cell? w ⟨b, 0, none⟩ h.1.1
theorem Box3.kept {S : Nat → Prop} {w w' : World} {b : Nat} {u0 u1 u2 : Value} (h : Box3 w b u0 u1 u2) (hk : Kept S w w') (hn : ¬ S b) : Box3 w' b u0 u1 u2 :=
  ⟨⟨(hk.cell (p := ⟨b, 0, none⟩) h.lt hn).trans h.1.1, (hk.cell (p := ⟨b, 1, none⟩) h.lt hn).trans h.1.2.1, (hk.cell (p := ⟨b, 2, none⟩) h.lt hn).trans h.1.2.2⟩, (hk.frozen (p := ⟨b, 0, none⟩) h.lt hn).trans h.2.1, (hk.frozen (p := ⟨b, 1, none⟩) h.lt hn).trans h.2.2.1, (hk.frozen (p := ⟨b, 2, none⟩) h.lt hn).trans h.2.2.2⟩
theorem Box3.below {w w' : World} {b : Nat} {u0 u1 u2 : Value} (h : Box3 w b u0 u1 u2) (hk : Below w.heap.size w w') : Box3 w' b u0 u1 u2 := h.kept (S := fun _ => False) (Kept.of_below hk) id
theorem Kept.three (w : World) (b : Nat) (u0 u1 u2 : Value) : Kept (fun x => x = b) w (((w.setCell ⟨b, 0, none⟩ u0).setCell ⟨b, 1, none⟩ u1).setCell ⟨b, 2, none⟩ u2) :=
  Kept.setCell (S := fun x => x = b) (p := ⟨b, 2, none⟩) (Kept.two w b 0 1 u0 u1) (fun _ => rfl) u2
def ResT (q rep : Int) (es : List En) (w : World) (r : Ending) (w' : World) : Prop :=
  ∃ av cv, r = .returned (.agg #[.int .i64 q, .int .i64 rep, .slice av es.length cv]) ∧ GE w.heap.size w'.heap.size w' (.slice av es.length cv) es ∧ Below w.heap.size w w'
theorem ResT.of {q rep : Int} {es : List En} {w w3 : World} {B b n : Nat} {av : Option Addr} {cv : Nat} {u0 u1 u2 : Value} (hB : b < B) (hw : w.heap.size ≤ b) (hn : n = es.length) (hG : GE B w3.heap.size w3 (.slice av n cv) es) (hb : Below w.heap.size w w3) :
    ResT q rep es w (.returned (.agg #[.int .i64 q, .int .i64 rep, .slice av n cv])) (((w3.setCell ⟨b, 0, none⟩ u0).setCell ⟨b, 1, none⟩ u1).setCell ⟨b, 2, none⟩ u2) := by
  subst hn
  refine ⟨av, cv, rfl, ?_, ((hb.setCell hw _).setCell hw _).setCell hw _⟩
  have hs : (((w3.setCell ⟨b, 0, none⟩ u0).setCell ⟨b, 1, none⟩ u1).setCell ⟨b, 2, none⟩ u2).heap.size = w3.heap.size := by simp [World.setCell]
  rw [hs]
  exact (hG.kept (Kept.three w3 b u0 u1 u2) (fun x h1 _ h2 => by omega)).mono (by omega)
theorem ResT.bad {q rep : Int} {w w3 : World} {b : Nat} {u0 u1 u2 : Value} (hw : w.heap.size ≤ b) (hb : Below w.heap.size w w3) :
    ResT q rep [] w (.returned (.agg #[.int .i64 q, .int .i64 rep, .slice none 0 0])) (((w3.setCell ⟨b, 0, none⟩ u0).setCell ⟨b, 1, none⟩ u1).setCell ⟨b, 2, none⟩ u2) :=
  ⟨none, 0, rfl, GE.nil _ _ _, ((hb.setCell hw _).setCell hw _).setCell hw _⟩
def ResN (q : Int) (ns : List Bs) (w : World) (r : Ending) (w' : World) : Prop :=
  ∃ av cv, r = .returned (.agg #[.int .i64 q, .slice av ns.length cv]) ∧ OwnS w.heap.size w' (.slice av ns.length cv) ns ∧ Below w.heap.size w w'
theorem ResN.of {q : Int} {ns : List Bs} {w w3 : World} {B b n : Nat} {av : Option Addr} {cv : Nat} {u v : Value} (hB : b < B) (hw : w.heap.size ≤ b) (hn : n = ns.length) (hG : OwnS B w3 (.slice av n cv) ns) (hb : Below w.heap.size w w3) :
    ResN q ns w (.returned (.agg #[.int .i64 q, .slice av n cv])) ((w3.setCell ⟨b, 0, none⟩ u).setCell ⟨b, 1, none⟩ v) := by
  subst hn
  exact ⟨av, cv, rfl, (hG.kept (Kept.two w3 b 0 1 u v) (fun x h1 h2 => by have := (hG.lt x h1).1; omega)).mono (by omega), (hb.setCell hw _).setCell hw _⟩
theorem ResN.bad {q : Int} {w w3 : World} {b : Nat} {u v : Value} (hw : w.heap.size ≤ b) (hb : Below w.heap.size w w3) :
    ResN q [] w (.returned (.agg #[.int .i64 q, .slice none 0 0])) ((w3.setCell ⟨b, 0, none⟩ u).setCell ⟨b, 1, none⟩ v) :=
  ⟨none, 0, rfl, OwnS.nil _ _, (hb.setCell hw _).setCell hw _⟩
end Go.Proofs.YtebgfaohhhgdpaaGreat

namespace Go.Proofs.YtebgfaohhhgdpaaGreat
open Go.RowKit Go.Maps
set_option linter.unusedVariables false

theorem entFault_chunks {e : En} (h : entFault e = 0) : e.chunks.length ≤ 3 := by
  have hp := entFault_zero h
  cases h1 : formE e
  · rw [entFault_form hp h1] at h; omega
  · cases h2 : sizeE e
    · rw [entFault_size hp h1 h2] at h; omega
    · cases h3 : manyE e
      · rw [entFault_many hp h1 h2 h3] at h; omega
      · have h2' : 0 ≤ e.size ∧ e.size ≤ 24 := by simpa [sizeE] using h2
        have h3' : (e.chunks.length : Int) = (e.size + 7) / 8 := by simpa [manyE] using h3
        omega
end Go.Proofs.YtebgfaohhhgdpaaGreat

namespace Go.Proofs.YtebgfaohhhgdpaaGreat
open Go.RowKit Go.Maps
set_option linter.unusedVariables false
attribute [local go_sem ↓] Go.wp_at_zero Go.wp_at_succ

theorem RightT.small {es : List En} (h : RightT es) : SmallE es := fun e he => by
  obtain ⟨ns, hN, hpe, _, _⟩ := faultP_zero (h.path he)
  have h1 := join_len ns hN.2.2.1
  have h2 := hN.2.2.2
  have h3 := entFault_chunks (h.ent e he)
  rw [hpe]
  omega
def lastP (p : Bs) : Bs := lastN (cutB p.tail)
def namesE (es : List En) (q : Bs) : List Bs := (kidsE es q).map fun e => lastP e.path
end Go.Proofs.YtebgfaohhhgdpaaGreat

namespace Go.Proofs.YtebgfaohhhgdpaaGreat
open Go.RowKit Go.Maps
set_option linter.unusedVariables false
attribute [local go_sem ↓] Go.wp_at_zero Go.wp_at_succ

theorem treP_many {es : List En} (h : 40 < es.length) : treFaultP es = 2 := by simp [treFaultP, h]
theorem treP_kind {es : List En} (h : ¬ 40 < es.length) (hk : (es.any fun e => !treeK e.kind) = true) : treFaultP es = 1 := by
  have : es.all (fun e => treeK e.kind) = false := by
    rw [List.all_eq_false]
    obtain ⟨e, he, h1⟩ := List.any_eq_true.1 hk
    exact ⟨e, he, by simpa using h1⟩
  simp [treFaultP, h, this]
theorem treP_few {es : List En} (h : ¬ 40 < es.length) (hk : (es.any fun e => !treeK e.kind) = false) : treFaultP es = layFromH (homeP es) none es := by
  have : es.all (fun e => treeK e.kind) = true := by
    rw [List.all_eq_true]
    intro e he
    have := List.any_eq_false.1 hk e he
    simpa using this
  rw [treFaultP, if_neg h, this, if_pos rfl]
set_option maxRecDepth 100000 in
set_option maxHeartbeats 800000 in
theorem implTreeFault_any (a : Option Addr) (c n : Nat) (es : List En) (w : World) (h : RdE w a es) (hn : n = es.length) (hl : es.length ≤ 1048576) (hs : SmallE es) :
    Calls Tryz.prog 94 #[.slice a n c] w fun r w' => r = .returned (.int .i64 (treFaultP es)) ∧ Below w.heap.size w w' := by
  subst hn
  by_cases hm : 40 < es.length
  · have HE := hide (treP_many hm)
    have hm2 : (40 : Int) < (es.length : Int) := by omega
    go_enter Tryz.func94, Tryz.ntmps94
    go_wp2_with fail
    go_ret
    exact ⟨ret_int HE.out.symm, Below.refl _ _⟩
  · have hm2 : ¬ (40 : Int) < (es.length : Int) := by omega
    have HK := hide (treP_kind (es := es) hm)
    have HE := hide (treP_few (es := es) hm)
    have HR := hide h
    have HS := hide hs
    clear h hs
    generalize treFaultP es = F at *
    go_enter Tryz.func94, Tryz.ntmps94
    go_wp2_with fail
    refine (treeOf_any a c es.length es _ HR.out rfl hl).mono ?_
    rintro r w1 ⟨av, cv, rfl, hL, hb1⟩
    have RI := hide (hL.rd hb1)
    have B1 := hide hb1
    clear hL hb1
    go_wp2_with fail
    refine (hasI_any av cv es.length es _ _ _ _ RI.out rfl hl HS.out (noTree_asks w1)).mono ?_
    rintro r w2 ⟨rfl, hb2⟩
    have B2 := hide (below_next B1.out hb2)
    clear hb2
    cases hk : es.any fun e => !treeK e.kind
    · have HF := hide (HE.out hk)
      clear hk
      go_wp2_with fail
      refine (entriesFault_any a c es.length es _ (HR.out.below B2.out) rfl hl HS.out).mono ?_
      rintro r w3 ⟨rfl, hb3⟩
      rw [← HF.out]
      have B3 := hide (below_next B2.out hb3)
      clear hb3
      go_wp2_with fail
      go_ret
      exact ⟨rfl, B3.out⟩
    · have HF := hide (HK.out hk)
      clear hk
      go_wp2_with fail
      go_ret
      exact ⟨ret_int HF.out.symm, B2.out⟩

def askT (es : List En) (p : Bs) : Int := if treFaultP es = 0 then faultP p else treFaultP es
set_option maxRecDepth 100000 in
set_option maxHeartbeats 800000 in
theorem implAskT_any (a : Option Addr) (c n : Nat) (es : List En) (p : Bs) (w : World) (h : RdE w a es) (hn : n = es.length) (hl : es.length ≤ 1048576) (hs : SmallE es) (hp : p.length ≤ 1048576) :
    Calls Tryz.prog 44 #[.slice a n c, .string (str p)] w fun r w' => r = .returned (.int .i64 (askT es p)) ∧ Below w.heap.size w w' := by
  subst hn
  have HR := hide h
  have HS := hide hs
  clear h hs
  have HA := hide (show askT es p = if treFaultP es = 0 then faultP p else treFaultP es from rfl)
  have HT := hide (implTreeFault_any a c es.length es w HR.out rfl hl HS.out)
  generalize askT es p = G at *
  generalize treFaultP es = F at *
  go_enter Tryz.func44, Tryz.ntmps44
  go_wp2_with fail
  refine HT.out.mono ?_
  rintro r w1 ⟨rfl, hb1⟩
  have B1 := hide hb1
  clear hb1 HT
  by_cases hz : F = 0
  · have HG := hide (show G = faultP p from by rw [HA.out, if_pos hz])
    rw [hz]
    clear hz HA
    go_wp2_with fail
    refine (implPathFault_any (str p) _ (by rw [str_size]; omega)).mono ?_
    rintro r w2 ⟨rfl, hb2⟩
    rw [str_data, ← HG.out]
    have B2 := hide (below_next B1.out hb2)
    clear hb2
    go_wp2_with fail
    go_ret
    exact ⟨rfl, B2.out⟩
  · have HG := hide (show G = F from by rw [HA.out, if_neg hz])
    have hz2 : (F != 0) = true := by simp; exact hz
    clear hz HA
    go_wp2_with fail
    go_ret
    exact ⟨ret_int HG.out.symm, B1.out⟩

end Go.Proofs.YtebgfaohhhgdpaaGreat

namespace Go.Proofs.YtebgfaohhhgdpaaGreat
open Go.RowKit Go.Maps
set_option linter.unusedVariables false
attribute [local go_sem ↓] Go.wp_at_zero Go.wp_at_succ

theorem parT_right {p : Bs} (h : faultP p = 0) : parT p = parentP p := by unfold parT above parentP; rw [if_pos h]
theorem parC_right {p : Bs} (h : faultP p = 0) : parC p = if parentP p = [] then 4 else 0 := by
  unfold parC
  rw [if_pos h]
  unfold above
  rw [if_pos h]
  by_cases h0 : parentP p = []
  · rw [if_pos h0, if_pos (parentP_nil.1 h0)]
  · rw [if_neg h0, if_neg (fun e => h0 (parentP_nil.2 e))]
theorem lastT_right {p : Bs} (h : faultP p = 0) : lastT p = lastP p := by unfold lastT lastP; simp [h]
def topQ (p : Bs) : Bs := if p = [47] then [] else p
theorem fault_top : faultP [47] ≠ 0 := by decide
theorem inP_right {p : Bs} {e : En} (hp : p = [47] ∨ faultP p = 0) (he : faultP e.path = 0) : inP p e = decide (parentP e.path = topQ p) := by
  unfold inP topQ
  rw [parC_right he, parT_right he]
  by_cases h0 : parentP e.path = []
  · rw [if_pos h0, if_pos rfl, h0]
    by_cases h1 : p = [47]
    · simp [h1]
    · have h2 : p ≠ [] := by
        rintro rfl
        rcases hp with hp | hp
        · exact h1 hp
        · exact faultP_nil hp
      simp [h1, Ne.symm h2]
  · rw [if_neg h0, if_neg (by decide)]
    by_cases h1 : p = [47]
    · have h3 := (parent_above he h0).1
      have h4 : parentP e.path ≠ [47] := fun e => fault_top (e ▸ h3)
      simp [h1, h0, h4]
    · simp [h1]
theorem filter_kids {es : List En} {p : Bs} (h : RightT es) (hp : p = [47] ∨ faultP p = 0) : es.filter (inP p) = kidsE es (topQ p) := by
  unfold kidsE
  apply List.filter_congr
  intro x hx
  exact inP_right hp (h.path hx)
theorem any_kids {es : List En} {p : Bs} (h : RightT es) (hp : faultP p = 0) : es.any (inP p) = !decide (kidsE es p = []) := by
  have e1 := filter_kids h (.inr hp)
  have e2 : topQ p = p := by unfold topQ; rw [if_neg (fun e : p = [47] => fault_top (e ▸ hp))]
  rw [e2] at e1
  rw [← e1]
  cases hq : es.any (inP p)
  · have : es.filter (inP p) = [] := by
      rw [List.filter_eq_nil_iff]
      exact fun x hx => List.any_eq_false.1 hq x hx
    simp [this]
  · obtain ⟨x, hx, hf⟩ := List.any_eq_true.1 hq
    have : es.filter (inP p) ≠ [] := fun e => by
      have := List.mem_filter.2 ⟨hx, hf⟩
      rw [e] at this; simp at this
    simp [this]
theorem any_find {es : List En} {p : Bs} : (es.any fun e => decide (e.path = p)) = (findE es p).isSome := by
  unfold findE
  cases hq : es.any fun e => decide (e.path = p)
  · rw [List.find?_eq_none.2 (fun x hx => List.any_eq_false.1 hq x hx)]
    rfl
  · obtain ⟨x, hx, hf⟩ := List.any_eq_true.1 hq
    cases hf2 : es.find? fun e => decide (e.path = p) with
    | none => exact absurd hf (List.find?_eq_none.1 hf2 x hx)
    | some y => rfl

theorem remove_cases {es : List En} {p : Bs} (h : RightT es) (hp : faultP p = 0) : removeC es p = if (es.any fun e => decide (e.path = p)) then (if es.any (inP p) then 1 else 0) else 4 := by
  unfold removeC
  rw [any_find, any_kids h hp]
  cases findE es p with
  | none => simp
  | some e => by_cases hk : kidsE es p = [] <;> simp [hk]
set_option maxRecDepth 100000 in
set_option maxHeartbeats 1600000 in
theorem removeReply_any (a : Option Addr) (c n : Nat) (es : List En) (p : Bs) (w : World) (h : RdI w a es) (hn : n = es.length) (hR : RightT es) (hp : faultP p = 0) :
    Calls Tryz.prog 51 #[.slice a n c, .string (str p)] w fun r w' => r = .returned (.int .i64 (removeC es p)) ∧ Below w.heap.size w w' := by
  subst hn
  have HR := hide h
  have HS := hide hR.small
  have hl : es.length ≤ 1048576 := by have := hR.len; omega
  have HC := hide (remove_cases hR hp)
  clear h hR hp
  generalize removeC es p = G at *
  go_enter Tryz.func51, Tryz.ntmps51
  go_wp2_with fail
  refine (isAt_any p _).mono ?_
  rintro r w1 ⟨rfl, hb1, hA⟩
  have HA := hide hA
  have B1 := hide hb1
  clear hA hb1
  go_wp2_with fail
  refine (hasI_any a c es.length es _ _ _ _ (HR.out.below B1.out) rfl hl HS.out HA.out).mono ?_
  rintro r w2 ⟨rfl, hb2⟩
  have B2 := hide (below_next B1.out hb2)
  clear hb2 HA B1
  cases hq : es.any fun e => decide (e.path = p)
  · have HG := hide (show G = 4 from by rw [HC.out, hq]; rfl)
    clear hq
    go_wp2_with fail
    go_ret
    exact ⟨ret_int HG.out.symm, B2.out⟩
  · rw [hq] at HC
    clear hq
    go_wp2_with fail
    refine (isIn_any p _).mono ?_
    rintro r w3 ⟨rfl, hb3, hA⟩
    have HA := hide hA
    have B3 := hide (below_next B2.out hb3)
    clear hA hb3
    go_wp2_with fail
    refine (hasI_any a c es.length es _ _ _ _ (HR.out.below B3.out) rfl hl HS.out HA.out).mono ?_
    rintro r w4 ⟨rfl, hb4⟩
    have B4 := hide (below_next B3.out hb4)
    clear hb4 HA B3 B2
    cases hq : es.any (inP p)
    · have HG := hide (show G = 0 from by rw [HC.out, hq]; rfl)
      clear hq
      go_wp2_with fail
      go_ret
      exact ⟨ret_int HG.out.symm, B4.out⟩
    · have HG := hide (show G = 1 from by rw [HC.out, hq]; rfl)
      clear hq
      go_wp2_with fail
      go_ret
      exact ⟨ret_int HG.out.symm, B4.out⟩

def remRep (es : List En) (p : Bs) : Int := if askT es p = 0 then removeC es p else 0
def remList (es : List En) (p : Bs) : List En := if askT es p = 0 then removeL es p else []
theorem ask_tree {es : List En} {p : Bs} (h : askT es p = 0) : RightT es ∧ faultP p = 0 := by
  unfold askT at h
  by_cases h1 : treFaultP es = 0
  · rw [if_pos h1] at h
    exact ⟨rightT_P.1 h1, h⟩
  · rw [if_neg h1] at h; exact absurd h h1
set_option maxRecDepth 100000 in
set_option maxHeartbeats 1600000 in
theorem implRemoveTree_any (a : Option Addr) (c n : Nat) (es : List En) (p : Bs) (w : World) (h : RdE w a es) (hn : n = es.length) (hl : es.length ≤ 1048576) (hs : SmallE es) (hp : p.length ≤ 1048576) :
    Calls Tryz.prog 17 #[.slice a n c, .string (str p)] w (ResT (askT es p) (remRep es p) (remList es p) w) := by
  subst hn
  have X0 := hide (Box3.new w (.int .i64 0) (.int .i64 0) (.slice none 0 0) 29)
  have B0 := hide (below_alloc w (.cells #[.int .i64 0, .int .i64 0, .slice none 0 0] 29))
  have HR := hide h
  have HS := hide hs
  clear h hs
  go_enter Tryz.func17, Tryz.ntmps17
  go_wp2_with fail
  refine (implAskT_any a c es.length es p _ (HR.out.below B0.out) rfl hl HS.out hp).mono ?_
  rintro r w1 ⟨rfl, hb1⟩
  have B1 := hide (below_next B0.out hb1)
  have X1 := hide (X0.out.below hb1)
  clear hb1 X0 B0
  by_cases hz : askT es p = 0
  · obtain ⟨hRT, hpf⟩ := ask_tree hz
    have HRT := hide hRT
    have HCC := hide (show askT es p = 0 ∧ remRep es p = removeC es p ∧ remList es p = removeL es p from ⟨hz, by rw [remRep, if_pos hz], by rw [remList, if_pos hz]⟩)
    rw [hz]
    clear hz hRT
    have hb0 : w.heap.size < w1.heap.size := X1.out.lt
    go_wp2_with fail
    refine (treeOf_any a c es.length es _ (HR.out.below B1.out) rfl hl).mono ?_
    rintro r w2 ⟨av, cv, rfl, hL, hb2⟩
    have RI := hide (hL.rd hb2)
    have BB2 := hide hb2
    clear hL hb2
    go_wp2_with fail
    refine (removeReply_any av cv es.length es p _ RI.out rfl HRT.out hpf).mono ?_
    rintro r w3 ⟨rfl, hb3⟩
    have RI3 := hide (RI.out.below hb3)
    have BB3 := hide (below_next BB2.out hb3)
    clear hb3 RI BB2
    by_cases hr : removeC es p = 0
    · have HCD := hide (show removeC es p = 0 ∧ removeL es p = es.filter fun e => !decide (e.path = p) from ⟨hr, by rw [removeL, if_pos hr]; rfl⟩)
      rw [hr]
      clear hr
      go_wp2_with fail
      refine (isAt_any p _).mono ?_
      rintro r w4 ⟨rfl, hb4, hA⟩
      have HA := hide hA
      have RI4 := hide (RI3.out.below hb4)
      have BB4 := hide (below_next BB3.out hb4)
      clear hA hb4
      go_wp2_with fail
      refine (without_any av cv es.length es _ _ _ _ RI4.out rfl hl HS.out HA.out).mono ?_
      obtain ⟨L, hL⟩ : ∃ L, L = es.filter fun e => !decide (e.path = p) := ⟨_, rfl⟩
      have HLs := hide (show SmallE L from fun e he => by rw [hL] at he; exact HS.out e (List.mem_filter.1 he).1)
      have hll : L.length ≤ 1048576 := by rw [hL]; have := List.length_filter_le (fun e : En => !decide (e.path = p)) es; omega
      rw [← hL] at HCD ⊢
      clear hL
      rintro r w5 ⟨av5, cv5, w5', rfl, hL5, hb5, hb5'⟩
      have RI5 := hide (hL5.rd hb5')
      have BB5 := hide (below_next (below_next BB4.out hb5) hb5')
      clear hL5 hb5 hb5' HA RI4
      go_wp2_with fail
      refine (entriesOf_any _ _ _ L _ RI5.out rfl hll HLs.out).mono ?_
      rintro r w6 ⟨av6, cv6, rfl, hG6, hb6⟩
      have BB6 := hide (below_next BB5.out hb6)
      obtain ⟨⟨t0, t1, t2⟩, t3, t4, t5⟩ := X1.out.below BB6.out
      have G6 := hide hG6
      have hs5 := BB5.out.size
      have B6 := hide (below_next B1.out BB6.out)
      clear hG6 hb6
      go_wp2_with fail
      exact bodyPost_ret (v := .agg #[.int .i64 0, .int .i64 0, .slice av6 L.length cv6]) (by simp [results, Tryz.results17, go_sem, t0, t1, t2]) rfl (by rw [HCC.out.1, HCC.out.2.1, HCC.out.2.2, HCD.out.1, HCD.out.2]; exact ResT.of (by omega) (Nat.le_refl _) rfl G6.out B6.out)
    · have HCD := hide (show removeL es p = es from by rw [removeL, if_neg hr])
      generalize removeC es p = G at *
      have hr2 : (G != 0) = true := by simp; exact hr
      clear hr
      go_wp2_with fail
      refine (entriesOf_any _ _ _ es _ RI3.out rfl hl HS.out).mono ?_
      rintro r w6 ⟨av6, cv6, rfl, hG6, hb6⟩
      have BB6 := hide (below_next BB3.out hb6)
      obtain ⟨⟨t0, t1, t2⟩, t3, t4, t5⟩ := X1.out.below BB6.out
      have G6 := hide hG6
      have hs5 := BB3.out.size
      have B6 := hide (below_next B1.out BB6.out)
      clear hG6 hb6
      go_wp2_with fail
      exact bodyPost_ret (v := .agg #[.int .i64 0, .int .i64 G, .slice av6 es.length cv6]) (by simp [results, Tryz.results17, go_sem, t0, t1, t2]) rfl (by rw [HCC.out.1, HCC.out.2.1, HCC.out.2.2, HCD.out]; exact ResT.of (by omega) (Nat.le_refl _) rfl G6.out B6.out)
  · have HCC := hide (show remRep es p = 0 ∧ remList es p = [] from ⟨by rw [remRep, if_neg hz], by rw [remList, if_neg hz]⟩)
    generalize askT es p = F at *
    have hz2 : (F != 0) = true := by simp; exact hz
    clear hz
    obtain ⟨⟨t0, t1, t2⟩, t3, t4, t5⟩ := X1.out
    go_wp2_with fail
    exact bodyPost_ret (v := .agg #[.int .i64 F, .int .i64 0, .slice none 0 0]) (by simp [results, Tryz.results17, go_sem, t0, t1, t2]) rfl (by rw [HCC.out.1, HCC.out.2]; exact ResT.bad (Nat.le_refl _) B1.out)
end Go.Proofs.YtebgfaohhhgdpaaGreat

namespace Go.Proofs.YtebgfaohhhgdpaaGreat
open Go.RowKit Go.Maps
set_option linter.unusedVariables false
attribute [local go_sem ↓] Go.wp_at_zero Go.wp_at_succ

theorem leftS_some {S : Nat → Bs → Option En} {i : Nat} {p : Bs} {e : En} : leftS S i p = some e ↔ seenG S p 4 = some i ∧ S i p = some e := by
  unfold leftS goneS
  by_cases h : seenG S p 4 = some i <;> simp [h]
theorem left_one {ls : List (List En)} : OneP (leftS (seeL ls)) := by
  intro i j p q e f h1 h2 hpe
  obtain ⟨s1, e1⟩ := leftS_some.1 h1
  obtain ⟨s2, e2⟩ := leftS_some.1 h2
  obtain ⟨_, _, _, p1⟩ := seeL_mem e1
  obtain ⟨_, _, _, p2⟩ := seeL_mem e2
  have hpq : p = q := by rw [← p1, ← p2, hpe]
  subst hpq
  rw [s1] at s2
  rw [Option.some.inj s2]
theorem left_all {ls : List (List En)} (hsm : SmallL ls) (e : En) : (∃ i p, i ≤ 100 ∧ p.length ≤ 1048576 ∧ leftS (seeL ls) i p = some e) ↔ ∃ k, seenL ls e.path = some k ∧ seeL ls k e.path = some e := by
  constructor
  · rintro ⟨i, p, -, -, h⟩
    obtain ⟨s1, e1⟩ := leftS_some.1 h
    obtain ⟨_, _, _, p1⟩ := seeL_mem e1
    rw [p1]
    exact ⟨i, s1, e1⟩
  · rintro ⟨k, s1, e1⟩
    obtain ⟨es, hes, he, -⟩ := seeL_mem e1
    have hk := (seen_some (show seenG (seeL ls) e.path 4 = some k from s1)).1
    exact ⟨k, e.path, by omega, ((hsm es hes).2 e he).1, leftS_some.2 ⟨s1, e1⟩⟩
theorem all_len {ls : List (List En)} (h : ∀ es ∈ ls, Right es) : ∀ n, n ≤ ls.length → (allE (ls.take n)).length ≤ 12 * n
  | 0, _ => by simp [allE]
  | n + 1, hn => by
    have ih := all_len h n (by omega)
    have hL : ls[n]? = some (ls[n]'(by omega)) := List.getElem?_eq_getElem (by omega)
    have hm := (h _ (List.mem_of_getElem? hL)).len
    generalize ls[n]'(by omega) = L at *
    have ht : ls.take (n + 1) = ls.take n ++ [L] := by rw [List.take_add_one, hL]; rfl
    rw [ht, allE_snoc]
    have := merge_len L (allE (ls.take n))
    omega
end Go.Proofs.YtebgfaohhhgdpaaGreat

namespace Go.Proofs.YtebgfaohhhgdpaaGreat
open Go.RowKit Go.Maps
set_option linter.unusedVariables false
attribute [local go_sem ↓] Go.wp_at_zero Go.wp_at_succ

def lovC (es : List (List En)) (p : Bs) : Int :=
  if p = [47] then layersP es else if plcC es p = 0 then (match findE (allE es) p with | some e => if e.kind = 2 then 0 else 9 | none => 0) else plcC es p
def lovL (es : List (List En)) (p : Bs) : List Bs := if lovC es p = 0 then namesE (allE es) (topQ p) else []
theorem plc_ask {es : List (List En)} {p : Bs} (h : plcC es p = 0) : askL es p = 0 := by
  unfold plcC at h
  by_cases h0 : askL es p = 0
  · exact h0
  · rw [if_neg h0] at h; exact h
theorem lookL_one {es : List (List En)} {p : Bs} (h : plcC es p = 0) : ∃ e, findE (allE es) p = some e ∧ lookL es p = [e] := by
  obtain ⟨h1, h2⟩ := look_all (plc_ask h)
  rw [h1] at h
  cases hf : findE (allE es) p with
  | none => rw [hf] at h; simp at h
  | some e => exact ⟨e, rfl, by rw [h2, hf]; rfl⟩
theorem ask_zero {es : List (List En)} {p : Bs} (h : askL es p = 0) : layersP es = 0 ∧ faultP p = 0 := by
  unfold askL at h
  by_cases h1 : layersP es = 0
  · rw [if_pos h1] at h; exact ⟨h1, h⟩
  · rw [if_neg h1] at h; exact absurd h h1
theorem lov_tree {es : List (List En)} {p : Bs} (h : lovC es p = 0) : layersP es = 0 ∧ (p = [47] ∨ faultP p = 0) := by
  unfold lovC at h
  by_cases h0 : p = [47]
  · rw [if_pos h0] at h; exact ⟨h, .inl h0⟩
  · rw [if_neg h0] at h
    by_cases h1 : plcC es p = 0
    · have := ask_zero (plc_ask h1)
      exact ⟨this.1, .inr this.2⟩
    · rw [if_neg h1] at h; exact absurd h h1
theorem inP_asT (p : Bs) (e : En) : inP p (asT e) = inP p e := by unfold inP; rw [asT_path]
theorem rs_kids {rs T : List En} {p : Bs} (h : rs.map asT = T) (hT : FitT T) (hp : p = [47] ∨ faultP p = 0) : ((rs.filter (inP p)).map fun e => lastP e.path) = namesE T (topQ p) := by
  have h1 : T.filter (inP p) = kidsE T (topQ p) := List.filter_congr fun x hx => inP_right hp (hT.fit.path hx)
  have h2 : T.filter (inP p) = (rs.filter (inP p)).map asT := by
    rw [← h, List.filter_map]
    congr 1
    exact List.filter_congr fun x _ => inP_asT p x
  unfold namesE
  rw [← h1, h2, List.map_map]
  exact List.map_congr_left fun e _ => by simp [asT_path]

set_option maxRecDepth 100000 in
set_option maxHeartbeats 1600000 in
theorem listOverFault_any (a : Option Addr) (c n : Nat) (es : List (List En)) (p : Bs) (w : World) (h : RdL w a es) (hn : n = es.length) (hl : es.length ≤ 1048576) (hs : SmallL es) (hp : p.length ≤ 1048576) :
    Calls Tryz.prog 79 #[.slice a n c, .string (str p)] w fun r w' => r = .returned (.int .i64 (lovC es p)) ∧ Below w.heap.size w w' := by
  subst hn
  have HR := hide h
  have HS := hide hs
  clear h hs
  have hs1 : ((str p).toList == [47]) = decide (p = [47]) := by rw [str_toList]; by_cases h47 : p = [47] <;> simp [h47]
  by_cases h0 : p = [47]
  · rw [decide_eq_true h0] at hs1
    have HC := hide (show lovC es p = layersP es from by rw [lovC, if_pos h0])
    clear h0
    go_enter Tryz.func79, Tryz.ntmps79
    go_wp2_with fail
    refine (implLayersFault_any a c es.length es w HR.out rfl hl HS.out).mono ?_
    rintro r w1 ⟨rfl, hb1⟩
    rw [← HC.out]
    have B1 := hide hb1
    clear hb1
    go_wp2_with fail
    go_ret
    exact ⟨rfl, B1.out⟩
  · rw [decide_eq_false h0] at hs1
    have HC := hide (show lovC es p = if plcC es p = 0 then (match findE (allE es) p with | some e => if e.kind = 2 then 0 else 9 | none => 0) else plcC es p from by rw [lovC, if_neg h0])
    clear h0
    go_enter Tryz.func79, Tryz.ntmps79
    go_wp2_with fail
    refine (implLookOver_any a c es.length es p w HR.out rfl hl HS.out hp).mono ?_
    rintro r w1 ⟨av, cv, rfl, hG, hb1⟩
    by_cases hz : plcC es p = 0
    · obtain ⟨e, hfe, hsl⟩ := lookL_one hz
      have hll : (lookL es p).length = 1 := by rw [hsl]; rfl
      rw [hll, hsl] at hG
      rw [hz, hll]
      have HC2 := hide (show lovC es p = if e.kind = 2 then 0 else 9 from by rw [HC.out, if_pos hz, hfe])
      obtain ⟨g, rfl, -⟩ := hG.addr rfl (.inl (by decide))
      have B0 := hide (below_alloc w1 (.cells #[.int .i64 0, .slice (some ⟨g, 0, none⟩) 1 cv] 42))
      have B1 := hide (below_next hb1 B0.out)
      obtain ⟨b, off, e', x, cc, hbb, hb, he, c0, c1, c2, c3, hr⟩ := hG.rd.at (k := 0) (by simp)
      simp only [Option.some.injEq, Addr.mk.injEq, and_true] at hbb
      obtain ⟨rfl, rfl⟩ := hbb
      simp only [List.getElem?_cons_zero, Option.some.injEq] at he
      subst he
      have c1' := (B0.out.cell (p := ⟨g, 1, none⟩) hb).trans (show w1.cell? ⟨g, 1, none⟩ = some (.int .i64 e.kind) by simpa using c1)
      clear hr c0 c1 c2 c3 hz hfe hsl hll hG hb1 HC
      by_cases hk : e.kind = 2
      · have hb2 : (e.kind != 2) = false := by simp [hk]
        have HZ := hide (show lovC es p = 0 from by rw [HC2.out, if_pos hk])
        clear hk HC2
        go_wp2_with fail
        go_ret
        exact ⟨ret_int HZ.out.symm, B1.out⟩
      · have hb2 : (e.kind != 2) = true := by simp [hk]
        have HZ := hide (show lovC es p = 9 from by rw [HC2.out, if_neg hk])
        clear hk HC2
        go_wp2_with fail
        go_ret
        exact ⟨ret_int HZ.out.symm, B1.out⟩
    · have HZ := hide (show lovC es p = plcC es p from by rw [HC.out, if_neg hz])
      have hz2 : (plcC es p != 0) = true := by simp; exact hz
      generalize plcC es p = F at *
      generalize lookL es p = L at *
      have B1 := hide (below_next hb1 (below_alloc w1 (.cells #[.int .i64 F, .slice av L.length cv] 42)))
      clear hz HC hG hb1
      go_wp2_with fail
      go_ret
      exact ⟨ret_int HZ.out.symm, B1.out⟩

set_option maxRecDepth 100000 in
set_option maxHeartbeats 1600000 in
theorem implListOver_any (a : Option Addr) (c n : Nat) (es : List (List En)) (p : Bs) (w : World) (h : RdL w a es) (hn : n = es.length) (hl : es.length ≤ 1048576) (hs : SmallL es) (hp : p.length ≤ 1048576) :
    Calls Tryz.prog 82 #[.slice a n c, .string (str p)] w (ResN (lovC es p) (lovL es p) w) := by
  subst hn
  obtain ⟨i1, ki, kz0, kz1, kz2⟩ := info_parts infoS
  have X0 := hide (Box.new w (.int .i64 0) (.slice none 0 0) 85)
  have B0 := hide (below_alloc w (.cells #[.int .i64 0, .slice none 0 0] 85))
  have HR := hide h
  have HS := hide hs
  clear h hs
  go_enter Tryz.func82, Tryz.ntmps82
  go_wp2_with fail
  refine (listOverFault_any a c es.length es p _ (HR.out.below B0.out) rfl hl HS.out hp).mono ?_
  rintro r w1 ⟨rfl, hb1⟩
  have B1 := hide (below_next B0.out hb1)
  have X1 := hide (X0.out.below hb1)
  clear hb1 X0 B0
  by_cases hz : lovC es p = 0
  · obtain ⟨hz0, hpp⟩ := lov_tree hz
    obtain ⟨h4, hRs⟩ := layersP_zero.1 hz0
    have HCC := hide (show lovC es p = 0 ∧ lovL es p = namesE (allE es) (topQ p) from ⟨hz, by rw [lovL, if_pos hz]⟩)
    have HRr := hide hRs
    have HRs := hide (rights_sight hRs HS.out)
    have HPP := hide hpp
    rw [hz]
    clear hz hz0 hRs hpp
    have hb0 : w.heap.size < w1.heap.size := X1.out.1.lt
    go_wp2_with fail
    refine (sightOf_any a c es.length es w1 (HR.out.below B1.out) rfl h4 HRs.out).mono ?_
    rintro r w2 ⟨b, N, rfl, hbb, hN, hM, hb2⟩
    have HM := hide hM
    have BB2 := hide hb2
    clear hM hb2
    go_wp2_with fail
    refine (seen_any b N (seeL es) w1 w2 HM.out).mono ?_
    rintro r w3 ⟨b3, rfl, hb3b, hM3, hb3⟩
    have HM3 := hide hM3
    have BB3 := hide (below_next BB2.out hb3)
    clear hM3 hb3 HM BB2
    go_wp2_with fail
    refine (rising_any b3 N (leftS (seeL es)) w1 w3 HM3.out (by omega) left_one BB3.out).mono ?_
    rintro r w4 ⟨av, cv, rs, rfl, hri, hmem, hRI, hb4⟩
    have BB4 := hide (below_next BB3.out hb4)
    have hall := all_rise HRr.out h4 hri (fun e => (hmem e).trans (left_all HS.out e))
    have HKN := hide (rs_kids hall (all_fit (rights_fit HRr.out)) HPP.out)
    have HKM := hide (show SmallE rs ∧ ∀ e ∈ rs, faultP e.path = 0 from ⟨fun e he => by
      obtain ⟨k, s1, e1⟩ := (left_all HS.out e).1 ((hmem e).1 he)
      obtain ⟨es', hes, hee, -⟩ := seeL_mem e1
      exact (HS.out es' hes).2 e hee, fun e he => by
      obtain ⟨k, s1, e1⟩ := (left_all HS.out e).1 ((hmem e).1 he)
      obtain ⟨es', hes, hee, -⟩ := seeL_mem e1
      exact (rights_fit HRr.out es' hes).path hee⟩)
    have hrl : rs.length ≤ 48 := by
      have h1 := all_len HRr.out es.length (Nat.le_refl _)
      rw [List.take_length, ← hall, List.length_map] at h1
      omega
    have RI := hide hRI
    clear hri hmem hRI hb4 HM3 BB3 hall
    go_wp2_with fail
    refine (isIn_any p _).mono ?_
    rintro r w5 ⟨rfl, hb5, hA⟩
    have HA := hide hA
    have RI3 := hide (RI.out.below hb5)
    have BB5 := hide (below_next BB4.out hb5)
    clear hA hb5 RI BB4
    go_wp2_with fail
    refine (those_any av cv rs.length rs _ _ _ _ RI3.out rfl (by omega) HKM.out.1 HA.out).mono ?_
    obtain ⟨ks, hks⟩ : ∃ ks, ks = rs.filter (inP p) := ⟨_, rfl⟩
    rw [← hks]
    have HN := hide (show namesE (allE es) (topQ p) = ks.map fun e => lastP e.path from by rw [hks]; exact HKN.out.symm)
    have HKS := hide (show ∀ e ∈ ks, faultP e.path = 0 ∧ e.path.length ≤ 1048576 from fun e he => by
      rw [hks] at he
      have := (List.mem_filter.1 he).1
      exact ⟨HKM.out.2 e this, (HKM.out.1 e this).1⟩)
    have hkl : ks.length ≤ 48 := by rw [hks]; have := List.length_filter_le (inP p) rs; omega
    clear hks HKN HKM
    rintro r w4 ⟨av4, cv4, rfl, hL4, hb4⟩
    have RK := hide (hL4.rd hb4)
    have BB6 := hide (below_next BB5.out hb4)
    have hs4 := BB6.out.size
    clear hL4 hb4 BB5 RI3 HA
    go_wp2_with fail
    go_loopw [6, 24] (fun v i wr => ∃ k : Nat, k ≤ ks.length ∧ i = .int .i64 k ∧ Hid (OwnS w4.heap.size wr v ((ks.take k).map fun e => lastP e.path)) ∧ Hid (Below w4.heap.size w4 wr)) (fun _ i _ => ks.length - (intOf i).toNat)
    case atStart => exact ⟨0, Nat.zero_le _, rfl, hide (OwnS.nil _ _), hide (Below.refl _ _)⟩
    case round =>
      obtain ⟨k, hk, rfl, HO, HW⟩ := hrel
      have hsz := HW.out.size
      obtain ⟨lv, lc, hv⟩ := HO.out.shape
      have hln : ((ks.take k).map fun e => lastP e.path).length = k := by rw [List.length_map, List.length_take]; omega
      rw [hln] at hv
      subst hv
      by_cases hlt : k < ks.length
      · obtain ⟨b, off, e, x, cc, rfl, hb, he, c0, c1, c2, c3, hr⟩ := (RK.out.below HW.out).at hlt
        obtain ⟨hpf, hpl⟩ := HKS.out e (List.mem_of_getElem? he)
        have HX := hide he
        have HLA := hide (show lastT (str e.path).data.toList = lastP e.path from by rw [str_data]; exact lastT_right hpf)
        clear he hr hpf
        have BA := hide (below_alloc wr (.cells #[.int .i64 e.size, .slice x e.chunks.length cc, .string (str e.path), .int .i64 e.kind] 66))
        go_wp2_with fail
        refine (implLastOf_any (str e.path) _ (by rw [str_size]; omega)).mono ?_
        rintro r w5 ⟨rfl, hb5⟩
        rw [HLA.out]
        generalize faultP (str e.path).data.toList = FP
        have hfd : ∀ (w : World), (Instr.field 147 (.agg #[.int .i64 FP, .string (str (lastP e.path))]) 1).run Tryz.prog w = .ok (.string (str (lastP e.path))) w := fun _ => by kernel_rfl
        have HW5 := hide (below_next HW.out (below_next BA.out hb5))
        have O5 : Hid (w5.ownsRow w4.heap.size 9 1 (.slice lv k lc) k (((ks.take k).map fun e => lastP e.path).map vS)) := by have := HO.out.below (below_next BA.out hb5); unfold OwnS at this; rw [hln] at this; exact this
        have hsz5 := HW5.out.size
        have HLn := hide hln
        have hm1 : k + 1 ≤ maxLen := by unfold maxLen; omega
        have hm2 : (k + 1) * 16 ≤ 140737488355328 := by omega
        clear hb5 hln HO HW BA c0 c1 c2 c3
        go_wp2_with (at_builtin; refine wpList_append_one rfl (.tmp 28) (.tmp 33) 83 rfl w4.heap.size 9 i1 (.string ⟨#[]⟩) 1 16 Tryz.underlying83 ki kz0 kz1 kz2 rfl (by decide) _ _ _ rfl O5.out rfl rfl (by intro u hu; simp at hu; subst hu; rfl) hm1 hm2 hsz5 ?_; intro v' w6 hown6 hkept; have O6 := hide (show OwnS w4.heap.size w6 v' (((ks.take k).map fun e => lastP e.path) ++ [lastP e.path]) from OwnS.snoc (by rw [HLn.out]; exact hown6) rfl); have K6 := hide hkept; clear hown6 hkept)
        go_roundw
        case rel =>
          refine ⟨k + 1, by omega, by go_num, hide ?_, hide ?_⟩
          · rw [take_snoc_at HX.out, List.map_append]; exact O6.out
          · exact Kept.below_own HW5.out hsz5 O5.out K6.out
        case measure => simp [intOf]; omega
      · have hke : k = ks.length := by omega
        have HO2 : Hid (OwnS w4.heap.size wr (.slice lv k lc) (namesE (allE es) (topQ p))) := by have := HO.out; rw [List.take_of_length_le (by omega)] at this; rw [HN.out]; exact this
        have HLn := hide (show k = (namesE (allE es) (topQ p)).length from by rw [HN.out, List.length_map]; exact hke)
        have BB5 := hide (below_next BB6.out HW.out)
        obtain ⟨⟨t0, t1⟩, t2, t3⟩ := X1.out.below BB5.out
        have B5 := hide (below_next B1.out BB5.out)
        clear hke hln
        go_wp2_with fail
        exact bodyPost_ret (v := .agg #[.int .i64 0, .slice lv k lc]) (by simp [results, Tryz.results82, go_sem, t0, t1]) rfl (by rw [HCC.out.1, HCC.out.2]; exact ResN.of (by omega) (Nat.le_refl _) HLn.out HO2.out B5.out)
  · have HCC := hide (show lovL es p = [] from by rw [lovL, if_neg hz])
    generalize lovC es p = F at *
    have hz2 : (F != 0) = true := by simp; exact hz
    clear hz
    obtain ⟨⟨t0, t1⟩, t2, t3⟩ := X1.out
    go_wp2_with fail
    exact bodyPost_ret (v := .agg #[.int .i64 F, .slice none 0 0]) (by simp [results, Tryz.results82, go_sem, t0, t1]) rfl (by rw [HCC.out]; exact ResN.bad (Nat.le_refl _) B1.out)

end Go.Proofs.YtebgfaohhhgdpaaGreat

namespace Go.Proofs.YtebgfaohhhgdpaaGreat
open Go.RowKit Go.Maps
set_option linter.unusedVariables false



theorem rowR_set3 : ∀ (rs : List Rw) (j : Nat) (r : Rw) (e' : En), rs[j]? = some r → e'.chunks.length = r.e.chunks.length →
    (((rowR rs).set (j * 4) (.string (str e'.path))).set (j * 4 + 1) (.int .i64 e'.kind)).set (j * 4 + 2) (.int .i64 e'.size) = rowR (rs.set j ⟨e', r.a, r.c⟩)
  | [], j, r, e', h, _ => by simp at h
  | x :: rs, 0, r, e', h, hl => by
    simp only [List.getElem?_cons_zero, Option.some.injEq] at h
    subst h
    simp [rowR, cellsR, hl]
  | x :: rs, j + 1, r, e', h, hl => by
    have ih := rowR_set3 rs j r e' (by simpa using h) hl
    have e1 : rowR (x :: rs) = cellsR x ++ rowR rs := rfl
    have e2 : rowR ((x :: rs).set (j + 1) ⟨e', r.a, r.c⟩) = cellsR x ++ rowR (rs.set j ⟨e', r.a, r.c⟩) := rfl
    have hx : (cellsR x).length = 4 := rfl
    rw [e1, e2, ← ih, List.set_append_right _ _ (by omega), List.set_append_right _ _ (by omega), List.set_append_right _ _ (by omega), hx]
    rw [show (j + 1) * 4 - 4 = j * 4 by omega, show (j + 1) * 4 + 1 - 4 = j * 4 + 1 by omega, show (j + 1) * 4 + 2 - 4 = j * 4 + 2 by omega]

theorem GE.open {B T : Nat} {w : World} {a : Option Addr} {n c : Nat} {es : List En} {j : Nat} {e : En} (h : GE B T w (.slice a n c) es) (he : es[j]? = some e) :
    ∃ (G : Nat) (x : Option Addr) (y : Nat), a = some ⟨G, 0, none⟩ ∧ B ≤ G ∧ G < T ∧ w.cell? ⟨G, j * 4, none⟩ = some (.string (str e.path)) ∧ w.cell? ⟨G, j * 4 + 1, none⟩ = some (.int .i64 e.kind) ∧ w.cell? ⟨G, j * 4 + 2, none⟩ = some (.int .i64 e.size) ∧ w.cell? ⟨G, j * 4 + 3, none⟩ = some (.slice x e.chunks.length y) ∧
      (∀ i, w.frozen? ⟨G, i, none⟩ = false) ∧ Own .i64 w x e.chunks ∧ (∀ b, blkOf x b → B ≤ b ∧ b < T ∧ b ≠ G) ∧
      ∀ (e' : En) (w2 : World), e'.chunks.length = e.chunks.length → Own .i64 w2 x e'.chunks → Kept (blkOf x) (((w.setCell ⟨G, j * 4, none⟩ (.string (str e'.path))).setCell ⟨G, j * 4 + 1, none⟩ (.int .i64 e'.kind)).setCell ⟨G, j * 4 + 2, none⟩ (.int .i64 e'.size)) w2 →
        SameShape (((w.setCell ⟨G, j * 4, none⟩ (.string (str e'.path))).setCell ⟨G, j * 4 + 1, none⟩ (.int .i64 e'.kind)).setCell ⟨G, j * 4 + 2, none⟩ (.int .i64 e'.size)) w2 →
        GE B T w2 (.slice a n c) (es.set j e') := by
  obtain ⟨rs, hrs, h1, h2, h3, h4, h5⟩ := h
  have hj := (List.getElem?_eq_some_iff.1 he).1
  have hl : rs.length = es.length := by rw [← hrs, List.length_map]
  obtain ⟨r, hr⟩ : ∃ r, rs[j]? = some r := ⟨rs[j]'(by omega), List.getElem?_eq_getElem (by omega)⟩
  have hre : r.e = e := by
    have : (rs.map Rw.e)[j]? = some r.e := by rw [List.getElem?_map, hr]; rfl
    rw [hrs, he] at this
    exact (Option.some.inj this).symm
  rcases h1.2 with ⟨_, h0⟩ | ⟨G, cap, cur, h', hb, hh, hnc, hcm, hcs, htake⟩
  · omega
  · simp only [Value.slice.injEq] at h'
    obtain ⟨rfl, rfl, rfl⟩ := h'
    have hc := fun q hq => (h1.cellAt (j * 4 + q) (by omega)).trans (rowR_get rs j q r hr hq)
    have hm := List.mem_of_getElem? hr
    have hne : ∀ b, blkOf r.a b → b ≠ G := fun b hb e => ownsRow_apart h1 (h2 r hm) (by decide) (by subst e; rfl) (block_own hb)
    refine ⟨G, r.a, r.c, rfl, hb, h5 G rfl, ?_, ?_, ?_, ?_, fun i => h1.frozenAt i, ?_, fun b hb => ⟨((h2 r hm).lt b (block_own hb)).1, h4 r hm b hb, hne b hb⟩, ?_⟩
    · have := hc 0 (by decide); rw [← hre]; first | (simp [cellsR]; done) | (simpa [cellsR] using this)
    · have := hc 1 (by decide); rw [← hre]; first | (simp [cellsR]; done) | (simpa [cellsR] using this)
    · have := hc 2 (by decide); rw [← hre]; first | (simp [cellsR]; done) | (simpa [cellsR] using this)
    · have := hc 3 (by decide); rw [← hre]; first | (simp [cellsR]; done) | (simpa [cellsR] using this)
    · rw [← hre]; exact ownsRow_own (h2 r hm) rfl
    · intro e' w2 hlen ho hk hs
      have hlen' : e'.chunks.length = r.e.chunks.length := by rw [hre]; exact hlen
      have s1 := (((h1.stored (j * 4) (.string (str e'.path))).1.stored (j * 4 + 1) (.int .i64 e'.kind)).1.stored (j * 4 + 2) (.int .i64 e'.size)).1
      rw [rowR_set3 rs j r e' hr hlen'] at s1
      have hmapa : (rs.set j ⟨e', r.a, r.c⟩).map Rw.a = rs.map Rw.a := by
        rw [List.map_set]
        apply List.ext_getElem?
        intro i
        by_cases hi : i = j
        · subst hi; rw [List.getElem?_set_self (by simp; omega), List.getElem?_map, hr]; rfl
        · rw [List.getElem?_set_ne (fun e => hi e.symm)]
      have hk1 : Kept (fun b => b = G) w (((w.setCell ⟨G, j * 4, none⟩ (.string (str e'.path))).setCell ⟨G, j * 4 + 1, none⟩ (.int .i64 e'.kind)).setCell ⟨G, j * 4 + 2, none⟩ (.int .i64 e'.size)) :=
        Kept.setCell (S := fun b => b = G) (p := ⟨G, j * 4 + 2, none⟩) (Kept.two _ _ _ _ _ _) (fun _ => rfl) _
      refine ⟨rs.set j ⟨e', r.a, r.c⟩, by rw [List.map_set, hrs], ?_, ?_, ?_, ?_, h5⟩
      · rw [List.length_set]
        exact ownsRow_kept s1 hk (fun b hb hS => hne b hS (by simpa [Value.ownBlock, eq_comm] using hb))
      · intro r0 hr0
        obtain ⟨i, hi⟩ := List.mem_iff_getElem?.1 hr0
        by_cases e : i = j
        · subst e
          rw [List.getElem?_set_self (by omega)] at hi
          simp only [Option.some.injEq] at hi
          subst hi
          have r1 : (((w.setCell ⟨G, i * 4, none⟩ (.string (str e'.path))).setCell ⟨G, i * 4 + 1, none⟩ (.int .i64 e'.kind)).setCell ⟨G, i * 4 + 2, none⟩ (.int .i64 e'.size)).ownsRow B 2 1 (.slice r.a r.e.chunks.length r.c) r.e.chunks.length (r.e.chunks.map (Value.int .i64)) :=
            ownsRow_kept (h2 r hm) hk1 (fun b hb e => ownsRow_apart h1 (h2 r hm) (by decide) (by subst e; rfl) hb)
          show w2.ownsRow B 2 1 (.slice r.a e'.chunks.length r.c) e'.chunks.length (e'.chunks.map (Value.int .i64))
          rw [hlen']
          rcases (h2 r hm).2 with ⟨h', h0⟩ | ⟨g, cap', cur', h', _⟩
          · simp only [Value.slice.injEq] at h'
            have e1 : e'.chunks = [] := List.eq_nil_of_length_eq_zero (by omega)
            rw [h'.1, h'.2.2, h0, e1]
            exact World.ownsRow_nil _ _ _ _
          · simp only [Value.slice.injEq, true_and] at h'
            obtain ⟨hA, hC⟩ := h'
            rw [hA] at r1 ho ⊢
            refine own_back r1 hs (by simp [hlen']) (fun t ht => ?_)
            obtain ⟨b, off, e1, hb, hc⟩ := ho (by intro e; rw [e] at hlen'; simp at hlen'; omega)
            simp only [Option.some.injEq, Addr.mk.injEq, and_true] at e1
            obtain ⟨rfl, rfl⟩ := e1
            have := (hc t (by omega)).1
            rw [Nat.zero_add] at this
            rw [this]
            have ht2 : t < e'.chunks.length := by omega
            simp [List.getD_eq_getElem?_getD, ht2]
        · rw [List.getElem?_set_ne (fun x => e x.symm)] at hi
          have hm0 := List.mem_of_getElem? hi
          have r1 := ownsRow_kept (h2 r0 hm0) hk1 (fun b hb e => ownsRow_apart h1 (h2 r0 hm0) (by decide) (by subst e; rfl) hb)
          refine ownsRow_kept r1 hk (fun b hb hS => ?_)
          have hi' := (List.getElem?_eq_some_iff.1 hi)
          have hj' := (List.getElem?_eq_some_iff.1 hr)
          have hb0 := own_block hb
          rcases Nat.lt_or_gt_of_ne e with hlt | hlt
          · have := List.pairwise_iff_getElem.1 h3 i j hi'.1 hj'.1 hlt b (by rw [hi'.2]; exact hb0)
            rw [hj'.2] at this
            exact this hS
          · have := List.pairwise_iff_getElem.1 h3 j i hj'.1 hi'.1 hlt b (by rw [hj'.2]; exact hS)
            rw [hi'.2] at this
            exact this hb0
      · have : (rs.map Rw.a).Pairwise (fun x y => ∀ g, x.map Addr.block = some g → y.map Addr.block ≠ some g) := List.pairwise_map.2 h3
        rw [← hmapa] at this
        exact List.pairwise_map.1 this
      · intro r0 hr0 g hg
        have : r0.a ∈ (rs.set j ⟨e', r.a, r.c⟩).map Rw.a := List.mem_map_of_mem hr0
        rw [hmapa] at this
        obtain ⟨r2, hr2, e2⟩ := List.mem_map.1 this
        exact h4 r2 hr2 g (by rw [e2]; exact hg)

end Go.Proofs.YtebgfaohhhgdpaaGreat

namespace Go.Proofs.YtebgfaohhhgdpaaGreat
open Go.ChangeShapes Go.WideShapes Go.ChangeAt Go.RowKit
set_option linter.unusedVariables false

def zEn : En := ⟨[], 0, 0, []⟩
theorem rowR_set4 : ∀ (rs : List Rw) (j : Nat) (r : Rw), j < rs.length →
    ((((rowR rs).set (j * 4) (.string (str r.e.path))).set (j * 4 + 1) (.int .i64 r.e.kind)).set (j * 4 + 2) (.int .i64 r.e.size)).set (j * 4 + 3) (.slice r.a r.e.chunks.length r.c) = rowR (rs.set j r)
  | [], j, r, h => by simp at h
  | x :: rs, 0, r, h => by simp [rowR, cellsR]
  | x :: rs, j + 1, r, h => by
    have ih := rowR_set4 rs j r (by simpa using h)
    have e1 : rowR (x :: rs) = cellsR x ++ rowR rs := rfl
    have e2 : rowR ((x :: rs).set (j + 1) r) = cellsR x ++ rowR (rs.set j r) := rfl
    have hx : (cellsR x).length = 4 := rfl
    rw [e1, e2, ← ih, List.set_append_right _ _ (by omega), List.set_append_right _ _ (by omega), List.set_append_right _ _ (by omega), List.set_append_right _ _ (by omega), hx]
    rw [show (j + 1) * 4 - 4 = j * 4 by omega, show (j + 1) * 4 + 1 - 4 = j * 4 + 1 by omega, show (j + 1) * 4 + 2 - 4 = j * 4 + 2 by omega, show (j + 1) * 4 + 3 - 4 = j * 4 + 3 by omega]

theorem zeros_row (n : Nat) : (madeCells (Value.agg #[.string ⟨#[]⟩, .int .i64 0, .int .i64 0, .slice none 0 0]).cells (n * 4)).toList = rowR (List.replicate n ⟨zEn, none, 0⟩) := by
  have hl := rowR_length (List.replicate n ⟨zEn, none, 0⟩)
  rw [List.length_replicate] at hl
  apply List.ext_getElem?
  intro p
  by_cases hp : p < n * 4
  · have e : p = p / 4 * 4 + p % 4 := by omega
    have h1 : p / 4 < n := by omega
    have h2 : p % 4 < 4 := by omega
    rw [e, rowR_get _ (p / 4) (p % 4) ⟨zEn, none, 0⟩ (by simp [h1]) h2, ← e]
    have hm : p % 4 = 0 ∨ p % 4 = 1 ∨ p % 4 = 2 ∨ p % 4 = 3 := by omega
    rcases hm with hm | hm | hm | hm <;> simp [madeCells, hp, hm, cellsR, zEn, Value.cells, str]
  · rw [List.getElem?_eq_none (by simp [madeCells]; omega), List.getElem?_eq_none (by omega)]
theorem GE.zeros {B n T : Nat} {w : World} {v : Value} (h : w.ownsRow B 53 4 v n (madeCells (Value.agg #[.string ⟨#[]⟩, .int .i64 0, .int .i64 0, .slice none 0 0]).cells (n * 4)).toList) (hT : ∀ b, v.ownBlock = some b → b < T) : GE B T w v (List.replicate n zEn) := by
  refine ⟨List.replicate n ⟨zEn, none, 0⟩, by simp, by rw [List.length_replicate, ← zeros_row]; exact h, fun r hr => ?_, ?_, fun r hr g hg => ?_, hT⟩
  · rw [(List.mem_replicate.1 hr).2]; exact World.ownsRow_nil _ _ _ _
  · rw [List.pairwise_iff_getElem]
    intro i i' hi hi' hlt g hg
    simp at hg
  · rw [(List.mem_replicate.1 hr).2] at hg
    simp at hg



end Go.Proofs.YtebgfaohhhgdpaaGreat

