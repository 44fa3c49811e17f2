/-
  Texts put together: EntI TreL TreA SeeA.
-/
import Derived.Test.YtebgfaohhhgdpaaGreatKMounts5
import Derived.Test.YtebgfaohhhgdpaaGreatKMounts7
import Derived.Test.YtebgfaohhhgdpaaGreatKMounts6
import Derived.Maps.OwnSet
import Derived.DeepKeys5
namespace Go.Proofs.YtebgfaohhhgdpaaGreat
open Go.RowKit Go.Maps
set_option linter.unusedVariables false

theorem Kept.four (w : World) (b : Nat) (u0 u1 u2 u3 : Value) : Kept (fun x => x = b) w ((((w.setCell ⟨b, 0, none⟩ u0).setCell ⟨b, 1, none⟩ u1).setCell ⟨b, 2, none⟩ u2).setCell ⟨b, 3, none⟩ u3) :=
  Kept.setCell (S := fun x => x = b) (p := ⟨b, 3, none⟩) (Kept.setCell (S := fun x => x = b) (p := ⟨b, 2, none⟩) (Kept.two w b 0 1 u0 u1) (fun _ => rfl) u2) (fun _ => rfl) u3
theorem digs_len (zs : List Int) : (digs zs (cut zs).length).length = (cut zs).length := by simp [digs]
def fileE (p : Bs) (zs : List Int) : En := ⟨p, 1, zs.length, digs zs (cut zs).length⟩

set_option maxRecDepth 100000 in
set_option maxHeartbeats 1600000 in
theorem l4File_any (p : Bs) (a : Option Addr) (cap : Nat) (zs : List Int) (w : World) (h : Reads .u8 w a zs) (hu : U8 zs) (hcap : zs.length ≤ cap) (hl : zs.length ≤ 24) :
    Calls Tryz.prog 90 #[.string (str p), .slice a zs.length cap] w fun r w' => ∃ av cv, r = .returned (.agg #[.string (str p), .int .i64 1, .int .i64 zs.length, .slice av (cut zs).length cv]) ∧ w'.ownsRow w.heap.size 2 1 (.slice av (cut zs).length cv) (cut zs).length ((digs zs (cut zs).length).map (Value.int .i64)) ∧ Below w.heap.size w w' := by
  have HD := hide (fun u hb => l1Digests_any a cap zs u (h.below hb) hu hcap hl)
  clear h hu
  go_enter Tryz.func90, Tryz.ntmps90
  have B0 := hide (below_alloc w (.cells #[.string ⟨#[]⟩, .int .i64 0, .int .i64 0, .slice none 0 0] 53))
  have F0 := hide (Four.new w (.string ⟨#[]⟩) (.int .i64 0) (.int .i64 0) (.slice none 0 0) 53)
  have Z0 := hide (show ∀ i, i < 4 → (w.alloc (.cells #[.string ⟨#[]⟩, .int .i64 0, .int .i64 0, .slice none 0 0] 53)).frozen? ⟨w.heap.size, i, none⟩ = false from fun i hi => by simp)
  go_wp2_with fail
  refine (HD.out _ B0.out).mono ?_
  rintro r w1 ⟨v, rfl, hG, hb1⟩
  obtain ⟨av, cv, rfl⟩ := ownsRow_shape hG
  have hlt0 := F0.out.lt
  have B1 := hide (below_next B0.out hb1)
  obtain ⟨f0, f1, f2, f3⟩ := F0.out.below hb1
  have z0 := (hb1.frozen (p := ⟨w.heap.size, 0, none⟩) hlt0).trans (Z0.out 0 (by omega))
  have z1 := (hb1.frozen (p := ⟨w.heap.size, 1, none⟩) hlt0).trans (Z0.out 1 (by omega))
  have z2 := (hb1.frozen (p := ⟨w.heap.size, 2, none⟩) hlt0).trans (Z0.out 2 (by omega))
  have z3 := (hb1.frozen (p := ⟨w.heap.size, 3, none⟩) hlt0).trans (Z0.out 3 (by omega))
  have GG := hide hG
  clear hG hb1 B0 F0 Z0
  go_wp2_with fail
  refine bodyPost_ret (v := .agg #[.string (str p), .int .i64 1, .int .i64 zs.length, .slice av (cut zs).length cv]) (by simp [results, Tryz.results90, go_sem, f0, f1, f2, f3]) rfl ⟨av, cv, rfl, ?_, (((B1.out.setCell (Nat.le_refl _) _).setCell (Nat.le_refl _) _).setCell (Nat.le_refl _) _).setCell (Nat.le_refl _) _⟩
  exact ownsRow_mono (ownsRow_kept (S := fun b => b = w.heap.size) GG.out (Kept.four _ _ _ _ _ _) (fun b hb e => by have := (GG.out.lt b hb).1; omega)) (by omega)

end Go.Proofs.YtebgfaohhhgdpaaGreat

namespace Go.Proofs.YtebgfaohhhgdpaaGreat
set_option linter.unusedVariables false

def treeK (k : Int) : Bool := decide (k = 1 ∨ k = 2)
def treFaultP (es : List En) : Int := if 40 < es.length then 2 else if es.all (fun e => treeK e.kind) then layFromH (homeP es) none es else 1
structure RightT (es : List En) : Prop where
  len : es.length ≤ 40
  kind : ∀ e ∈ es, treeK e.kind = true
  ent : ∀ e ∈ es, entFault e = 0
  rise : Rise es
  home : ∀ e ∈ es, homeP es e.path = true
theorem rightT_P {es : List En} : treFaultP es = 0 ↔ RightT es := by
  unfold treFaultP
  by_cases h : 40 < es.length
  · rw [if_pos h]
    exact ⟨fun x => (by cases x), fun x => (by have := x.len; omega)⟩
  · rw [if_neg h]
    cases hk : es.all (fun e => treeK e.kind)
    · refine ⟨fun x => (by simp at x), fun x => ?_⟩
      exfalso
      have := List.all_eq_true.2 x.kind
      rw [this] at hk; cases hk
    · rw [if_pos rfl, layFromH_zero]
      exact ⟨fun ⟨a, b, _⟩ => ⟨by omega, List.all_eq_true.1 hk, fun e he => (a e he).1, b, fun e he => (a e he).2⟩, fun x => ⟨fun e he => ⟨x.ent e he, x.home e he⟩, x.rise, fun q hq => by cases hq⟩⟩
def GoodH (es : List En) : Prop := layFromH (homeP es) none es = layFromH (homeE es) none es
theorem GoodH.good {es : List En} (h : GoodH es) : Good es := by
  by_cases hl : 12 < es.length
  · exact good_many hl
  · exact good_of hl h
theorem goodH_rise {es : List En} (h : Rise es) : GoodH es := layFromH_congr (fun x hx _ => homeP_eq h x.path)
theorem goodH_snoc {es : List En} {e : En} (hr : Rise es) (hh : ∀ x ∈ es, homeP es x.path = true) : GoodH (es ++ [e]) := by
  refine layFromH_congr (fun x hx hxe => ?_)
  rcases List.mem_append.1 hx with hx | hx
  · have h1 := hh x hx
    have h2 : homeP (es ++ [e]) x.path = true := by
      rw [homeP_iff] at h1 ⊢
      rcases h1 with h1 | ⟨d, hd, h1⟩
      · exact .inl h1
      · exact .inr ⟨d, List.mem_append_left _ hd, h1⟩
    rw [h2]
    symm
    rw [homeP_eq hr] at h1
    unfold homeE at h1 ⊢
    by_cases h0 : parentP x.path = []
    · simp [h0]
    · rw [if_neg h0] at h1 ⊢
      cases hf : findE es (parentP x.path) with
      | none => rw [hf] at h1; simp at h1
      | some d =>
        rw [hf] at h1
        have : findE (es ++ [e]) (parentP x.path) = some d := by
          rw [findE, List.find?_append]
          have hf' : List.find? (fun y : En => decide (y.path = parentP x.path)) es = some d := hf
          rw [hf']
          rfl
        rw [this]
        exact h1
  · simp only [List.mem_singleton] at hx
    subst hx
    by_cases h0 : parentP x.path = []
    · simp [homeP, homeE, h0]
    · have hne := parent_ne (entFault_zero hxe) h0
      have e1 : homeP (es ++ [x]) x.path = homeP es x.path := by
        simp [homeP, h0, hasDir, hne.symm]
      have e2 : homeE (es ++ [x]) x.path = homeE es x.path := by
        have : findE (es ++ [x]) (parentP x.path) = findE es (parentP x.path) := by
          simp [findE, List.find?_append, hne.symm]
        simp only [homeE, this]
      rw [e1, e2, homeP_eq hr]
theorem goodH_set {r0 e : En} {tl : List En} (h : Right (r0 :: tl)) : GoodH (e :: tl) := by
  have hrt : Rise tl := (List.pairwise_cons.1 h.rise).2
  by_cases hr : Rise (e :: tl)
  · exact goodH_rise hr
  · have hb : entBadH (homeP (e :: tl)) none e = entBadH (homeE (e :: tl)) none e := by
      unfold entBadH
      by_cases he : entFault e = 0
      · have : homeP (e :: tl) e.path = homeE (e :: tl) e.path := by
          by_cases h0 : parentP e.path = []
          · simp [homeP, homeE, h0]
          · have hne := parent_ne (entFault_zero he) h0
            have e1 : homeP (e :: tl) e.path = homeP tl e.path := by simp [homeP, h0, hasDir, hne.symm]
            have e2 : homeE (e :: tl) e.path = homeE tl e.path := by
              have : findE (e :: tl) (parentP e.path) = findE tl (parentP e.path) := by simp [findE, hne.symm]
              simp only [homeE, this]
            rw [e1, e2, homeP_eq hrt]
        rw [this]
      · simp [he]
    unfold GoodH
    simp only [layFromH]
    rw [hb]
    by_cases hz : entBadH (homeE (e :: tl)) none e = 0
    · rw [if_pos hz, if_pos hz]
      cases tl with
      | nil => rfl
      | cons t1 r =>
        have ht : entFault t1 = 0 := h.ent t1 (by simp)
        have hlow : lowE (some e) t1 = true := by
          cases hlo : lowE (some e) t1
          · exfalso
            refine hr (List.pairwise_cons.2 ⟨fun y hy => ?_, hrt⟩)
            have h1 := lowE_some hlo
            rcases List.mem_cons.1 hy with rfl | hy
            · exact h1
            · exact bl_trans _ _ _ h1 ((List.pairwise_cons.1 hrt).1 y hy)
          · rfl
        simp only [layFromH]
        have b1 : ∀ H : Bs → Bool, entBadH H (some e) t1 = 1 := fun H => by simp [entBadH, ht, hlow]
        rw [b1, b1]
        rfl
    · rw [if_neg hz, if_neg hz]
theorem goodH_first {e : En} {tl : List En} (h : entFault e ≠ 0) : GoodH (e :: tl) := by
  have b1 : ∀ H : Bs → Bool, entBadH H none e = entFault e := fun H => by simp [entBadH, h]
  unfold GoodH
  simp only [layFromH, b1, if_neg h]

theorem parent_take {ns : List Bs} (h : 1 < ns.length) : (aboveN ns).getLastD [] = joinB (ns.take (ns.length - 1)) := by
  obtain ⟨m, hm⟩ : ∃ m, ns.length - 1 = m + 1 := ⟨ns.length - 2, by omega⟩
  unfold aboveN
  rw [hm, List.range_succ, List.map_append, List.getLastD_eq_getLast?]
  simp
theorem below_step {x p : Bs} (hx : faultP x = 0) (hp : faultP p = 0) (h : belowB x p = true) : parentP x ≠ [] ∧ (parentP x = p ∨ belowB (parentP x) p = true) := by
  have hm := (above_iff hx).2 ⟨hp, h⟩
  have hne : aboveN (cutB x.tail) ≠ [] := fun e => by rw [e] at hm; simp at hm
  have h0 : parentP x ≠ [] := fun e => hne (parentP_nil.1 e)
  refine ⟨h0, ?_⟩
  obtain ⟨ns, hN, hxe, hc, -⟩ := faultP_zero hx
  rw [hc] at hm hne
  obtain ⟨k, hk0, hk1, hpk⟩ := mem_aboveN.1 hm
  have hpar : parentP x = joinB (ns.take (ns.length - 1)) := by unfold parentP; rw [hc]; exact parent_take (by omega)
  by_cases hk : k = ns.length - 1
  · exact .inl (by rw [hpar, hpk, hk])
  · refine .inr ?_
    have hT : Names (ns.take (ns.length - 1)) := names_take hN (by omega)
    have hf := faultP_of hT
    rw [hpar]
    refine ((above_iff hf).1 ?_).2
    rw [cut_of hT, mem_aboveN]
    refine ⟨k, hk0, by rw [List.length_take]; omega, ?_⟩
    rw [hpk, List.take_take, Nat.min_eq_left (by omega)]
theorem RightT.path {es : List En} (h : RightT es) {e : En} (he : e ∈ es) : faultP e.path = 0 := entFault_zero (h.ent e he)
theorem RightT.dir {es : List En} (h : RightT es) {e : En} (he : e ∈ es) : dirK e.kind = decide (e.kind = 2) := by
  have := h.kind e he
  simp only [treeK, decide_eq_true_eq] at this
  unfold dirK
  rcases this with hk | hk <;> rw [hk] <;> decide
theorem RightT.kinds {es : List En} (h : RightT es) {e : En} (he : e ∈ es) : e.kind = 1 ∨ e.kind = 2 := by
  have := h.kind e he
  simpa [treeK] using this
theorem RightT.file_bare {es : List En} (h : RightT es) {p : Bs} (hp : p ≠ []) (hf : ∀ d ∈ es, d.path = p → dirK d.kind = false) : ∀ x ∈ es, parentP x.path ≠ p := by
  intro x hx e
  rcases homeP_iff.1 (h.home x hx) with h0 | ⟨d, hd, hdp, hdk⟩
  · rw [e] at h0; exact hp h0
  · rw [hf d hd (hdp.trans e)] at hdk; cases hdk
theorem RightT.none_below {es : List En} (h : RightT es) {p : Bs} (hp : faultP p = 0) (hk : ∀ x ∈ es, parentP x.path ≠ p) : ∀ x ∈ es, belowB x.path p = false := by
  have : ∀ n, ∀ x ∈ es, x.path.length ≤ n → belowB x.path p = false := by
    intro n
    induction n with
    | zero =>
      intro x hx hl
      cases hb : belowB x.path p
      · rfl
      · have := below_len hb; omega
    | succ n ih =>
      intro x hx hl
      cases hb : belowB x.path p
      · rfl
      · exfalso
        obtain ⟨h0, h1⟩ := below_step (h.path hx) hp hb
        rcases h1 with h1 | h1
        · exact hk x hx h1
        · rcases homeP_iff.1 (h.home x hx) with h2 | ⟨d, hd, hdp, -⟩
          · exact h0 h2
          · have h3 := below_len (parent_above (h.path hx) h0).2
            have := ih d hd (by rw [hdp]; omega)
            rw [hdp, h1] at this; cases this
  exact fun x hx => this _ x hx (Nat.le_refl _)
theorem rightT_put {es : List En} {e : En} (h : RightT es) (he : entFault e = 0) (hek : treeK e.kind = true) (hh : homeP es e.path = true) (hl : (putE es e).length ≤ 40) : RightT (putE es e) := by
  have hpe := entFault_zero he
  refine ⟨hl, fun x hx => ?_, fun x hx => ?_, rise_putE h.rise, fun x hx => ?_⟩
  · rcases mem_putE.1 hx with rfl | ⟨hx, _⟩
    · exact hek
    · exact h.kind x hx
  · rcases mem_putE.1 hx with rfl | ⟨hx, _⟩
    · exact he
    · exact h.ent x hx
  · rw [homeP_iff]
    rcases mem_putE.1 hx with rfl | ⟨hx, hk⟩
    · rcases homeP_iff.1 hh with h0 | ⟨d, hd, hdp, hdk⟩
      · exact .inl h0
      · by_cases h0 : parentP x.path = []
        · exact .inl h0
        · have hb := (parent_above hpe h0).2
          have hlen := below_len hb
          refine .inr ⟨d, mem_putE.2 (.inr ⟨hd, ?_⟩), hdp, hdk⟩
          have h1 : d.path ≠ x.path := fun e => by rw [hdp] at e; rw [e] at hlen; omega
          have h2 : belowB d.path x.path = false := by
            cases h3 : belowB d.path x.path
            · rfl
            · have := below_len h3; rw [hdp] at this; omega
          simp [keepE, h1, h2]
    · have hpx := h.path hx
      rcases homeP_iff.1 (h.home x hx) with h0 | ⟨d, hd, hdp, hdk⟩
      · exact .inl h0
      · by_cases h0 : parentP x.path = []
        · exact .inl h0
        · have hb := (parent_above hpx h0).2
          rw [← hdp] at hb
          simp only [keepE, Bool.and_eq_true, Bool.not_eq_true', decide_eq_false_iff_not, Bool.or_eq_true] at hk
          by_cases hde : d.path = e.path
          · rcases hk.2 with hk2 | hk2
            · exact .inr ⟨e, mem_putE.2 (.inl rfl), by rw [← hde]; exact hdp, hk2⟩
            · rw [hde] at hb; rw [hb] at hk2; cases hk2
          · refine .inr ⟨d, mem_putE.2 (.inr ⟨hd, ?_⟩), hdp, hdk⟩
            simp only [keepE, Bool.and_eq_true, Bool.not_eq_true', decide_eq_false_iff_not, Bool.or_eq_true]
            refine ⟨hde, hk.2.elim .inl (fun hk2 => .inr ?_)⟩
            cases h3 : belowB d.path e.path
            · rfl
            · rw [below_trans hb h3] at hk2; cases hk2
def offE (es : List En) (p : Bs) : List En := es.filter fun x => !decide (x.path = p)
theorem mem_offE {es : List En} {p : Bs} {x : En} : x ∈ offE es p ↔ x ∈ es ∧ x.path ≠ p := by simp [offE]
theorem offE_len (es : List En) (p : Bs) : (offE es p).length ≤ es.length := List.length_filter_le _ _
theorem rightT_off {es : List En} {p : Bs} (h : RightT es) (hk : ∀ x ∈ es, parentP x.path ≠ p) : RightT (offE es p) := by
  refine ⟨Nat.le_trans (offE_len es p) h.len, fun x hx => h.kind x (mem_offE.1 hx).1, fun x hx => h.ent x (mem_offE.1 hx).1, h.rise.sublist List.filter_sublist, fun x hx => ?_⟩
  obtain ⟨hx, hn⟩ := mem_offE.1 hx
  rw [homeP_iff]
  rcases homeP_iff.1 (h.home x hx) with h0 | ⟨d, hd, hdp, hdk⟩
  · exact .inl h0
  · exact .inr ⟨d, mem_offE.2 ⟨hd, fun e => hk x hx (hdp ▸ e)⟩, hdp, hdk⟩
theorem base_off {es : List En} {e : En} (h : dirK e.kind = true ∨ ∀ x ∈ es, belowB x.path e.path = false) : baseE es e = offE es e.path := by
  unfold baseE offE
  apply List.filter_congr
  intro x hx
  unfold keepE
  rcases h with h | h
  · simp [h]
  · simp [h x hx]
theorem findE_off {es : List En} {p q : Bs} (h : q ≠ p) : findE (offE es p) q = findE es q := by
  unfold findE offE
  rw [List.find?_filter]
  congr 1
  funext x
  by_cases e : x.path = q
  · simp [e, h]
  · simp [e]
theorem findE_gone (es : List En) (p : Bs) : findE (offE es p) p = none := find_none (fun e he => (mem_offE.1 he).2)

def homeC (es : List En) (p : Bs) : Int :=
  if parentP p = [] then 0 else
    match findE es (parentP p) with
    | none => 4
    | some e => if e.kind = 1 then 9 else 0
theorem homeC_top {es : List En} {p : Bs} (h : parentP p = []) : homeC es p = 0 := by simp [homeC, h]
theorem homeC_none {es : List En} {p : Bs} (h : parentP p ≠ []) (hf : findE es (parentP p) = none) : homeC es p = 4 := by simp [homeC, h, hf]
theorem homeC_home {es : List En} {p : Bs} (h : RightT es) : homeC es p = 0 ↔ homeP es p = true := by
  rw [homeP_eq h.rise]
  unfold homeC homeE
  by_cases h0 : parentP p = []
  · simp [h0]
  · rw [if_neg h0, if_neg h0]
    cases hf : findE es (parentP p) with
    | none => simp
    | some e =>
      rcases h.kinds (find_mem hf).1 with hk | hk
      · simp [hk, dirK]
      · simp [hk, dirK]
def writeC (es : List En) (p : Bs) : Int :=
  if homeC es p = 0 then
    (match findE es p with
    | some e => if e.kind = 2 then 9 else 0
    | none => if 40 ≤ es.length then 2 else 0)
  else homeC es p
def writeL (es : List En) (p : Bs) (ds : List Int) : List En := if writeC es p = 0 then putE es (fileE p ds) else es
def makeC (es : List En) (p : Bs) : Int :=
  if homeC es p = 0 then
    (match findE es p with
    | some _ => 7
    | none => if 40 ≤ es.length then 2 else 0)
  else homeC es p
def dirE (p : Bs) : En := ⟨p, 2, 0, []⟩
def makeL (es : List En) (p : Bs) : List En := if makeC es p = 0 then putE es (dirE p) else es
def kidsE (es : List En) (p : Bs) : List En := es.filter fun x => decide (parentP x.path = p)
theorem kids_none {es : List En} {p : Bs} : kidsE es p = [] ↔ ∀ x ∈ es, parentP x.path ≠ p := by
  unfold kidsE
  rw [List.filter_eq_nil_iff]
  simp
def removeC (es : List En) (p : Bs) : Int :=
  match findE es p with
  | none => 4
  | some _ => if kidsE es p = [] then 0 else 1
def removeL (es : List En) (p : Bs) : List En := if removeC es p = 0 then offE es p else es
theorem dirE_right {p : Bs} (hp : faultP p = 0) : entFault (dirE p) = 0 := by
  rw [entFault_digs (e := dirE p) hp (by simp [formE, dirE]) (by simp [sizeE, dirE]) (by simp [manyE, dirE])]
  rfl
theorem putE_len2 {es : List En} {e : En} : (putE es e).length = (baseE es e).length + 1 := by
  unfold putE putAt
  simp only [List.length_append, List.length_cons, List.length_take, List.length_drop]
  omega
theorem put_len_in {es : List En} {e x : En} (hx : x ∈ es) (hp : x.path = e.path) : (putE es e).length ≤ es.length := by
  rw [putE_len2]
  have : (baseE es e).length < es.length := by
    unfold baseE
    rw [List.length_filter_lt_length_iff_exists]
    exact ⟨x, hx, by simp [keepE, hp]⟩
  omega
theorem put_len_le (es : List En) (e : En) : (putE es e).length ≤ es.length + 1 := by
  rw [putE_len2]
  have := baseE_len es e
  omega
theorem write_ok {es : List En} {p : Bs} (h : writeC es p = 0) : homeC es p = 0 ∧ (∀ e, findE es p = some e → e.kind ≠ 2) ∧ (findE es p = none → es.length < 40) := by
  unfold writeC at h
  by_cases h0 : homeC es p = 0
  · rw [if_pos h0] at h
    refine ⟨h0, fun e he => ?_, fun he => ?_⟩
    · rw [he] at h
      intro hk
      simp [hk] at h
    · rw [he] at h
      by_cases hl : 40 ≤ es.length
      · simp [hl] at h
      · omega
  · rw [if_neg h0] at h; exact absurd h h0
theorem make_ok {es : List En} {p : Bs} (h : makeC es p = 0) : homeC es p = 0 ∧ findE es p = none ∧ es.length < 40 := by
  unfold makeC at h
  by_cases h0 : homeC es p = 0
  · rw [if_pos h0] at h
    cases hf : findE es p with
    | some e => rw [hf] at h; simp at h
    | none =>
      rw [hf] at h
      by_cases hl : 40 ≤ es.length
      · simp [hl] at h
      · exact ⟨h0, rfl, by omega⟩
  · rw [if_neg h0] at h; exact absurd h h0
theorem remove_ok {es : List En} {p : Bs} (h : removeC es p = 0) : (∃ e, findE es p = some e) ∧ kidsE es p = [] := by
  unfold removeC at h
  cases hf : findE es p with
  | none => rw [hf] at h; simp at h
  | some e =>
    rw [hf] at h
    by_cases hk : kidsE es p = []
    · exact ⟨⟨e, rfl⟩, hk⟩
    · simp [hk] at h
theorem write_bare {es : List En} {p : Bs} (hR : RightT es) (hp : faultP p = 0) (h : writeC es p = 0) : ∀ x ∈ es, belowB x.path p = false := by
  have h0 : p ≠ [] := fun e => by rw [e] at hp; exact faultP_nil hp
  refine hR.none_below hp (hR.file_bare h0 (fun d hd hdp => ?_))
  have hf := rise_find hR.rise hd
  rw [hdp] at hf
  have := (write_ok h).2.1 d hf
  rw [hR.dir hd]
  simpa using this
theorem right_write {es : List En} {p : Bs} {ds : List Int} (hR : RightT es) (hp : faultP p = 0) (hd : entFault (fileE p ds) = 0) (h : writeC es p = 0) : RightT (putE es (fileE p ds)) := by
  obtain ⟨h1, h2, h3⟩ := write_ok h
  refine rightT_put hR hd rfl ((homeC_home hR).1 h1) ?_
  cases hf : findE es p with
  | none => have := h3 hf; have := put_len_le es (fileE p ds); omega
  | some e => have := put_len_in (e := fileE p ds) (find_mem hf).1 (find_mem hf).2; have := hR.len; omega
theorem right_make {es : List En} {p : Bs} (hR : RightT es) (hp : faultP p = 0) (h : makeC es p = 0) : RightT (putE es (dirE p)) := by
  obtain ⟨h1, h2, h3⟩ := make_ok h
  refine rightT_put hR (dirE_right hp) rfl ((homeC_home hR).1 h1) ?_
  have := put_len_le es (dirE p)
  omega
theorem right_remove {es : List En} {p : Bs} (hR : RightT es) (h : removeC es p = 0) : RightT (offE es p) := rightT_off hR (kids_none.1 (remove_ok h).2)
theorem rightT_writeL {es : List En} {p : Bs} {ds : List Int} (hR : RightT es) (hp : faultP p = 0) (hd : entFault (fileE p ds) = 0) : RightT (writeL es p ds) := by
  unfold writeL
  by_cases h : writeC es p = 0
  · rw [if_pos h]; exact right_write hR hp hd h
  · rw [if_neg h]; exact hR
theorem rightT_makeL {es : List En} {p : Bs} (hR : RightT es) (hp : faultP p = 0) : RightT (makeL es p) := by
  unfold makeL
  by_cases h : makeC es p = 0
  · rw [if_pos h]; exact right_make hR hp h
  · rw [if_neg h]; exact hR
theorem rightT_removeL {es : List En} {p : Bs} (hR : RightT es) : RightT (removeL es p) := by
  unfold removeL
  by_cases h : removeC es p = 0
  · rw [if_pos h]; exact right_remove hR h
  · rw [if_neg h]; exact hR
end Go.Proofs.YtebgfaohhhgdpaaGreat

namespace Go.Proofs.YtebgfaohhhgdpaaGreat
open Go.RowKit Go.Maps
set_option linter.unusedVariables false
attribute [local go_sem ↓] Go.wp_at_zero Go.wp_at_succ

set_option maxRecDepth 100000 in
set_option maxHeartbeats 3200000 in
theorem treeOf_any (a : Option Addr) (c n : Nat) (es : List En) (w : World) (h : RdE w a es) (hn : n = es.length) (hl : es.length ≤ 1048576) :
    Calls Tryz.prog 45 #[.slice a n c] w fun r w' => ∃ av cv, r = .returned (.slice av n cv) ∧ LI w w' (.slice av n cv) es ∧ Below w.heap.size w w' := by
  subst hn
  obtain ⟨i1, ki, kz0, kz1, kz2⟩ := info_parts Tryz.infoIt
  have HR := hide h
  clear h
  go_enter Tryz.func45, Tryz.ntmps45
  go_wp2_with fail
  go_loopw [3, 8] (fun v i wr => ∃ k : Nat, k ≤ es.length ∧ i = .int .i64 k ∧ Hid (LI w wr v (es.take k)) ∧ Hid (Below w.heap.size w wr)) (fun _ i _ => es.length - (intOf i).toNat)
  case atStart => exact ⟨0, Nat.zero_le _, rfl, hide (LI.nil _ _), hide (Below.refl _ _)⟩
  case round =>
    obtain ⟨k, hk, rfl, HL, HW⟩ := hrel
    have hsz := HW.out.size
    obtain ⟨lv, lc, hv⟩ := HL.out.shape
    rw [take_len hk] at hv
    subst hv
    by_cases hlt : k < es.length
    · obtain ⟨b, off, e, x, cc, rfl, hb, he, c0, c1, c2, c3, hr⟩ := (HR.out.below HW.out).at hlt
      obtain ⟨b', off', e', x', cc', hbb, hb', he', d0, d1, d2, d3, hr'⟩ := HR.out.at hlt
      simp only [Option.some.injEq, Addr.mk.injEq, and_true] at hbb
      obtain ⟨rfl, rfl⟩ := hbb
      have : e' = e := Option.some.inj (he'.symm.trans he)
      subst this
      have d3' := (HW.out.cell (p := ⟨b, off + k * 4 + 3, none⟩) hb').trans d3
      rw [c3] at d3'
      simp only [Option.some.injEq, Value.slice.injEq, true_and] at d3'
      obtain ⟨rfl, rfl⟩ := d3'
      have HX := hide he
      have HRc := hide hr'
      clear he hr hr' he' d0 d1 d2 d3
      have BA := hide (below_alloc wr (.cells #[.string (str e'.path), .int .i64 e'.kind, .int .i64 e'.size, .slice x e'.chunks.length cc] 53))
      go_wp2_with fail
      refine (itemOf_any _ _ _ _ _ _ _).mono ?_
      rintro r w3 ⟨rfl, hb3⟩
      have BB5 := hide (below_next BA.out hb3)
      clear hb3 c0 c1 c2 c3 BA
      obtain ⟨rs, g1, g2, g3⟩ := HL.out
      rw [take_len hk] at g2
      have G1 := hide g1
      have G2 := hide (ownsRow_below g2 BB5.out)
      have G3 := hide g3
      have HK := hide (take_len hk)
      clear g1 g2 g3
      have hm1 : k + 1 ≤ maxLen := by unfold maxLen; omega
      have hm1' : (k + 1) * 56 ≤ 140737488355328 := by omega
      have hsz5 := BB5.out.size
      go_wp2_with (at_builtin; refine wpList_append_put rfl (.tmp 12) (.tmp 15) 58 rfl w.heap.size 66 i1 (.agg #[.int .i64 0, .slice none 0 0, .string ⟨#[]⟩, .int .i64 0]) 4 56 Tryz.underlying58 ki kz0 kz1 kz2 rfl (by decide) _ _ _ rfl G2.out _ rfl rfl rfl (by intro u hu; simp at hu; rcases hu with rfl | rfl | rfl | rfl <;> rfl) hm1 hm1' (by omega) ?_; intro av6 cv6 w6 hown6 hk6; have O6 := hide hown6; have K6 := hide hk6; clear hown6 hk6)
      go_roundw
      case rel =>
        refine ⟨k + 1, by omega, by go_num, hide ?_, hide ?_⟩
        · rw [take_snoc_at HX.out]
          exact LI.push (e := e') (a := x) (c := cc) G1.out HK.out.symm G3.out HRc.out O6.out
        · exact (below_next HW.out BB5.out).trans (K6.out.below (by omega) (fun q hq hS => by have := (G2.out.lt q hS).1; omega))
      case measure => simp [intOf]; omega
    · have hke : k = es.length := by omega
      have HE := hide (show es.take k = es from List.take_of_length_le (by omega))
      have HL2 : Hid (LI w wr (.slice lv k lc) es) := by have := HL.out; rw [HE.out] at this; exact this
      clear HL HE
      subst hke
      go_wp2_with fail
      go_ret
      exact ⟨lv, lc, rfl, HL2.out, HW.out⟩

def Asks (W0 : World) (fn : FuncId) (cap : Array Value) (f : En → Bool) : Prop :=
  (∀ args w, (callFunc fn args).run Tryz.prog w = .ok (.enter fn args) w) ∧ ∀ (e : En) (a : Option Addr) (c : Nat) (w : World), e.path.length ≤ 1048576 → e.chunks.length ≤ 1048576 → Reads .i64 w a e.chunks → Below W0.heap.size W0 w →
    Calls Tryz.prog fn (#[.agg #[.int .i64 e.size, .slice a e.chunks.length c, .string (str e.path), .int .i64 e.kind]] ++ cap) w fun r w' => r = .returned (.bool (f e)) ∧ Below w.heap.size w w'
theorem Asks.next {W0 W : World} {fn : FuncId} {cap : Array Value} {f : En → Bool} (h : Asks W0 fn cap f) (hb : Below W0.heap.size W0 W) : Asks W fn cap f :=
  ⟨h.1, fun e a c w he hc hr hw => h.2 e a c w he hc hr (below_next hb hw)⟩
theorem find_step {es : List En} {f : En → Bool} {k : Nat} {e : En} (he : es[k]? = some e) (h : es.find? f = (es.drop k).find? f) (hf : f e = false) : es.find? f = (es.drop (k + 1)).find? f := by
  rw [h, drop_at he, List.find?_cons, hf]
theorem find_hit {es : List En} {f : En → Bool} {k : Nat} {e : En} (he : es[k]? = some e) (h : es.find? f = (es.drop k).find? f) (hf : f e = true) : es.find? f = some e := by
  rw [h, drop_at he, List.find?_cons, hf]
theorem find_stop {es : List En} {f : En → Bool} {k : Nat} (hk : es.length ≤ k) (h : es.find? f = (es.drop k).find? f) : es.find? f = none := by
  rw [h, List.drop_eq_nil_of_le hk]; rfl

def FirstI (o : Option En) (w : World) (r : Ending) : Prop :=
  (∃ e x cc, o = some e ∧ r = .returned (.tuple #[.agg #[.int .i64 e.size, .slice x e.chunks.length cc, .string (str e.path), .int .i64 e.kind], .bool true]) ∧ Reads .i64 w x e.chunks) ∨
    (o = none ∧ r = .returned (.tuple #[.agg #[.int .i64 0, .slice none 0 0, .string ⟨#[]⟩, .int .i64 0], .bool false]))
set_option maxRecDepth 100000 in
set_option maxHeartbeats 3200000 in
theorem first_any (a : Option Addr) (c n : Nat) (es : List En) (fn : FuncId) (cap : Array Value) (f : En → Bool) (w : World) (h : RdI w a es) (hn : n = es.length) (hl : es.length ≤ 1048576) (hs : SmallE es) (hf : Asks w fn cap f) :
    Calls Tryz.prog 96 #[.slice a n c, .func (.func fn) #[] cap] w fun r w' => FirstI (es.find? f) w r ∧ Below w.heap.size w w' := by
  subst hn
  have eg := hf.1
  have HF := hide hf
  have HR := hide h
  have HS := hide hs
  have X0 := hide (Box4.new w (.int .i64 0) (.slice none 0 0) (.string ⟨#[]⟩) (.int .i64 0) 66)
  have B0 := hide (below_alloc w (.cells #[.int .i64 0, .slice none 0 0, .string ⟨#[]⟩, .int .i64 0] 66))
  clear h hf hs
  go_enter Tryz.func96, Tryz.ntmps96
  go_wp2_with fail
  generalize w.alloc (.cells #[.int .i64 0, .slice none 0 0, .string ⟨#[]⟩, .int .i64 0] 66) = W0 at *
  go_loopw [11] (fun i wr => ∃ k : Nat, k ≤ es.length ∧ i = .int .i64 k ∧ Hid (es.find? f = (es.drop k).find? f) ∧ Hid (Below W0.heap.size W0 wr)) (fun i _ => es.length - (intOf i).toNat)
  case atStart => exact ⟨0, Nat.zero_le _, rfl, hide (by simp), hide (Below.refl _ _)⟩
  case round =>
    obtain ⟨k, hk, rfl, HFi, HW0⟩ := hrel
    have HW := hide (below_next B0.out HW0.out)
    have hsz := HW.out.size
    by_cases hlt : k < es.length
    · obtain ⟨b, off, e, x, cc, rfl, hb, he, c0, c1, c2, c3, hr⟩ := (HR.out.below HW.out).at hlt
      obtain ⟨b', off', e', x', cc', hbb, hb', he', d0, d1, d2, d3, hr'⟩ := HR.out.at hlt
      simp only [Option.some.injEq, Addr.mk.injEq, and_true] at hbb
      obtain ⟨rfl, rfl⟩ := hbb
      have : e' = e := Option.some.inj (he'.symm.trans he)
      subst this
      have d1' := (HW.out.cell (p := ⟨b, off + k * 4 + 1, none⟩) hb').trans d1
      rw [c1] at d1'
      simp only [Option.some.injEq, Value.slice.injEq, true_and] at d1'
      obtain ⟨rfl, rfl⟩ := d1'
      have hsm := HS.out e' (List.mem_of_getElem? he)
      have HX := hide he
      have HRc := hide hr'
      clear he hr hr' he' d0 d1 d2 d3
      have BA := hide (below_alloc wr (.cells #[.int .i64 e'.size, .slice x e'.chunks.length cc, .string (str e'.path), .int .i64 e'.kind] 66))
      have F4 := hide (Four.new wr (.int .i64 e'.size) (.slice x e'.chunks.length cc) (.string (str e'.path)) (.int .i64 e'.kind) 66)
      go_wp2_with fail
      refine (HF.out.2 e' x cc _ hsm.1 hsm.2 (HRc.out.below (below_next HW.out BA.out)) (below_next HW.out BA.out)).mono ?_
      rintro r w3 ⟨rfl, hb3⟩
      have BB3 := hide (below_next HW0.out (below_next BA.out hb3))
      obtain ⟨f0, f1, f2, f3⟩ := F4.out.below hb3
      clear hb3 c0 c1 c2 c3
      cases hq : f e'
      · have HN := hide (find_step HX.out HFi.out hq)
        clear hq
        go_wp2_with fail
        go_roundw
        case rel => exact ⟨k + 1, by omega, by go_num, HN, BB3⟩
        case measure => simp [intOf]; omega
      · have HN := hide (find_hit HX.out HFi.out hq)
        clear hq
        obtain ⟨⟨t0, t1, t2, t3⟩, tf⟩ := X0.out.below BB3.out
        have tf0 := tf 0
        have tf1 := tf 1
        have tf2 := tf 2
        have tf3 := tf 3
        clear tf
        go_wp2_with fail
        refine bodyPost_ret (v := .tuple #[.agg #[.int .i64 e'.size, .slice x e'.chunks.length cc, .string (str e'.path), .int .i64 e'.kind], .bool true]) (by simp [results, Tryz.results96, go_sem, t0, t1, t2, t3]) rfl ?_
        exact ⟨.inl ⟨e', x, cc, HN.out, rfl, HRc.out⟩, ((((below_next B0.out BB3.out).setCell (p := ⟨w.heap.size, 0, none⟩) (Nat.le_refl _) _).setCell (p := ⟨w.heap.size, 1, none⟩) (Nat.le_refl _) _).setCell (p := ⟨w.heap.size, 2, none⟩) (Nat.le_refl _) _).setCell (p := ⟨w.heap.size, 3, none⟩) (Nat.le_refl _) _⟩
    · have HN := hide (find_stop (by omega) HFi.out)
      have BA := hide (below_alloc wr (.cells #[.int .i64 0, .slice none 0 0, .string ⟨#[]⟩, .int .i64 0] 66))
      obtain ⟨⟨t0, t1, t2, t3⟩, tf⟩ := X0.out.below (below_next HW0.out BA.out)
      have tf0 := tf 0
      have tf1 := tf 1
      have tf2 := tf 2
      have tf3 := tf 3
      clear tf
      go_wp2_with fail
      refine bodyPost_ret (v := .tuple #[.agg #[.int .i64 0, .slice none 0 0, .string ⟨#[]⟩, .int .i64 0], .bool false]) (by simp [results, Tryz.results96, go_sem, t0, t1, t2, t3]) rfl ?_
      exact ⟨.inr ⟨HN.out, rfl⟩, ((((below_next HW.out BA.out).setCell (p := ⟨w.heap.size, 0, none⟩) (Nat.le_refl _) _).setCell (p := ⟨w.heap.size, 1, none⟩) (Nat.le_refl _) _).setCell (p := ⟨w.heap.size, 2, none⟩) (Nat.le_refl _) _).setCell (p := ⟨w.heap.size, 3, none⟩) (Nat.le_refl _) _⟩
end Go.Proofs.YtebgfaohhhgdpaaGreat

namespace Go.Proofs.YtebgfaohhhgdpaaGreat
open Go.RowKit Go.Maps
set_option linter.unusedVariables false
attribute [local go_sem ↓] Go.wp_at_zero Go.wp_at_succ

theorem seeLaidOut : laidOutB Tryz.prog = true := by kernel_rfl
theorem spotLaw : Keyed Tryz.prog 104 := Keyed.of_law (deep_law_gate seeLaidOut (by decide +kernel) (by decide +kernel) (by kernel_rfl) (by kernel_rfl))
def spotV (i : Nat) (p : Bs) : Value := .agg #[.int .i64 i, .string (str p)]
def spotK (i : Nat) (p : Bs) : Lit := .string (keyBytes [.int .i64 i, .string (str p).data.toList])
theorem spotType : Tryz.prog.keyType 104 = true := by kernel_rfl
theorem spotCells : Tryz.prog.cellsOf 104 = 2 := by kernel_rfl
theorem intCells : Tryz.prog.cellsOf 3 = 1 := by kernel_rfl
theorem strCells : Tryz.prog.cellsOf 9 = 1 := by kernel_rfl
theorem nTypes : ∃ m, Tryz.prog.types.size + 1 = m + 1 + 1 := ⟨Tryz.prog.types.size - 1, by have : 1 ≤ Tryz.prog.types.size := (by decide +kernel); omega⟩
theorem i64_nat {i : Nat} (h : i ≤ 100) : (Lit.int .i64 (i : Int)).wf = true := by
  simp [Lit.wf, IntKind.min, IntKind.max, IntKind.signed, IntKind.bits]; omega
theorem spot_key {i : Nat} {p : Bs} (hi : i ≤ 100) (hp : p.length ≤ 1048576) : keyOf Tryz.prog 104 (spotV i p) = some (spotK i p) := by
  have hs : (str p).size ≤ maxLen := by rw [str_size]; unfold maxLen; omega
  have hw := i64_nat hi
  obtain ⟨m, hm⟩ := nTypes
  unfold keyOf spotV spotK
  rw [Tryz.underlying104]
  simp only [spotType, Value.formed, Tryz.underlying104, spotCells, Value.cells]
  rw [hm]
  simp [Program.keyLits, Tryz.underlying104, spotCells, Tryz.underlying3, Tryz.underlying9, intCells, strCells, hs, hw]
theorem spotV_inj {i j : Nat} {p q : Bs} (h : spotV i p = spotV j q) : i = j ∧ p = q := by
  unfold spotV at h
  simp only [Value.agg.injEq, Array.mk.injEq, List.cons.injEq, Value.int.injEq, Value.string.injEq, true_and, and_true] at h
  refine ⟨by omega, ?_⟩
  have := congrArg (fun s : ByteArray => s.data.toList) h.2
  simpa [str_data] using this
theorem spotK_inj {i j : Nat} {p q : Bs} (hi : i ≤ 100) (hj : j ≤ 100) (hp : p.length ≤ 1048576) (hq : q.length ≤ 1048576) (h : spotK i p = spotK j q) : i = j ∧ p = q := by
  have h1 := spot_key hi hp
  have h2 := spot_key hj hq
  rw [← h] at h2
  exact spotV_inj (spotLaw.inj h1 h2)

def RVs (v : Value) : Option (DataW Value × List MemPlace) := some (.held v, [])
def itV (e : En) (a : Option Addr) (c : Nat) : Value := .agg #[.int .i64 e.size, .slice a e.chunks.length c, .string (str e.path), .int .i64 e.kind]
theorem zeroIt (w : World) : (zeroValue 66).run Tryz.prog w = .ok (.agg #[.int .i64 0, .slice none 0 0, .string ⟨#[]⟩, .int .i64 0]) w := by kernel_rfl

def SeeM (w0 w : World) (b N : Nat) (S : Nat → Bs → Option En) : Prop :=
  ∃ (Dt : DataW Value) (A : Nat → Bs → Option Addr) (C : Nat → Bs → Nat), w.ownsMap Tryz.prog 104 RVs b N Dt ∧
    (∀ i p, i ≤ 100 → p.length ≤ 1048576 → has Dt (spotK i p) = (S i p).isSome) ∧
    (∀ i p e, i ≤ 100 → p.length ≤ 1048576 → S i p = some e → (∀ z, Dt.atKey (spotK i p) z = .held (itV e (A i p) (C i p))) ∧ Reads .i64 w0 (A i p) e.chunks) ∧
    (∀ kl, has Dt kl = true → ∃ i p, i ≤ 100 ∧ p.length ≤ 1048576 ∧ kl = spotK i p)
theorem SeeM.lt {w0 w : World} {b N : Nat} {S : Nat → Bs → Option En} (h : SeeM w0 w b N S) : b < w.heap.size := by
  obtain ⟨Dt, A, C, h1, _⟩ := h
  exact h1.lt
theorem SeeM.kept {Q : Nat → Prop} {w0 w w' : World} {b N : Nat} {S : Nat → Bs → Option En} (h : SeeM w0 w b N S) (hk : Kept Q w w') (hb : ¬ Q b) : SeeM w0 w' b N S := by
  obtain ⟨Dt, A, C, h1, h2⟩ := h
  have hlt := h1.lt
  obtain ⟨es, clock, hh, r⟩ := h1
  exact ⟨Dt, A, C, ⟨es, clock, (hk.block b hlt hb).trans hh, r⟩, h2⟩
theorem SeeM.below {w0 w w' : World} {b N : Nat} {S : Nat → Bs → Option En} (h : SeeM w0 w b N S) (hk : Below w.heap.size w w') : SeeM w0 w' b N S :=
  h.kept (Q := fun _ => False) (Kept.of_below hk) id
theorem SeeM.congr {w0 w : World} {b N : Nat} {S S' : Nat → Bs → Option En} (h : SeeM w0 w b N S) (hS : ∀ i p, S i p = S' i p) : SeeM w0 w b N S' := by
  have : S = S' := funext fun i => funext fun p => hS i p
  rw [← this]; exact h
theorem SeeM.made (w0 w : World) : SeeM w0 (w.alloc (.map #[] 0)) w.heap.size 0 (fun _ _ => none) := by
  refine ⟨.map [], fun _ _ => none, fun _ _ => 0, World.ownsMap_made _ _ _ _, ?_, ?_, ?_⟩
  · intro i p _ _
    simp [has]
  · intro i p e _ _ h
    simp at h
  · intro kl h
    simp [has] at h
theorem see_grown {w w' : World} {b : Nat} (h : w.grownBy w' (some b)) : Kept (fun x => x = b) w w' :=
  ⟨h.os, h.tape, h.output, h.size, fun k hk hn => h.block k hk (fun e => hn (by simpa using e))⟩
theorem spot_isKey {i : Nat} {p : Bs} (hi : i ≤ 100) (hp : p.length ≤ 1048576) : WideAt.IsKeyLit (spotK i p) := spotLaw.key (spot_key hi hp)

theorem SeeM.put {w0 w : World} {b N i : Nat} {p : Bs} {S : Nat → Bs → Option En} {e : En} {a : Option Addr} {c : Nat} (h : SeeM w0 w b N S) (hi : i ≤ 100) (hp : p.length ≤ 1048576) (hr : Reads .i64 w0 a e.chunks) :
    ∃ Dt, w.ownsMap Tryz.prog 104 RVs b N Dt ∧ ∀ w', w'.ownsMap Tryz.prog 104 RVs b (N + 1) (Dt.put (spotK i p) (.held (itV e a c))) → SeeM w0 w' b (N + 1) (fun j q => if j = i ∧ q = p then some e else S j q) := by
  obtain ⟨Dt, A, C, h1, h2, h3, h4⟩ := h
  refine ⟨Dt, h1, fun w' ho => ?_⟩
  refine ⟨_, fun j q => if j = i ∧ q = p then a else A j q, fun j q => if j = i ∧ q = p then c else C j q, ho, fun j q hj hq => ?_, fun j q x hj hq hx => ?_, fun kl hkl => ?_⟩
  · by_cases e1 : j = i ∧ q = p
    · obtain ⟨rfl, rfl⟩ := e1
      rw [has_put_same h1.isMap (spot_isKey hj hq)]
      simp
    · have hne : spotK j q ≠ spotK i p := fun hk => e1 (spotK_inj hj hi hq hp hk)
      rw [has_put_other (by simpa using hne), h2 j q hj hq]
      simp [e1]
  · by_cases e1 : j = i ∧ q = p
    · simp only [if_pos e1] at hx ⊢
      cases hx
      obtain ⟨rfl, rfl⟩ := e1
      exact ⟨fun z => atKey_put_same h1.isMap (spot_isKey hj hq) _ _, hr⟩
    · have hne : spotK j q ≠ spotK i p := fun hk => e1 (spotK_inj hj hi hq hp hk)
      simp only [if_neg e1] at hx ⊢
      exact ⟨fun z => by rw [atKey_put_other (by simpa using hne)]; exact (h3 j q x hj hq hx).1 z, (h3 j q x hj hq hx).2⟩
  · by_cases e1 : kl = spotK i p
    · exact ⟨i, p, hi, hp, e1⟩
    · rw [has_put_other (by simpa using e1)] at hkl
      exact h4 kl hkl

theorem SeeM.yes {w0 w : World} {b N i : Nat} {p : Bs} {S : Nat → Bs → Option En} {e : En} (h : SeeM w0 w b N S) (hi : i ≤ 100) (hp : p.length ≤ 1048576) (he : S i p = some e) :
    ∃ a c, (Instr.lookup 101 (.map (some b)) (spotV i p) true).run Tryz.prog w = .ok (.tuple #[itV e a c, .bool true]) w ∧ (Instr.lookup 101 (.map (some b)) (spotV i p) false).run Tryz.prog w = .ok (itV e a c) w ∧ Reads .i64 w0 a e.chunks := by
  obtain ⟨Dt, A, C, h1, h2, h3, h4⟩ := h
  refine ⟨A i p, C i p, ?_, ?_, (h3 i p e hi hp he).2⟩
  · obtain ⟨v, ps, hrun, hv⟩ := h1.look_ok spotLaw Tryz.underlying101 (zeroIt w) (zd := .held (.agg #[.int .i64 0, .slice none 0 0, .string ⟨#[]⟩, .int .i64 0])) (zp := []) rfl (spot_key hi hp)
    simp only [RVs, Option.some.injEq, Prod.mk.injEq, (h3 i p e hi hp he).1] at hv
    have e1 := hv.1
    simp only [DataW.held.injEq] at e1
    rw [hrun, h2 i p hi hp, he]
    simp [e1]
  · obtain ⟨v, ps, hrun, hv⟩ := h1.lookup spotLaw Tryz.underlying101 (zeroIt w) (zd := .held (.agg #[.int .i64 0, .slice none 0 0, .string ⟨#[]⟩, .int .i64 0])) (zp := []) rfl (spot_key hi hp)
    simp only [RVs, Option.some.injEq, Prod.mk.injEq, (h3 i p e hi hp he).1] at hv
    have e1 := hv.1
    simp only [DataW.held.injEq] at e1
    rw [hrun]
    simp [e1]
theorem SeeM.no {w0 w : World} {b N i : Nat} {p : Bs} {S : Nat → Bs → Option En} (h : SeeM w0 w b N S) (hi : i ≤ 100) (hp : p.length ≤ 1048576) (he : S i p = none) :
    (Instr.lookup 101 (.map (some b)) (spotV i p) true).run Tryz.prog w = .ok (.tuple #[.agg #[.int .i64 0, .slice none 0 0, .string ⟨#[]⟩, .int .i64 0], .bool false]) w := by
  obtain ⟨Dt, A, C, h1, h2, h3, h4⟩ := h
  obtain ⟨v, ps, hrun, hv⟩ := h1.look_ok spotLaw Tryz.underlying101 (zeroIt w) (zd := .held (.agg #[.int .i64 0, .slice none 0 0, .string ⟨#[]⟩, .int .i64 0])) (zp := []) rfl (spot_key hi hp)
  have hh : has Dt (spotK i p) = false := by rw [h2 i p hi hp, he]; rfl
  rw [atKey_of_not_has hh] at hv
  simp only [RVs, Option.some.injEq, Prod.mk.injEq] at hv
  have e1 := hv.1
  simp only [DataW.held.injEq] at e1
  rw [hrun, hh, e1]
theorem wpList_lookS {P : Program} {w : World} {ops : Array Oper} {rest : List Oper} {o : Oper} {a : Act} {Q : Exit → Act → World → Prop} (hg : o.guard = none) (m x : Operand) (t : TypeId) (c : Bool) (hop : o.op = Op.lookup t m x c)
    (vm vx v : Value) (hm : a.eval m = vm) (hx : a.eval x = vx) (hrun : (Instr.lookup t vm vx c).run P w = .ok v w) (h : wpList P ops Q rest (a.put o.dst v) w) : wpList P ops Q (o :: rest) a w := by
  refine wpList_plain hg fun K' hK' => ?_
  unfold Oper.wp
  simp [execOp, hop, hm, hx, hrun, Result.andThen]
  exact hK' _ _ h
end Go.Proofs.YtebgfaohhhgdpaaGreat

