/-
  Trees as lists of entries: the fault of a tree, what is written, made and removed, and what is right behind it. Nothing of a program.
-/
import Derived.Test.YtlbccbikepkfiaaGreatDoorLayG
import Derived.Test.YtlbccbikepkfiaaGreatDoorEntI
namespace Go.Proofs.YtlbccbikepkfiaaGreatDoor
set_option linter.unusedVariables false

/-- A file, or a plain directory. -/
def treeK (k : Int) : Bool := decide (k = 1 ∨ k = 2)
/-- What the program's TreeFault answers. -/
def treFaultP (es : List En) : Int := if 40 < es.length then 2 else if es.all (fun e => treeK e.kind) then layFromH (homeP es) none es else 1
/-- What the model's answers. -/
def treFault (es : List En) : Int := if 40 < es.length then 2 else if es.all (fun e => treeK e.kind) then layFrom es none es else 1
/-- A tree without faults. -/
structure RightT (es : List En) : Prop where
  len : es.length ≤ 40
  kind : ∀ e ∈ es, treeK e.kind = true
  ent : ∀ e ∈ es, entFault e = 0
  rise : Rise es
  home : ∀ e ∈ es, homeP es e.path = true
theorem rightT_nil : RightT [] := ⟨by simp, fun e he => by simp at he, fun e he => by simp at he, List.Pairwise.nil, fun e he => by simp at he⟩
theorem rightT_P {es : List En} : treFaultP es = 0 ↔ RightT es := by
  unfold treFaultP
  by_cases h : 40 < es.length
  · rw [if_pos h]
    exact ⟨fun x => (by cases x), fun x => (by have := x.len; omega)⟩
  · rw [if_neg h]
    cases hk : es.all (fun e => treeK e.kind)
    · refine ⟨fun x => (by simp at x), fun x => ?_⟩
      exfalso
      have := List.all_eq_true.2 x.kind
      rw [this] at hk; cases hk
    · rw [if_pos rfl, layFromH_zero]
      exact ⟨fun ⟨a, b, _⟩ => ⟨by omega, List.all_eq_true.1 hk, fun e he => (a e he).1, b, fun e he => (a e he).2⟩, fun x => ⟨fun e he => ⟨x.ent e he, x.home e he⟩, x.rise, fun q hq => by cases hq⟩⟩
/-- The program and the model tell the same fault of the entries, one by one. -/
def GoodH (es : List En) : Prop := layFromH (homeP es) none es = layFromH (homeE es) none es
theorem GoodH.tree {es : List En} (h : GoodH es) : treFaultP es = treFault es := by
  unfold treFaultP treFault
  rw [layFrom_H, h]
theorem GoodH.good {es : List En} (h : GoodH es) : Good es := by
  by_cases hl : 12 < es.length
  · exact good_many hl
  · exact good_of hl h
theorem goodH_rise {es : List En} (h : Rise es) : GoodH es := layFromH_congr (fun x hx _ => homeP_eq h x.path)
theorem rightT_E {es : List En} (h : GoodH es) : treFault es = 0 ↔ RightT es := by rw [← h.tree, rightT_P]
theorem goodH_snoc {es : List En} {e : En} (hr : Rise es) (hh : ∀ x ∈ es, homeP es x.path = true) : GoodH (es ++ [e]) := by
  refine layFromH_congr (fun x hx hxe => ?_)
  rcases List.mem_append.1 hx with hx | hx
  · have h1 := hh x hx
    have h2 : homeP (es ++ [e]) x.path = true := by
      rw [homeP_iff] at h1 ⊢
      rcases h1 with h1 | ⟨d, hd, h1⟩
      · exact .inl h1
      · exact .inr ⟨d, List.mem_append_left _ hd, h1⟩
    rw [h2]
    symm
    rw [homeP_eq hr] at h1
    unfold homeE at h1 ⊢
    by_cases h0 : parentP x.path = []
    · simp [h0]
    · rw [if_neg h0] at h1 ⊢
      cases hf : findE es (parentP x.path) with
      | none => rw [hf] at h1; simp at h1
      | some d =>
        rw [hf] at h1
        have : findE (es ++ [e]) (parentP x.path) = some d := by
          rw [findE, List.find?_append]
          have hf' : List.find? (fun y : En => decide (y.path = parentP x.path)) es = some d := hf
          rw [hf']
          rfl
        rw [this]
        exact h1
  · simp only [List.mem_singleton] at hx
    subst hx
    by_cases h0 : parentP x.path = []
    · simp [homeP, homeE, h0]
    · have hne := parent_ne (entFault_zero hxe) h0
      have e1 : homeP (es ++ [x]) x.path = homeP es x.path := by
        simp [homeP, h0, hasDir, hne.symm]
      have e2 : homeE (es ++ [x]) x.path = homeE es x.path := by
        have : findE (es ++ [x]) (parentP x.path) = findE es (parentP x.path) := by
          simp [findE, List.find?_append, hne.symm]
        simp only [homeE, this]
      rw [e1, e2, homeP_eq hr]
theorem goodH_set {r0 e : En} {tl : List En} (h : Right (r0 :: tl)) : GoodH (e :: tl) := by
  have hrt : Rise tl := (List.pairwise_cons.1 h.rise).2
  by_cases hr : Rise (e :: tl)
  · exact goodH_rise hr
  · have hb : entBadH (homeP (e :: tl)) none e = entBadH (homeE (e :: tl)) none e := by
      unfold entBadH
      by_cases he : entFault e = 0
      · have : homeP (e :: tl) e.path = homeE (e :: tl) e.path := by
          by_cases h0 : parentP e.path = []
          · simp [homeP, homeE, h0]
          · have hne := parent_ne (entFault_zero he) h0
            have e1 : homeP (e :: tl) e.path = homeP tl e.path := by simp [homeP, h0, hasDir, hne.symm]
            have e2 : homeE (e :: tl) e.path = homeE tl e.path := by
              have : findE (e :: tl) (parentP e.path) = findE tl (parentP e.path) := by simp [findE, hne.symm]
              simp only [homeE, this]
            rw [e1, e2, homeP_eq hrt]
        rw [this]
      · simp [he]
    unfold GoodH
    simp only [layFromH]
    rw [hb]
    by_cases hz : entBadH (homeE (e :: tl)) none e = 0
    · rw [if_pos hz, if_pos hz]
      cases tl with
      | nil => rfl
      | cons t1 r =>
        have ht : entFault t1 = 0 := h.ent t1 (by simp)
        have hlow : lowE (some e) t1 = true := by
          cases hlo : lowE (some e) t1
          · exfalso
            refine hr (List.pairwise_cons.2 ⟨fun y hy => ?_, hrt⟩)
            have h1 := lowE_some hlo
            rcases List.mem_cons.1 hy with rfl | hy
            · exact h1
            · exact bl_trans _ _ _ h1 ((List.pairwise_cons.1 hrt).1 y hy)
          · rfl
        simp only [layFromH]
        have b1 : ∀ H : Bs → Bool, entBadH H (some e) t1 = 1 := fun H => by simp [entBadH, ht, hlow]
        rw [b1, b1]
        rfl
    · rw [if_neg hz, if_neg hz]
/-- Where the first entry has a fault of its own. -/
theorem goodH_first {e : En} {tl : List En} (h : entFault e ≠ 0) : GoodH (e :: tl) := by
  have b1 : ∀ H : Bs → Bool, entBadH H none e = entFault e := fun H => by simp [entBadH, h]
  unfold GoodH
  simp only [layFromH, b1, if_neg h]

/-- The path above, of the names. -/
theorem parent_take {ns : List Bs} (h : 1 < ns.length) : (aboveN ns).getLastD [] = joinB (ns.take (ns.length - 1)) := by
  obtain ⟨m, hm⟩ : ∃ m, ns.length - 1 = m + 1 := ⟨ns.length - 2, by omega⟩
  unfold aboveN
  rw [hm, List.range_succ, List.map_append, List.getLastD_eq_getLast?]
  simp
/-- What is below a path has it as parent, or its parent is below it. -/
theorem below_step {x p : Bs} (hx : faultP x = 0) (hp : faultP p = 0) (h : belowB x p = true) : parentP x ≠ [] ∧ (parentP x = p ∨ belowB (parentP x) p = true) := by
  have hm := (above_iff hx).2 ⟨hp, h⟩
  have hne : aboveN (cutB x.tail) ≠ [] := fun e => by rw [e] at hm; simp at hm
  have h0 : parentP x ≠ [] := fun e => hne (parentP_nil.1 e)
  refine ⟨h0, ?_⟩
  obtain ⟨ns, hN, hxe, hc, -⟩ := faultP_zero hx
  rw [hc] at hm hne
  obtain ⟨k, hk0, hk1, hpk⟩ := mem_aboveN.1 hm
  have hpar : parentP x = joinB (ns.take (ns.length - 1)) := by unfold parentP; rw [hc]; exact parent_take (by omega)
  by_cases hk : k = ns.length - 1
  · exact .inl (by rw [hpar, hpk, hk])
  · refine .inr ?_
    have hT : Names (ns.take (ns.length - 1)) := names_take hN (by omega)
    have hf := faultP_of hT
    rw [hpar]
    refine ((above_iff hf).1 ?_).2
    rw [cut_of hT, mem_aboveN]
    refine ⟨k, hk0, by rw [List.length_take]; omega, ?_⟩
    rw [hpk, List.take_take, Nat.min_eq_left (by omega)]
theorem RightT.path {es : List En} (h : RightT es) {e : En} (he : e ∈ es) : faultP e.path = 0 := entFault_zero (h.ent e he)
theorem RightT.only {es : List En} (h : RightT es) {d e : En} (hd : d ∈ es) (he : e ∈ es) (hp : d.path = e.path) : d = e := by
  have h1 := rise_find h.rise hd
  have h2 := rise_find h.rise he
  rw [hp, h2] at h1
  exact (Option.some.inj h1).symm
theorem RightT.dir {es : List En} (h : RightT es) {e : En} (he : e ∈ es) : dirK e.kind = decide (e.kind = 2) := by
  have := h.kind e he
  simp only [treeK, decide_eq_true_eq] at this
  unfold dirK
  rcases this with hk | hk <;> rw [hk] <;> decide
theorem RightT.kinds {es : List En} (h : RightT es) {e : En} (he : e ∈ es) : e.kind = 1 ∨ e.kind = 2 := by
  have := h.kind e he
  simpa [treeK] using this
/-- A path that is no directory has nothing in it. -/
theorem RightT.file_bare {es : List En} (h : RightT es) {p : Bs} (hp : p ≠ []) (hf : ∀ d ∈ es, d.path = p → dirK d.kind = false) : ∀ x ∈ es, parentP x.path ≠ p := by
  intro x hx e
  rcases homeP_iff.1 (h.home x hx) with h0 | ⟨d, hd, hdp, hdk⟩
  · rw [e] at h0; exact hp h0
  · rw [hf d hd (hdp.trans e)] at hdk; cases hdk
/-- Where nothing has a path as its parent nothing is below it. -/
theorem RightT.none_below {es : List En} (h : RightT es) {p : Bs} (hp : faultP p = 0) (hk : ∀ x ∈ es, parentP x.path ≠ p) : ∀ x ∈ es, belowB x.path p = false := by
  have : ∀ n, ∀ x ∈ es, x.path.length ≤ n → belowB x.path p = false := by
    intro n
    induction n with
    | zero =>
      intro x hx hl
      cases hb : belowB x.path p
      · rfl
      · have := below_len hb; omega
    | succ n ih =>
      intro x hx hl
      cases hb : belowB x.path p
      · rfl
      · exfalso
        obtain ⟨h0, h1⟩ := below_step (h.path hx) hp hb
        rcases h1 with h1 | h1
        · exact hk x hx h1
        · rcases homeP_iff.1 (h.home x hx) with h2 | ⟨d, hd, hdp, -⟩
          · exact h0 h2
          · have h3 := below_len (parent_above (h.path hx) h0).2
            have := ih d hd (by rw [hdp]; omega)
            rw [hdp, h1] at this; cases this
  exact fun x hx => this _ x hx (Nat.le_refl _)
/-- A right entry is put into a right tree. -/
theorem rightT_put {es : List En} {e : En} (h : RightT es) (he : entFault e = 0) (hek : treeK e.kind = true) (hh : homeP es e.path = true) (hl : (putE es e).length ≤ 40) : RightT (putE es e) := by
  have hpe := entFault_zero he
  refine ⟨hl, fun x hx => ?_, fun x hx => ?_, rise_putE h.rise, fun x hx => ?_⟩
  · rcases mem_putE.1 hx with rfl | ⟨hx, _⟩
    · exact hek
    · exact h.kind x hx
  · rcases mem_putE.1 hx with rfl | ⟨hx, _⟩
    · exact he
    · exact h.ent x hx
  · rw [homeP_iff]
    rcases mem_putE.1 hx with rfl | ⟨hx, hk⟩
    · rcases homeP_iff.1 hh with h0 | ⟨d, hd, hdp, hdk⟩
      · exact .inl h0
      · by_cases h0 : parentP x.path = []
        · exact .inl h0
        · have hb := (parent_above hpe h0).2
          have hlen := below_len hb
          refine .inr ⟨d, mem_putE.2 (.inr ⟨hd, ?_⟩), hdp, hdk⟩
          have h1 : d.path ≠ x.path := fun e => by rw [hdp] at e; rw [e] at hlen; omega
          have h2 : belowB d.path x.path = false := by
            cases h3 : belowB d.path x.path
            · rfl
            · have := below_len h3; rw [hdp] at this; omega
          simp [keepE, h1, h2]
    · have hpx := h.path hx
      rcases homeP_iff.1 (h.home x hx) with h0 | ⟨d, hd, hdp, hdk⟩
      · exact .inl h0
      · by_cases h0 : parentP x.path = []
        · exact .inl h0
        · have hb := (parent_above hpx h0).2
          rw [← hdp] at hb
          simp only [keepE, Bool.and_eq_true, Bool.not_eq_true', decide_eq_false_iff_not, Bool.or_eq_true] at hk
          by_cases hde : d.path = e.path
          · rcases hk.2 with hk2 | hk2
            · exact .inr ⟨e, mem_putE.2 (.inl rfl), by rw [← hde]; exact hdp, hk2⟩
            · rw [hde] at hb; rw [hb] at hk2; cases hk2
          · refine .inr ⟨d, mem_putE.2 (.inr ⟨hd, ?_⟩), hdp, hdk⟩
            simp only [keepE, Bool.and_eq_true, Bool.not_eq_true', decide_eq_false_iff_not, Bool.or_eq_true]
            refine ⟨hde, hk.2.elim .inl (fun hk2 => .inr ?_)⟩
            cases h3 : belowB d.path e.path
            · rfl
            · rw [below_trans hb h3] at hk2; cases hk2
/-- All but what is of a path. -/
def offE (es : List En) (p : Bs) : List En := es.filter fun x => !decide (x.path = p)
theorem mem_offE {es : List En} {p : Bs} {x : En} : x ∈ offE es p ↔ x ∈ es ∧ x.path ≠ p := by simp [offE]
theorem offE_len (es : List En) (p : Bs) : (offE es p).length ≤ es.length := List.length_filter_le _ _
theorem offE_lt {es : List En} {p : Bs} {x : En} (hx : x ∈ es) (hp : x.path = p) : (offE es p).length < es.length := by
  unfold offE
  rw [List.length_filter_lt_length_iff_exists]
  exact ⟨x, hx, by simp [hp]⟩
theorem offE_same {es : List En} {p : Bs} (h : ∀ x ∈ es, x.path ≠ p) : offE es p = es := by
  unfold offE
  rw [List.filter_eq_self]
  intro x hx
  simp [h x hx]
theorem rightT_off {es : List En} {p : Bs} (h : RightT es) (hk : ∀ x ∈ es, parentP x.path ≠ p) : RightT (offE es p) := by
  refine ⟨Nat.le_trans (offE_len es p) h.len, fun x hx => h.kind x (mem_offE.1 hx).1, fun x hx => h.ent x (mem_offE.1 hx).1, h.rise.sublist List.filter_sublist, fun x hx => ?_⟩
  obtain ⟨hx, hn⟩ := mem_offE.1 hx
  rw [homeP_iff]
  rcases homeP_iff.1 (h.home x hx) with h0 | ⟨d, hd, hdp, hdk⟩
  · exact .inl h0
  · exact .inr ⟨d, mem_offE.2 ⟨hd, fun e => hk x hx (hdp ▸ e)⟩, hdp, hdk⟩
theorem rest_off {es : List En} {p : Bs} (h : ∀ x ∈ es, belowB x.path p = false) : restE es p true = offE es p := by
  unfold restE offE
  apply List.filter_congr
  intro x hx
  simp [goesE, h x hx]
theorem base_off {es : List En} {e : En} (h : dirK e.kind = true ∨ ∀ x ∈ es, belowB x.path e.path = false) : baseE es e = offE es e.path := by
  unfold baseE offE
  apply List.filter_congr
  intro x hx
  unfold keepE
  rcases h with h | h
  · simp [h]
  · simp [h x hx]
theorem findE_off {es : List En} {p q : Bs} (h : q ≠ p) : findE (offE es p) q = findE es q := by
  unfold findE offE
  rw [List.find?_filter]
  congr 1
  funext x
  by_cases e : x.path = q
  · simp [e, h]
  · simp [e]
theorem findE_gone (es : List En) (p : Bs) : findE (offE es p) p = none := find_none (fun e he => (mem_offE.1 he).2)

/-- The home. -/
def homeC (es : List En) (p : Bs) : Int :=
  if parentP p = [] then 0 else
    match findE es (parentP p) with
    | none => 4
    | some e => if e.kind = 1 then 9 else 0
theorem homeC_top {es : List En} {p : Bs} (h : parentP p = []) : homeC es p = 0 := by simp [homeC, h]
theorem homeC_none {es : List En} {p : Bs} (h : parentP p ≠ []) (hf : findE es (parentP p) = none) : homeC es p = 4 := by simp [homeC, h, hf]
theorem homeC_file {es : List En} {p : Bs} {e : En} (h : parentP p ≠ []) (hf : findE es (parentP p) = some e) (hk : e.kind = 1) : homeC es p = 9 := by simp [homeC, h, hf, hk]
theorem homeC_dir {es : List En} {p : Bs} {e : En} (h : parentP p ≠ []) (hf : findE es (parentP p) = some e) (hk : e.kind ≠ 1) : homeC es p = 0 := by simp [homeC, h, hf, hk]
theorem homeC_home {es : List En} {p : Bs} (h : RightT es) : homeC es p = 0 ↔ homeP es p = true := by
  rw [homeP_eq h.rise]
  unfold homeC homeE
  by_cases h0 : parentP p = []
  · simp [h0]
  · rw [if_neg h0, if_neg h0]
    cases hf : findE es (parentP p) with
    | none => simp
    | some e =>
      rcases h.kinds (find_mem hf).1 with hk | hk
      · simp [hk, dirK]
      · simp [hk, dirK]
/-- What WriteTree replies. -/
def writeC (es : List En) (p : Bs) : Int :=
  if homeC es p = 0 then
    (match findE es p with
    | some e => if e.kind = 2 then 9 else 0
    | none => if 40 ≤ es.length then 2 else 0)
  else homeC es p
def writeL (es : List En) (p : Bs) (ds : List Int) : List En := if writeC es p = 0 then putE es (fileE p ds) else es
/-- What MakeDir replies. -/
def makeC (es : List En) (p : Bs) : Int :=
  if homeC es p = 0 then
    (match findE es p with
    | some _ => 7
    | none => if 40 ≤ es.length then 2 else 0)
  else homeC es p
def dirE (p : Bs) : En := ⟨p, 2, 0, []⟩
def makeL (es : List En) (p : Bs) : List En := if makeC es p = 0 then putE es (dirE p) else es
/-- What has a path as its parent. -/
def kidsE (es : List En) (p : Bs) : List En := es.filter fun x => decide (parentP x.path = p)
theorem kids_none {es : List En} {p : Bs} : kidsE es p = [] ↔ ∀ x ∈ es, parentP x.path ≠ p := by
  unfold kidsE
  rw [List.filter_eq_nil_iff]
  simp
/-- What RemoveTree replies. -/
def removeC (es : List En) (p : Bs) : Int :=
  match findE es p with
  | none => 4
  | some _ => if kidsE es p = [] then 0 else 1
def removeL (es : List En) (p : Bs) : List En := if removeC es p = 0 then offE es p else es
theorem dirE_right {p : Bs} (hp : faultP p = 0) : entFault (dirE p) = 0 := by
  rw [entFault_digs (e := dirE p) hp (by simp [formE, dirE]) (by simp [sizeE, dirE]) (by simp [manyE, dirE])]
  rfl
theorem putE_len2 {es : List En} {e : En} : (putE es e).length = (baseE es e).length + 1 := by
  unfold putE putAt
  simp only [List.length_append, List.length_cons, List.length_take, List.length_drop]
  omega
theorem put_len_in {es : List En} {e x : En} (hx : x ∈ es) (hp : x.path = e.path) : (putE es e).length ≤ es.length := by
  rw [putE_len2]
  have : (baseE es e).length < es.length := by
    unfold baseE
    rw [List.length_filter_lt_length_iff_exists]
    exact ⟨x, hx, by simp [keepE, hp]⟩
  omega
theorem put_len_le (es : List En) (e : En) : (putE es e).length ≤ es.length + 1 := by
  rw [putE_len2]
  have := baseE_len es e
  omega
theorem write_ok {es : List En} {p : Bs} (h : writeC es p = 0) : homeC es p = 0 ∧ (∀ e, findE es p = some e → e.kind ≠ 2) ∧ (findE es p = none → es.length < 40) := by
  unfold writeC at h
  by_cases h0 : homeC es p = 0
  · rw [if_pos h0] at h
    refine ⟨h0, fun e he => ?_, fun he => ?_⟩
    · rw [he] at h
      intro hk
      simp [hk] at h
    · rw [he] at h
      by_cases hl : 40 ≤ es.length
      · simp [hl] at h
      · omega
  · rw [if_neg h0] at h; exact absurd h h0
theorem make_ok {es : List En} {p : Bs} (h : makeC es p = 0) : homeC es p = 0 ∧ findE es p = none ∧ es.length < 40 := by
  unfold makeC at h
  by_cases h0 : homeC es p = 0
  · rw [if_pos h0] at h
    cases hf : findE es p with
    | some e => rw [hf] at h; simp at h
    | none =>
      rw [hf] at h
      by_cases hl : 40 ≤ es.length
      · simp [hl] at h
      · exact ⟨h0, rfl, by omega⟩
  · rw [if_neg h0] at h; exact absurd h h0
theorem remove_ok {es : List En} {p : Bs} (h : removeC es p = 0) : (∃ e, findE es p = some e) ∧ kidsE es p = [] := by
  unfold removeC at h
  cases hf : findE es p with
  | none => rw [hf] at h; simp at h
  | some e =>
    rw [hf] at h
    by_cases hk : kidsE es p = []
    · exact ⟨⟨e, rfl⟩, hk⟩
    · simp [hk] at h
theorem write_bare {es : List En} {p : Bs} (hR : RightT es) (hp : faultP p = 0) (h : writeC es p = 0) : ∀ x ∈ es, belowB x.path p = false := by
  have h0 : p ≠ [] := fun e => by rw [e] at hp; exact faultP_nil hp
  refine hR.none_below hp (hR.file_bare h0 (fun d hd hdp => ?_))
  have hf := rise_find hR.rise hd
  rw [hdp] at hf
  have := (write_ok h).2.1 d hf
  rw [hR.dir hd]
  simpa using this
theorem right_write {es : List En} {p : Bs} {ds : List Int} (hR : RightT es) (hp : faultP p = 0) (hd : entFault (fileE p ds) = 0) (h : writeC es p = 0) : RightT (putE es (fileE p ds)) := by
  obtain ⟨h1, h2, h3⟩ := write_ok h
  refine rightT_put hR hd rfl ((homeC_home hR).1 h1) ?_
  cases hf : findE es p with
  | none => have := h3 hf; have := put_len_le es (fileE p ds); omega
  | some e => have := put_len_in (e := fileE p ds) (find_mem hf).1 (find_mem hf).2; have := hR.len; omega
theorem right_make {es : List En} {p : Bs} (hR : RightT es) (hp : faultP p = 0) (h : makeC es p = 0) : RightT (putE es (dirE p)) := by
  obtain ⟨h1, h2, h3⟩ := make_ok h
  refine rightT_put hR (dirE_right hp) rfl ((homeC_home hR).1 h1) ?_
  have := put_len_le es (dirE p)
  omega
theorem right_remove {es : List En} {p : Bs} (hR : RightT es) (h : removeC es p = 0) : RightT (offE es p) := rightT_off hR (kids_none.1 (remove_ok h).2)
theorem rightT_writeL {es : List En} {p : Bs} {ds : List Int} (hR : RightT es) (hp : faultP p = 0) (hd : entFault (fileE p ds) = 0) : RightT (writeL es p ds) := by
  unfold writeL
  by_cases h : writeC es p = 0
  · rw [if_pos h]; exact right_write hR hp hd h
  · rw [if_neg h]; exact hR
theorem rightT_makeL {es : List En} {p : Bs} (hR : RightT es) (hp : faultP p = 0) : RightT (makeL es p) := by
  unfold makeL
  by_cases h : makeC es p = 0
  · rw [if_pos h]; exact right_make hR hp h
  · rw [if_neg h]; exact hR
theorem rightT_removeL {es : List En} {p : Bs} (hR : RightT es) : RightT (removeL es p) := by
  unfold removeL
  by_cases h : removeC es p = 0
  · rw [if_pos h]; exact right_remove hR h
  · rw [if_neg h]; exact hR
end Go.Proofs.YtlbccbikepkfiaaGreatDoor
