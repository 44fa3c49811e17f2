/-
  What leads from one tree to another one, as lists of entries: it is a layer without faults, and it leads there. Nothing of a program.
-/
import Derived.Test.YtjcjdedkedafbaaGreatMerL
namespace Go.Proofs.YtjcjdedkedafbaaGreat
set_option linter.unusedVariables false

def whiteE (p : Bs) : En := ⟨p, 3, 0, []⟩
theorem whiteE_right {p : Bs} (hp : faultP p = 0) : entFault (whiteE p) = 0 := by
  rw [entFault_digs (e := whiteE p) hp (by simp [formE, whiteE]) (by simp [sizeE, whiteE]) (by simp [manyE, whiteE])]
  rfl
/-- Is there an entry of a path? -/
def atP (es : List En) (p : Bs) : Bool := es.any fun y => decide (y.path = p)
theorem atP_iff {es : List En} {p : Bs} : atP es p = true ↔ ∃ y ∈ es, y.path = p := by simp [atP]
theorem atP_false {es : List En} {p : Bs} : atP es p = false ↔ ∀ y ∈ es, y.path ≠ p := by simp [atP]
theorem atP_find {es : List En} {p : Bs} : atP es p = false ↔ findE es p = none := by
  rw [atP_false]
  constructor
  · exact find_none
  · intro h y hy e
    have := List.find?_eq_none.1 h y hy
    simp [e] at this
/-- What is another one in the second tree. -/
def turnE (a b : List En) : List En := b.filter fun e => !(a.any fun y => decide (e = y))
/-- What goes. -/
def goneE (a b : List En) : List En := (a.filter fun e => !(atP b e.path) && decide (homeC b e.path = 0)).map fun e => whiteE e.path
/-- The directories that have one of these below them. -/
def homesE (b D : List En) : List En := b.filter fun e => (D.any fun y => isBelow y.path e.path) && !(atP D e.path)
/-- What leads from a to b, in no order: without the directories, and with them. -/
def diffU (a b : List En) : List En := turnE a b ++ goneE a b
def diffA (a b : List En) : List En := diffU a b ++ homesE b (diffU a b)
/-- In order. -/
def sortE (l : List En) : List En := l.foldl putAt []
def diffE (a b : List En) : List En := sortE (diffA a b)

theorem mem_turn {a b : List En} {e : En} : e ∈ turnE a b ↔ e ∈ b ∧ e ∉ a := by
  simp only [turnE, List.mem_filter, Bool.not_eq_true', List.any_eq_false, decide_eq_true_eq]
  exact ⟨fun h => ⟨h.1, fun he => h.2 e he rfl⟩, fun h => ⟨h.1, fun x hx e1 => h.2 (e1 ▸ hx)⟩⟩
theorem mem_gone {a b : List En} {e : En} : e ∈ goneE a b ↔ ∃ x ∈ a, (∀ y ∈ b, y.path ≠ x.path) ∧ homeC b x.path = 0 ∧ e = whiteE x.path := by
  simp only [goneE, List.mem_map, List.mem_filter, Bool.and_eq_true, Bool.not_eq_true', atP_false, decide_eq_true_eq]
  exact ⟨fun ⟨x, ⟨h1, h2, h3⟩, h4⟩ => ⟨x, h1, h2, h3, h4.symm⟩, fun ⟨x, h1, h2, h3, h4⟩ => ⟨x, ⟨h1, h2, h3⟩, h4.symm⟩⟩
theorem mem_homes {b D : List En} {e : En} : e ∈ homesE b D ↔ e ∈ b ∧ (∃ y ∈ D, isBelow y.path e.path = true) ∧ ∀ y ∈ D, y.path ≠ e.path := by
  simp only [homesE, List.mem_filter, Bool.and_eq_true, Bool.not_eq_true', atP_false, List.any_eq_true]

/-- No path is there twice. -/
def Once (l : List En) : Prop := l.Pairwise fun x y => x.path ≠ y.path
theorem rise_once {l : List En} (h : Rise l) : Once l := h.imp (fun h => bl_ne h)
theorem foldl_put : ∀ (l acc : List En), Rise acc → Once l → (∀ x ∈ acc, ∀ y ∈ l, x.path ≠ y.path) → Rise (l.foldl putAt acc) ∧ (l.foldl putAt acc).length = acc.length + l.length ∧ ∀ x, x ∈ l.foldl putAt acc ↔ x ∈ acc ∨ x ∈ l
  | [], acc, h, _, _ => ⟨h, by simp, fun x => by simp⟩
  | e :: l, acc, h, ho, hd => by
    have ho' := List.pairwise_cons.1 ho
    have hr := rise_putAt (e := e) h (fun x hx => hd x hx e List.mem_cons_self)
    obtain ⟨h1, h2, h3⟩ := foldl_put l (putAt acc e) hr ho'.2 (fun x hx y hy => by
      rcases mem_putAt.1 hx with rfl | hx
      · exact ho'.1 y hy
      · exact hd x hx y (List.mem_cons_of_mem _ hy))
    refine ⟨h1, by rw [List.foldl_cons, h2, putAt_length, List.length_cons]; omega, fun x => ?_⟩
    rw [List.foldl_cons, h3, mem_putAt, List.mem_cons]
    exact ⟨fun h => h.elim (fun h => h.elim (fun h => .inr (.inl h)) .inl) (fun h => .inr (.inr h)), fun h => h.elim (fun h => .inl (.inr h)) (fun h => h.elim (fun h => .inl (.inl h)) .inr)⟩
theorem sort_rise {l : List En} (h : Once l) : Rise (sortE l) := (foldl_put l [] List.Pairwise.nil h (fun x hx => by simp at hx)).1
theorem sort_len {l : List En} (h : Once l) : (sortE l).length = l.length := by
  have := (foldl_put l [] List.Pairwise.nil h (fun x hx => by simp at hx)).2.1
  simpa [sortE] using this
theorem mem_sort {l : List En} (h : Once l) {x : En} : x ∈ sortE l ↔ x ∈ l := by
  have := (foldl_put l [] List.Pairwise.nil h (fun x hx => by simp at hx)).2.2 x
  simpa [sortE] using this
/-- Rising lists with the same members are one. -/
theorem rise_mem {l1 l2 : List En} (h1 : Rise l1) (h2 : Rise l2) (h : ∀ x, x ∈ l1 ↔ x ∈ l2) : l1 = l2 := by
  refine rise_ext h1 h2 (fun q => ?_)
  cases hf : findE l1 q with
  | some x =>
    have hx := find_mem hf
    have := rise_find h2 ((h x).1 hx.1)
    rw [hx.2] at this
    exact this.symm
  | none =>
    symm
    refine find_none (fun x hx e => ?_)
    have := rise_find h1 ((h x).2 hx)
    rw [e, hf] at this
    cases this

theorem diffU_mem {a b : List En} {e : En} : e ∈ diffU a b ↔ (e ∈ b ∧ e ∉ a) ∨ ∃ x ∈ a, (∀ y ∈ b, y.path ≠ x.path) ∧ homeC b x.path = 0 ∧ e = whiteE x.path := by
  rw [diffU, List.mem_append, mem_turn, mem_gone]
theorem diffU_once {a b : List En} (ha : RightT a) (hb : RightT b) : Once (diffU a b) := by
  unfold Once diffU
  rw [List.pairwise_append]
  refine ⟨(rise_once hb.rise).sublist List.filter_sublist, ?_, fun x hx y hy => ?_⟩
  · unfold goneE
    rw [List.pairwise_map]
    exact ((rise_once ha.rise).sublist List.filter_sublist).imp (fun h => h)
  · obtain ⟨z, -, hz, -, rfl⟩ := mem_gone.1 hy
    exact hz x (mem_turn.1 hx).1
theorem diffA_once {a b : List En} (ha : RightT a) (hb : RightT b) : Once (diffA a b) := by
  unfold diffA Once
  rw [List.pairwise_append]
  refine ⟨diffU_once ha hb, (rise_once hb.rise).sublist List.filter_sublist, fun x hx y hy => (mem_homes.1 hy).2.2 x hx⟩
theorem diffU_path {a b : List En} (ha : RightT a) (hb : RightT b) {e : En} (h : e ∈ diffU a b) : faultP e.path = 0 := by
  rcases diffU_mem.1 h with ⟨h1, -⟩ | ⟨x, hx, -, -, rfl⟩
  · exact hb.path h1
  · exact (show faultP x.path = 0 from ha.path hx)
/-- What is above one of these is a directory of b. -/
theorem diffU_up {a b : List En} (ha : RightT a) (hb : RightT b) {e : En} {p : Bs} (h : e ∈ diffU a b) (hp : faultP p = 0) (hbe : belowB e.path p = true) : ∃ d ∈ b, d.path = p ∧ d.kind = 2 := by
  have hfb := (rightT_fit.1 hb).1
  have key : ∀ x ∈ b, belowB x.path p = true → ∃ d ∈ b, d.path = p ∧ d.kind = 2 := fun x hx hxb => by
    obtain ⟨d, hd, hdp, hdk⟩ := hfb.fit.up hp hx hxb
    exact ⟨d, hd, hdp, hfb.dir hd hdk⟩
  rcases diffU_mem.1 h with ⟨h1, -⟩ | ⟨x, hx, -, hh, rfl⟩
  · exact key e h1 hbe
  · have hpx := ha.path hx
    obtain ⟨h0, h1⟩ := below_step hpx hp hbe
    rcases homeP_iff.1 ((homeC_home hb).1 hh) with h2 | ⟨d, hd, hdp, hdk⟩
    · exact absurd h2 h0
    · rcases h1 with h1 | h1
      · exact ⟨d, hd, hdp.trans h1, hfb.dir hd hdk⟩
      · exact key d hd (by rw [hdp]; exact h1)
theorem diffA_mem {a b : List En} (ha : RightT a) (hb : RightT b) {e : En} : e ∈ diffA a b ↔ e ∈ diffU a b ∨ (e ∈ b ∧ (∃ y ∈ diffU a b, belowB y.path e.path = true) ∧ ∀ y ∈ diffU a b, y.path ≠ e.path) := by
  rw [diffA, List.mem_append, mem_homes]
  constructor
  · rintro (h | ⟨h1, ⟨y, hy, hyb⟩, h3⟩)
    · exact .inl h
    · exact .inr ⟨h1, ⟨y, hy, by rwa [isBelow_eq (diffU_path ha hb hy) (hb.path h1)] at hyb⟩, h3⟩
  · rintro (h | ⟨h1, ⟨y, hy, hyb⟩, h3⟩)
    · exact .inl h
    · exact .inr ⟨h1, ⟨y, hy, by rwa [isBelow_eq (diffU_path ha hb hy) (hb.path h1)]⟩, h3⟩
theorem diff_mem {a b : List En} (ha : RightT a) (hb : RightT b) {e : En} : e ∈ diffE a b ↔ e ∈ diffA a b := mem_sort (diffA_once ha hb)
theorem diff_rise {a b : List En} (ha : RightT a) (hb : RightT b) : Rise (diffE a b) := sort_rise (diffA_once ha hb)
theorem diff_length {a b : List En} (ha : RightT a) (hb : RightT b) : (diffE a b).length = (diffA a b).length := sort_len (diffA_once ha hb)
/-- What leads there is of b, or a white of a path that is not in b. -/
theorem diff_kinds {a b : List En} (ha : RightT a) (hb : RightT b) {e : En} (h : e ∈ diffE a b) : e ∈ b ∨ (e.kind = 3 ∧ e = whiteE e.path ∧ (∀ y ∈ b, y.path ≠ e.path) ∧ homeC b e.path = 0 ∧ faultP e.path = 0) := by
  rcases (diffA_mem ha hb).1 ((diff_mem ha hb).1 h) with h1 | h1
  · rcases diffU_mem.1 h1 with ⟨h2, -⟩ | ⟨x, hx, h2, h3, rfl⟩
    · exact .inl h2
    · exact .inr ⟨rfl, rfl, h2, h3, (show faultP x.path = 0 from ha.path hx)⟩
  · exact .inl h1.1
theorem diff_dir {a b : List En} (ha : RightT a) (hb : RightT b) {y d : En} (hy : y ∈ diffU a b) (hd : d ∈ b) (hb2 : belowB y.path d.path = true) : d ∈ diffE a b := by
  rw [diff_mem ha hb, diffA_mem ha hb]
  by_cases hx : ∃ z ∈ diffU a b, z.path = d.path
  · obtain ⟨z, hz, hzp⟩ := hx
    rcases diffU_mem.1 hz with ⟨h1, h2⟩ | ⟨x, -, h1, -, rfl⟩
    · rw [hb.only h1 hd hzp] at hz
      exact .inl hz
    · exact absurd hzp.symm (h1 d hd)
  · exact .inr ⟨hd, ⟨y, hy, hb2⟩, fun z hz e => hx ⟨z, hz, e⟩⟩
theorem diff_below {a b : List En} (ha : RightT a) (hb : RightT b) {e : En} (h : e ∈ diffE a b) : e ∈ diffU a b ∨ ∃ y ∈ diffU a b, belowB y.path e.path = true := by
  rcases (diffA_mem ha hb).1 ((diff_mem ha hb).1 h) with h1 | h1
  · exact .inl h1
  · exact .inr h1.2.1
theorem diff_fit {a b : List En} (ha : RightT a) (hb : RightT b) : Fit (diffE a b) := by
  refine ⟨fun e he => ?_, diff_rise ha hb, fun e he => ?_⟩
  · rcases diff_kinds ha hb he with h | ⟨-, h, -, -, hp⟩
    · exact hb.ent e h
    · rw [h]; exact whiteE_right hp
  · rw [homeP_iff]
    by_cases h0 : parentP e.path = []
    · exact .inl h0
    · refine .inr ?_
      have hpe : faultP e.path = 0 := by
        rcases diff_kinds ha hb he with h | ⟨-, -, -, -, hp⟩
        · exact hb.path h
        · exact hp
      obtain ⟨hpp, hpb⟩ := parent_above hpe h0
      obtain ⟨d, hd, hdp, hdk⟩ : ∃ d ∈ b, d.path = parentP e.path ∧ dirK d.kind = true := by
        rcases diff_kinds ha hb he with h | ⟨-, -, -, hh, -⟩
        · rcases homeP_iff.1 (hb.home e h) with h1 | h1
          · exact absurd h1 h0
          · exact h1
        · rcases homeP_iff.1 ((homeC_home hb).1 hh) with h1 | h1
          · exact absurd h1 h0
          · exact h1
      refine ⟨d, ?_, hdp, hdk⟩
      rcases diff_below ha hb he with h1 | ⟨y, hy, hyb⟩
      · exact diff_dir ha hb h1 hd (by rw [hdp]; exact hpb)
      · exact diff_dir ha hb hy hd (by rw [hdp]; exact below_trans hyb hpb)
/-- What is in a and not in b is white, or something above it hides it. -/
theorem diff_hides {a b : List En} (ha : RightT a) (hb : RightT b) : ∀ n, ∀ x ∈ a, x.path.length ≤ n → (∀ y ∈ b, y.path ≠ x.path) → whiteE x.path ∈ diffE a b ∨ hid (diffE a b) x.path = true := by
  intro n
  induction n with
  | zero =>
    intro x hx hl
    exfalso
    have := ha.path hx
    have h0 : x.path = [] := List.length_eq_zero_iff.1 (by omega)
    rw [h0] at this
    exact faultP_nil this
  | succ n ih =>
    intro x hx hl hnb
    by_cases hh : homeC b x.path = 0
    · left
      rw [diff_mem ha hb, diffA_mem ha hb]
      exact .inl (diffU_mem.2 (.inr ⟨x, hx, hnb, hh, rfl⟩))
    · right
      have h0 : parentP x.path ≠ [] := fun e => hh (homeC_top e)
      obtain ⟨hpp, hpb⟩ := parent_above (ha.path hx) h0
      have hlen := below_len hpb
      obtain ⟨d, hd, hdp, hdk⟩ : ∃ d ∈ a, d.path = parentP x.path ∧ dirK d.kind = true := by
        rcases homeP_iff.1 (ha.home x hx) with h1 | h1
        · exact absurd h1 h0
        · exact h1
      cases hf : findE b (parentP x.path) with
      | none =>
        have hnb2 : ∀ y ∈ b, y.path ≠ d.path := fun y hy e => by
          have := rise_find hb.rise hy
          rw [e, hdp, hf] at this
          cases this
        rcases ih d hd (by rw [hdp]; omega) hnb2 with h1 | h1
        · exact hid_iff.2 ⟨_, h1, by show (3 : Int) ≠ 2; decide, by show belowB x.path d.path = true; rw [hdp]; exact hpb⟩
        · obtain ⟨e, he, hk, hbe⟩ := hid_iff.1 h1
          exact hid_iff.2 ⟨e, he, hk, below_trans (by rw [hdp]; exact hpb) hbe⟩
      | some f =>
        obtain ⟨hfm, hfp⟩ := find_mem hf
        have hfk : f.kind = 1 := by
          rcases hb.kinds hfm with h1 | h1
          · exact h1
          · exact absurd (homeC_dir h0 hf (by omega)) hh
        have hfa : f ∉ a := fun hfa => by
          have := ha.only hfa hd (by rw [hfp, hdp])
          rw [this] at hfk
          rw [hfk] at hdk
          cases hdk
        refine hid_iff.2 ⟨f, ?_, by omega, by rw [hfp]; exact hpb⟩
        rw [diff_mem ha hb, diffA_mem ha hb]
        exact .inl (diffU_mem.2 (.inl ⟨hfm, hfa⟩))
/-- It leads there. -/
theorem diff_leads {a b : List En} (ha : RightT a) (hb : RightT b) : mergeE a (diffE a b) = b := by
  have hfa := (rightT_fit.1 ha).1
  have hfb := (rightT_fit.1 hb).1
  have hD := diff_fit ha hb
  refine rise_ext (merge_fit hfa hD).fit.rise hb.rise (fun q => ?_)
  rw [merge_find hfa hD]
  cases hf : findE (diffE a b) q with
  | some e =>
    obtain ⟨hem, hep⟩ := find_mem hf
    rw [seeT_some hf]
    rcases diff_kinds ha hb hem with h | ⟨hk, -, hnb, -, -⟩
    · have hkk := hb.kinds h
      rw [if_neg (show ¬ e.kind = 3 by omega)]
      have : asT e = e := by unfold asT; rw [if_neg (show ¬ e.kind = 4 by omega)]
      rw [this, ← hep, rise_find hb.rise h]
    · rw [if_pos hk]
      exact (find_none (fun y hy => by rw [← hep]; exact hnb y hy)).symm
  | none =>
    rw [seeT_none hf]
    cases hh : hid (diffE a b) q
    · rw [if_neg Bool.false_ne_true]
      cases hbq : findE b q with
      | some e =>
        obtain ⟨hem, hep⟩ := find_mem hbq
        have hea : e ∈ a := by
          by_cases hea : e ∈ a
          · exact hea
          · exfalso
            have h1 : e ∈ diffE a b := by
              rw [diff_mem ha hb, diffA_mem ha hb]
              exact .inl (diffU_mem.2 (.inl ⟨hem, hea⟩))
            have := rise_find hD.rise h1
            rw [hep, hf] at this
            cases this
        rw [← hep, rise_find ha.rise hea]
      | none =>
        refine find_none (fun x hx hxq => ?_)
        have hnb : ∀ y ∈ b, y.path ≠ x.path := fun y hy e => by
          have := rise_find hb.rise hy
          rw [e, hxq, hbq] at this
          cases this
        rcases diff_hides ha hb _ x hx (Nat.le_refl _) hnb with h1 | h1
        · have := rise_find hD.rise h1
          have e1 : (whiteE x.path).path = q := hxq
          rw [e1, hf] at this
          cases this
        · rw [hxq, hh] at h1
          cases h1
    · rw [if_pos rfl]
      obtain ⟨e, hem, hk, hbe⟩ := hid_iff.1 hh
      symm
      refine find_none (fun y hy hyq => ?_)
      rw [← hyq] at hbe
      have hep := hD.path hem
      obtain ⟨d, hd, hdp, hdk⟩ := hfb.fit.up hep hy hbe
      rcases diff_kinds ha hb hem with h | ⟨-, -, hnb, -, -⟩
      · rw [hb.only hd h hdp] at hdk
        rw [show dirK e.kind = decide (e.kind = 2) from hb.dir h] at hdk
        exact hk (of_decide_eq_true hdk)
      · exact hnb d hd hdp
/-- Of the same to the same it is empty. -/
theorem diff_same {b : List En} (hb : RightT b) : diffE b b = [] := by
  have h1 : turnE b b = [] := by
    rw [List.eq_nil_iff_forall_not_mem]
    intro e he
    exact (mem_turn.1 he).2 (mem_turn.1 he).1
  have h2 : goneE b b = [] := by
    rw [List.eq_nil_iff_forall_not_mem]
    intro e he
    obtain ⟨x, hx, hn, -⟩ := mem_gone.1 he
    exact hn x hx rfl
  have h3 : homesE b [] = [] := by
    rw [List.eq_nil_iff_forall_not_mem]
    intro e he
    obtain ⟨-, ⟨y, hy, -⟩, -⟩ := mem_homes.1 he
    simp at hy
  have h4 : diffU b b = [] := by rw [diffU, h1, h2]; rfl
  rw [diffE, diffA, h4, h3]
  rfl
end Go.Proofs.YtjcjdedkedafbaaGreat
