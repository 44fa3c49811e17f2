/-
  Texts put together: SnpP SnpA SnpB SnpC SnpD.
-/
import Derived.Test.YteegkblkfdnfiaaGreatKTold13
import Derived.Test.YteegkblkfdnfiaaGreatKTold9
import Derived.Test.YteegkblkfdnfiaaGreatKTold8
import Derived.Shelf.Abstract
namespace Go.Proofs.YteegkblkfdnfiaaGreat
set_option linter.unusedVariables false

theorem fileCode_len {p : Bs} {zs : List Int} (hp : faultP p = 0) (hfc : fileCode p zs = 0) : zs.length ≤ 24 := by
  rw [fileCode, if_pos hp] at hfc
  by_cases hb : 24 < zs.length
  · rw [if_pos hb] at hfc; cases hfc
  · omega
theorem wov_wr {ls : List (List En)} {U : List En} {p : Bs} {zs : List Int} {q rep : Int} {V : List En} (h : WovOf ls U p zs q rep V) (hz : askL (ls ++ [U]) p = 0) (hfc : fileCode p zs = 0) : q = 0 ∧ WrS (allE (ls ++ [U])) U p (fileE p zs) rep V := by
  obtain ⟨ht, hU, hp, hT⟩ := parts_of hz
  have hF := (right_fit.1 hU).1
  have hwv := wov_view (ask_zero hz).1 hp
  by_cases hw : wovR (ls ++ [U]) p = 0
  · obtain ⟨a1, a2, a3⟩ := h.yes hz hfc hw
    rw [hwv] at hw
    have hfw := fills_wrt hU (fileE_right hp (fileCode_len hp hfc)) (dirs_ok ht hF hp (by rw [← hT]; exact home_of_wr hw))
    rw [← a2, ← a3] at hfw
    exact ⟨a1, WrS.fill hw hfw⟩
  · obtain ⟨a1, a2, a3⟩ := h.no hz hfc hw
    rw [a3, a2, hwv]
    rw [hwv] at hw
    exact ⟨a1, WrS.stay rfl hw⟩
theorem mov_mk {ls : List (List En)} {U : List En} {p : Bs} {q rep : Int} {V : List En} (h : MovOf ls U p q rep V) (hz : askL (ls ++ [U]) p = 0) : q = 0 ∧ MkS (allE (ls ++ [U])) U p rep V := by
  obtain ⟨ht, hU, hp, hT⟩ := parts_of hz
  have hF := (right_fit.1 hU).1
  have hwv := mov_view (ask_zero hz).1 hp
  by_cases hw : movR (ls ++ [U]) p = 0
  · obtain ⟨a1, a2, a3⟩ := h.yes hz hw
    rw [hwv] at hw
    rw [dirKd_F (T := []) ht hU hp (by rw [← hT]; exact hw)] at a2 a3
    obtain ⟨he, hep, -, -⟩ := dirF_ent (U := U) hp
    have hfw := fills_wrt hU he (by rw [hep]; exact dirs_ok ht hF hp (by rw [← hT]; exact home_of_mk hw))
    rw [← a2, ← a3] at hfw
    exact ⟨a1, MkS.fill hw hfw⟩
  · obtain ⟨a1, a2, a3⟩ := h.no hz hw
    rw [a3, a2, hwv]
    rw [hwv] at hw
    exact ⟨a1, MkS.stay rfl hw⟩
theorem rov_rm {ls : List (List En)} {U : List En} {p : Bs} {q rep : Int} {V : List En} (h : RovOf ls U p q rep V) (hz : askL (ls ++ [U]) p = 0) : q = 0 ∧ RmS ls (allE (ls ++ [U])) U p rep V := by
  obtain ⟨ht, hU, hp, hT⟩ := parts_of hz
  have hF := (right_fit.1 hU).1
  have hlay := (ask_zero hz).1
  have hwv := rov_view hlay hp
  have hre : restP U p = restE U p true := restP_eq (fun x hx => entFault_zero (hU.ent x hx)) hp
  have hlr : layersP (ls ++ [restE U p true]) = 0 := layersP_zero.2 ⟨by simpa using (layersP_zero.1 hlay).1, fun es he => by
    rcases List.mem_append.1 he with he | he
    · exact (layersP_zero.1 hlay).2 es (List.mem_append_left _ he)
    · simp at he; subst he; exact right_restE hU hp⟩
  have hpl := (look_all (askL_of hlr hp)).1
  by_cases hw : rovR (ls ++ [U]) p = 0
  · by_cases hg : findE (allE (ls ++ [restE U p true])) p = none
    · have hg2 : plcC (ls ++ [restP U p]) p ≠ 0 := by rw [hre, hpl, hg]; decide
      obtain ⟨a1, a2, a3⟩ := h.gone hz hw hg2
      rw [hre] at a3
      exact ⟨a1, ⟨fun h2 => absurd (hwv.symm.trans hw) h2, fun _ _ => ⟨a2, a3⟩, fun _ h2 => absurd hg h2⟩⟩
    · have hg2 : plcC (ls ++ [restP U p]) p = 0 := by
        rw [hre, hpl]
        cases hs : findE (allE (ls ++ [restE U p true])) p with
        | none => exact absurd hs hg
        | some x => rfl
      obtain ⟨a1, a2, a3⟩ := h.white hz hw hg2
      have hT2 : FitT (allE (ls ++ [U])) := by rw [hT]; exact merge_fit ht hF
      have hx : ∃ x, findE (allE (ls ++ [U])) p = some x := by
        have hw2 := hw
        rw [hwv, rm_remove hT2 hp] at hw2
        cases hs : findE (allE (ls ++ [U])) p with
        | none => rw [removeC, hs] at hw2; cases hw2
        | some x => exact ⟨x, rfl⟩
      obtain ⟨x, hx⟩ := hx
      have hh : homeC (mergeE (allE ls) U) p = 0 := by rw [← hT]; exact home_seen hT2 hx
      have hfw := fills_wrt hU (whiteQ_ent hp) (dirs_ok ht hF hp hh)
      have a2' : rep = wrtR U (whiteQ p) := a2
      have a3' : V = wrtL U (whiteQ p) := a3
      rw [← a2', ← a3'] at hfw
      refine ⟨a1, ⟨fun h2 => absurd (hwv.symm.trans hw) h2, fun _ h2 => absurd h2 hg, fun _ _ => ?_⟩⟩
      have hwr : fillS (restE U p true) (whiteQ p) = fillS U (whiteQ p) := white_rest hU.rise hp
      show FillsO U (restE U p true) (whiteQ p) rep V
      unfold FillsO
      rw [hwr]
      exact hfw
  · obtain ⟨a1, a2, a3⟩ := h.no hz hw
    rw [a3, a2, hwv]
    rw [hwv] at hw
    exact ⟨a1, RmS.stay rfl hw⟩
structure DeedOf (ls : List (List En)) (U : List En) (p : Bs) (zs : List Int) (k : Int) (q rep : Int) (V : List En) : Prop where
  wri : k = 1 → WovOf ls U p zs q rep V
  mak : k = 2 → MovOf ls U p q rep V
  rem : k = 3 → RovOf ls U p q rep V
theorem ask_of_layers {ls : List (List En)} {p : Bs} (hz : askL ls p = 0) : ∀ es ∈ ls, Right es := (layersP_zero.1 (ask_zero hz).1).2
theorem deed_right {ls : List (List En)} {U : List En} {p : Bs} {zs : List Int} {k rep : Int} {V : List En} (hk : 1 ≤ k ∧ k ≤ 3) (h : DeedOf ls U p zs k 0 rep V) : Right V := by
  have h3 : k = 1 ∨ k = 2 ∨ k = 3 := by omega
  rcases h3 with rfl | rfl | rfl
  · have h1 := h.wri rfl
    have hz : askL (ls ++ [U]) p = 0 := by
      by_cases hz : askL (ls ++ [U]) p = 0
      · exact hz
      · exact absurd (h1.bad hz).1.symm hz
    have hfc : fileCode p zs = 0 := by
      by_cases hfc : fileCode p zs = 0
      · exact hfc
      · exact absurd (h1.big hz hfc).1.symm hfc
    have hp := (parts_of hz).2.2.1
    exact wr_right (ask_of_layers hz) hp (fileCode_len hp hfc) (wov_wr h1 hz hfc).2
  · have h1 := h.mak rfl
    have hz : askL (ls ++ [U]) p = 0 := by
      by_cases hz : askL (ls ++ [U]) p = 0
      · exact hz
      · exact absurd (h1.bad hz).1.symm hz
    exact mk_right (ask_of_layers hz) (parts_of hz).2.2.1 (mov_mk h1 hz).2
  · have h1 := h.rem rfl
    have hz : askL (ls ++ [U]) p = 0 := by
      by_cases hz : askL (ls ++ [U]) p = 0
      · exact hz
      · exact absurd (h1.bad hz).1.symm hz
    exact rm_right (ask_of_layers hz) (parts_of hz).2.2.1 (rov_rm h1 hz).2
def orI (q rep : Int) : Int := if q = 0 then rep else q
theorem orI_zero {q rep : Int} (h : orI q rep = 0) : q = 0 ∧ rep = 0 := by
  unfold orI at h
  by_cases hq : q = 0
  · rw [if_pos hq] at h; exact ⟨hq, h⟩
  · rw [if_neg hq] at h; exact absurd h hq
end Go.Proofs.YteegkblkfdnfiaaGreat

namespace Go.Proofs.YteegkblkfdnfiaaGreat
open Go.RowKit Go.Maps
set_option linter.unusedVariables false
attribute [local go_sem ↓] Go.wp_at_zero Go.wp_at_succ

def Five (w : World) (b : Nat) (u0 u1 u2 u3 u4 : Value) : Prop := w.cell? ⟨b, 0, none⟩ = some u0 ∧ w.cell? ⟨b, 1, none⟩ = some u1 ∧ w.cell? ⟨b, 2, none⟩ = some u2 ∧ w.cell? ⟨b, 3, none⟩ = some u3 ∧ w.cell? ⟨b, 4, none⟩ = some u4
theorem Five.new (w : World) (u0 u1 u2 u3 u4 : Value) (t : TypeId) : Five (w.alloc (.cells #[u0, u1, u2, u3, u4] t)) w.heap.size u0 u1 u2 u3 u4 := ⟨by simp, by simp, by simp, by simp, by simp⟩
theorem Five.lt {w : World} {b : Nat} {u0 u1 u2 u3 u4 : Value} (h : Five w b u0 u1 u2 u3 u4) : b < w.heap.size := World.block_lt_of_cell? w ⟨b, 0, none⟩ h.1
theorem Five.below {w w' : World} {b : Nat} {u0 u1 u2 u3 u4 : Value} (h : Five w b u0 u1 u2 u3 u4) (hk : Below w.heap.size w w') : Five w' b u0 u1 u2 u3 u4 :=
  ⟨(hk.cell (p := ⟨b, 0, none⟩) h.lt).trans h.1, (hk.cell (p := ⟨b, 1, none⟩) h.lt).trans h.2.1, (hk.cell (p := ⟨b, 2, none⟩) h.lt).trans h.2.2.1, (hk.cell (p := ⟨b, 3, none⟩) h.lt).trans h.2.2.2.1, (hk.cell (p := ⟨b, 4, none⟩) h.lt).trans h.2.2.2.2⟩
theorem Five.kept {S : Nat → Prop} {w w' : World} {b : Nat} {u0 u1 u2 u3 u4 : Value} (h : Five w b u0 u1 u2 u3 u4) (hk : Kept S w w') (hn : ¬ S b) : Five w' b u0 u1 u2 u3 u4 :=
  ⟨(hk.cell (p := ⟨b, 0, none⟩) h.lt hn).trans h.1, (hk.cell (p := ⟨b, 1, none⟩) h.lt hn).trans h.2.1, (hk.cell (p := ⟨b, 2, none⟩) h.lt hn).trans h.2.2.1, (hk.cell (p := ⟨b, 3, none⟩) h.lt hn).trans h.2.2.2.1, (hk.cell (p := ⟨b, 4, none⟩) h.lt hn).trans h.2.2.2.2⟩
def Box5 (w : World) (b : Nat) (u0 u1 u2 u3 u4 : Value) : Prop := Five w b u0 u1 u2 u3 u4 ∧ ∀ i, w.frozen? ⟨b, i, none⟩ = false
theorem Box5.new (w : World) (u0 u1 u2 u3 u4 : Value) (t : TypeId) : Box5 (w.alloc (.cells #[u0, u1, u2, u3, u4] t)) w.heap.size u0 u1 u2 u3 u4 := ⟨Five.new w u0 u1 u2 u3 u4 t, fun i => by simp⟩
theorem Box5.below {w w' : World} {b : Nat} {u0 u1 u2 u3 u4 : Value} (h : Box5 w b u0 u1 u2 u3 u4) (hk : Below w.heap.size w w') : Box5 w' b u0 u1 u2 u3 u4 :=
  ⟨h.1.below hk, fun i => (hk.frozen (p := ⟨b, i, none⟩) h.1.lt).trans (h.2 i)⟩
theorem Below.five {w w' : World} {b : Nat} (h : Below w.heap.size w w') (hb : w.heap.size ≤ b) (u0 u1 u2 u3 u4 : Value) : Below w.heap.size w (((((w'.setCell ⟨b, 0, none⟩ u0).setCell ⟨b, 1, none⟩ u1).setCell ⟨b, 2, none⟩ u2).setCell ⟨b, 3, none⟩ u3).setCell ⟨b, 4, none⟩ u4) :=
  ((((h.setCell (p := ⟨b, 0, none⟩) hb _).setCell (p := ⟨b, 1, none⟩) hb _).setCell (p := ⟨b, 2, none⟩) hb _).setCell (p := ⟨b, 3, none⟩) hb _).setCell (p := ⟨b, 4, none⟩) hb _

theorem Kept.five (w : World) (b : Nat) (u0 u1 u2 u3 u4 : Value) : Kept (fun x => x = b) w (((((w.setCell ⟨b, 0, none⟩ u0).setCell ⟨b, 1, none⟩ u1).setCell ⟨b, 2, none⟩ u2).setCell ⟨b, 3, none⟩ u3).setCell ⟨b, 4, none⟩ u4) :=
  Kept.setCell (S := fun x => x = b) (p := ⟨b, 4, none⟩) (Kept.setCell (S := fun x => x = b) (p := ⟨b, 3, none⟩) (Kept.setCell (S := fun x => x = b) (p := ⟨b, 2, none⟩) (Kept.setCell (S := fun x => x = b) (p := ⟨b, 1, none⟩) (Kept.setCell (S := fun x => x = b) (p := ⟨b, 0, none⟩) (Kept.refl _ w) (fun _ => rfl) u0) (fun _ => rfl) u1) (fun _ => rfl) u2) (fun _ => rfl) u3) (fun _ => rfl) u4
theorem Box5.set {w : World} {b : Nat} {a0 a1 a2 a3 a4 : Value} (h : Box5 w b a0 a1 a2 a3 a4) (u0 u1 u2 u3 u4 : Value) : Box5 (((((w.setCell ⟨b, 0, none⟩ u0).setCell ⟨b, 1, none⟩ u1).setCell ⟨b, 2, none⟩ u2).setCell ⟨b, 3, none⟩ u3).setCell ⟨b, 4, none⟩ u4) b u0 u1 u2 u3 u4 := by
  obtain ⟨⟨t0, t1, t2, t3, t4⟩, tf⟩ := h
  have ne : ∀ i j : Nat, i ≠ j → (⟨b, i, none⟩ : Addr) ≠ ⟨b, j, none⟩ := fun i j hij e => hij (by injection e)
  refine ⟨⟨?_, ?_, ?_, ?_, ?_⟩, fun i => by simp only [World.frozen?_setCell]; exact tf i⟩
  · rw [cell_set_other (ne 4 0 (by decide)), cell_set_other (ne 3 0 (by decide)), cell_set_other (ne 2 0 (by decide)), cell_set_other (ne 1 0 (by decide))]
    exact cell_set_same t0
  · rw [cell_set_other (ne 4 1 (by decide)), cell_set_other (ne 3 1 (by decide)), cell_set_other (ne 2 1 (by decide))]
    exact cell_set_same (u := a1) (by rw [cell_set_other (ne 0 1 (by decide))]; exact t1)
  · rw [cell_set_other (ne 4 2 (by decide)), cell_set_other (ne 3 2 (by decide))]
    exact cell_set_same (u := a2) (by rw [cell_set_other (ne 1 2 (by decide)), cell_set_other (ne 0 2 (by decide))]; exact t2)
  · rw [cell_set_other (ne 4 3 (by decide))]
    exact cell_set_same (u := a3) (by rw [cell_set_other (ne 2 3 (by decide)), cell_set_other (ne 1 3 (by decide)), cell_set_other (ne 0 3 (by decide))]; exact t3)
  · exact cell_set_same (u := a4) (by rw [cell_set_other (ne 3 4 (by decide)), cell_set_other (ne 2 4 (by decide)), cell_set_other (ne 1 4 (by decide)), cell_set_other (ne 0 4 (by decide))]; exact t4)

theorem Tryz.infoSn : (Tryz.prog.info? 37).map (fun i => (i.zero, i.size, i.bytes)) = some (some (.agg #[.string ⟨#[]⟩, .string ⟨#[]⟩, .int .i64 0, .bool false, .slice none 0 0]), 5, 72) := by kernel_rfl

structure Rs where
  s : Sn
  a : Option Addr
  c : Nat
def cellsN (r : Rs) : List Value := [.string (str r.s.name), .string (str r.s.parent), .int .i64 r.s.kind, .bool r.s.lease, .slice r.a r.s.layer.length r.c]
def rowN (rs : List Rs) : List Value := rs.flatMap cellsN
theorem rowN_append (a b : List Rs) : rowN (a ++ b) = rowN a ++ rowN b := by simp [rowN]
theorem rowN_length : ∀ rs : List Rs, (rowN rs).length = rs.length * 5
  | [] => rfl
  | r :: rs => by
    have := rowN_length rs
    simp only [rowN, List.flatMap_cons, List.length_append, List.length_cons] at this ⊢
    rw [this]; simp [cellsN]; omega
theorem rowN_get : ∀ (rs : List Rs) (i q : Nat) (r : Rs), rs[i]? = some r → q < 5 → (rowN rs)[i * 5 + q]? = (cellsN r)[q]?
  | [], i, q, r, h, _ => by simp at h
  | x :: rs, 0, q, r, h, hq => by
    simp only [List.getElem?_cons_zero, Option.some.injEq] at h
    subst h
    simp only [rowN, List.flatMap_cons, Nat.zero_mul, Nat.zero_add]
    rw [List.getElem?_append_left (by simp [cellsN]; omega)]
  | x :: rs, i + 1, q, r, h, hq => by
    have := rowN_get rs i q r (by simpa using h) hq
    rw [← this]
    simp only [rowN, List.flatMap_cons]
    rw [List.getElem?_append_right (by simp [cellsN]; omega)]
    congr 1
    simp [cellsN]; omega
theorem rowN_one (rs : List Rs) : ∀ u ∈ rowN rs, u.oneCell' = true := by
  intro u hu
  simp only [rowN, List.mem_flatMap] at hu
  obtain ⟨r, _, hr⟩ := hu
  simp only [cellsN, List.mem_cons, List.not_mem_nil, or_false] at hr
  rcases hr with rfl | rfl | rfl | rfl | rfl <;> rfl
def LN (B : Nat) (w0 w : World) (v : Value) (l : List Sn) : Prop :=
  ∃ rs : List Rs, rs.map Rs.s = l ∧ w.ownsRow B 37 5 v l.length (rowN rs) ∧ ∀ r ∈ rs, RdE w0 r.a r.s.layer
theorem LN.shape {B : Nat} {w0 w : World} {v : Value} {l : List Sn} (h : LN B w0 w v l) : ∃ a c, v = .slice a l.length c := by
  obtain ⟨rs, _, h1, _⟩ := h
  exact ownsRow_shape h1
theorem LN.nil (B : Nat) (w0 w : World) : LN B w0 w (.slice none 0 0) [] :=
  ⟨[], rfl, World.ownsRow_nil _ _ _ _, fun r hr => by simp at hr⟩
theorem LN.mono {B B' : Nat} {w0 w : World} {v : Value} {l : List Sn} (h : LN B w0 w v l) (hb : B' ≤ B) : LN B' w0 w v l := by
  obtain ⟨rs, he, h1, h2⟩ := h
  exact ⟨rs, he, ownsRow_mono h1 hb, h2⟩
theorem LN.below {B : Nat} {w0 w w' : World} {v : Value} {l : List Sn} (h : LN B w0 w v l) (hk : Below w.heap.size w w') : LN B w0 w' v l := by
  obtain ⟨rs, he, h1, h2⟩ := h
  exact ⟨rs, he, ownsRow_below h1 hk, h2⟩
theorem LN.push {B : Nat} {w0 w2 : World} {v' : Value} {l : List Sn} {rs : List Rs} {s : Sn} {a : Option Addr} {c m : Nat} (he : rs.map Rs.s = l) (hm : m = l.length)
    (h2 : ∀ r ∈ rs, RdE w0 r.a r.s.layer) (hr : RdE w0 a s.layer)
    (hv' : w2.ownsRow B 37 5 v' (m + 1) (rowN rs ++ cellsN ⟨s, a, c⟩)) : LN B w0 w2 v' (l ++ [s]) := by
  subst hm
  refine ⟨rs ++ [⟨s, a, c⟩], by rw [List.map_append, he]; rfl, ?_, fun r hx => ?_⟩
  · rw [rowN_append, List.length_append]
    simpa [rowN] using hv'
  · rcases List.mem_append.1 hx with hx | hx
    · exact h2 r hx
    · simp only [List.mem_singleton] at hx
      subst hx
      exact hr
theorem rdS_row {B : Nat} {w : World} {a : Option Addr} {n c : Nat} {l : List Sn} {rs : List Rs} (he : rs.map Rs.s = l) (h1 : w.ownsRow B 37 5 (.slice a n c) l.length (rowN rs)) (h2 : ∀ r ∈ rs, RdE w r.a r.s.layer) : RdS w a l := by
  intro hz
  have h0 : 0 < l.length := List.length_pos_iff.2 hz
  have hl : rs.length = l.length := by rw [← he, List.length_map]
  rcases h1.2 with ⟨_, h0'⟩ | ⟨g, cap, cur, h', hb', hh, hnc, hcm, hcs, htake⟩
  · omega
  · simp only [Value.slice.injEq] at h'
    obtain ⟨rfl, rfl, rfl⟩ := h'
    refine ⟨g, 0, fun i => (rs[i]?.map Rs.a).getD none, fun i => (rs[i]?.map Rs.c).getD 0, rfl, (h1.lt g rfl).2, fun i e hi => ?_⟩
    have hi0 : i < l.length := (List.getElem?_eq_some_iff.1 hi).1
    obtain ⟨r, hr⟩ : ∃ r, rs[i]? = some r := ⟨rs[i]'(by omega), List.getElem?_eq_getElem (by omega)⟩
    have hre : r.s = e := by
      have : (rs.map Rs.s)[i]? = some r.s := by rw [List.getElem?_map, hr]; rfl
      rw [he, hi] at this
      exact (Option.some.inj this).symm
    have hc := fun q hq => (h1.cellAt (i * 5 + q) (by omega)).trans (rowN_get rs i q r hr hq)
    simp only [hr, Option.map_some, Option.getD_some, Nat.zero_add]
    rw [← hre]
    exact ⟨hc 0 (by decide), hc 1 (by decide), hc 2 (by decide), hc 3 (by decide), hc 4 (by decide), h2 r (List.mem_of_getElem? hr)⟩
theorem rdS_rows {w : World} {a : Option Addr} {l : List Sn} (h : RdS w a l) : ∃ rs : List Rs, rs.map Rs.s = l ∧ (∀ r ∈ rs, RdE w r.a r.s.layer) ∧ (l ≠ [] → ∃ b off, a = some ⟨b, off, none⟩ ∧ b < w.heap.size ∧ ∀ i u, (rowN rs)[i]? = some u → w.cell? ⟨b, off + i, none⟩ = some u) := by
  by_cases hz : l = []
  · subst hz
    exact ⟨[], rfl, fun r hr => by simp at hr, fun h => absurd rfl h⟩
  obtain ⟨b, off, A, C, e, hb, hc⟩ := h hz
  have hr : ∀ (i : Nat) (r : Rs), (l.mapIdx fun i s => (⟨s, A i, C i⟩ : Rs))[i]? = some r → ∃ s, l[i]? = some s ∧ r = ⟨s, A i, C i⟩ := fun i r hr => by
    rw [List.getElem?_mapIdx] at hr
    cases hs : l[i]? with
    | none => rw [hs] at hr; cases hr
    | some s => rw [hs] at hr; exact ⟨s, rfl, by simpa using hr.symm⟩
  refine ⟨l.mapIdx fun i s => (⟨s, A i, C i⟩ : Rs), ?_, fun r hr' => ?_, fun _ => ⟨b, off, e, hb, fun i u hu => ?_⟩⟩
  · apply List.ext_getElem?
    intro i
    rw [List.getElem?_map, List.getElem?_mapIdx]
    cases l[i]? <;> rfl
  · obtain ⟨i, hi⟩ := List.mem_iff_getElem?.1 hr'
    obtain ⟨s, hs, rfl⟩ := hr i r hi
    exact (hc i s hs).2.2.2.2.2
  · have hlt := (List.getElem?_eq_some_iff.1 hu).1
    rw [rowN_length] at hlt
    obtain ⟨r, hr1⟩ : ∃ r, (l.mapIdx fun i s => (⟨s, A i, C i⟩ : Rs))[i / 5]? = some r := ⟨_, List.getElem?_eq_getElem (by omega)⟩
    obtain ⟨s, hs, rfl⟩ := hr _ _ hr1
    have hg := rowN_get _ (i / 5) (i % 5) _ hr1 (by omega)
    rw [show i / 5 * 5 + i % 5 = i by omega, hu] at hg
    obtain ⟨c0, c1, c2, c3, c4, -⟩ := hc _ s hs
    have hoff : off + i = off + i / 5 * 5 + i % 5 := by omega
    rw [hoff]
    have h5 : i % 5 < 5 := by omega
    generalize i % 5 = q at *
    generalize i / 5 = j at *
    match q, h5 with
    | 0, _ => rw [Nat.add_zero, c0]; exact hg.symm
    | 1, _ => rw [c1]; exact hg.symm
    | 2, _ => rw [c2]; exact hg.symm
    | 3, _ => rw [c3]; exact hg.symm
    | 4, _ => rw [c4]; exact hg.symm

def AsksN (W0 : World) (fn : FuncId) (cap : Array Value) (f : Sn → Bool) : Prop :=
  (∀ args w, (callFunc fn args).run Tryz.prog w = .ok (.enter fn args) w) ∧ ∀ (s : Sn) (a : Option Addr) (c : Nat) (w : World), Below W0.heap.size W0 w →
    Calls Tryz.prog fn (#[.agg #[.string (str s.name), .string (str s.parent), .int .i64 s.kind, .bool s.lease, .slice a s.layer.length c]] ++ cap) w fun r w' => r = .returned (.bool (f s)) ∧ Below w.heap.size w w'
end Go.Proofs.YteegkblkfdnfiaaGreat

namespace Go.Proofs.YteegkblkfdnfiaaGreat
open Go.RowKit Go.Maps
set_option linter.unusedVariables false
attribute [local go_sem ↓] Go.wp_at_zero Go.wp_at_succ

theorem findN_step {es : List Sn} {f : Sn → Bool} {k : Nat} {e : Sn} (he : es[k]? = some e) (h : es.find? f = (es.drop k).find? f) (hf : f e = false) : es.find? f = (es.drop (k + 1)).find? f := by
  rw [h, drop_at he, List.find?_cons, hf]
theorem findN_hit {es : List Sn} {f : Sn → Bool} {k : Nat} {e : Sn} (he : es[k]? = some e) (h : es.find? f = (es.drop k).find? f) (hf : f e = true) : es.find? f = some e := by
  rw [h, drop_at he, List.find?_cons, hf]
theorem findN_stop {es : List Sn} {f : Sn → Bool} {k : Nat} (hk : es.length ≤ k) (h : es.find? f = (es.drop k).find? f) : es.find? f = none := by
  rw [h, List.drop_eq_nil_of_le hk]; rfl
theorem filterN_in {es : List Sn} {f : Sn → Bool} {k : Nat} {e : Sn} (he : es[k]? = some e) (h : f e = true) : (es.take (k + 1)).filter f = (es.take k).filter f ++ [e] := by
  rw [take_snoc_at he, List.filter_append]; simp [h]
theorem filterN_out {es : List Sn} {f : Sn → Bool} {k : Nat} {e : Sn} (he : es[k]? = some e) (h : f e = false) : (es.take (k + 1)).filter f = (es.take k).filter f := by
  rw [take_snoc_at he, List.filter_append]; simp [h]
def FirstN (o : Option Sn) (w : World) (r : Ending) : Prop :=
  (∃ e x cc, o = some e ∧ r = .returned (.tuple #[.agg #[.string (str e.name), .string (str e.parent), .int .i64 e.kind, .bool e.lease, .slice x e.layer.length cc], .bool true]) ∧ RdE w x e.layer) ∨
    (o = none ∧ r = .returned (.tuple #[.agg #[.string ⟨#[]⟩, .string ⟨#[]⟩, .int .i64 0, .bool false, .slice none 0 0], .bool false]))
set_option maxRecDepth 100000 in
set_option maxHeartbeats 3200000 in
theorem firstN_any (a : Option Addr) (c n : Nat) (es : List Sn) (fn : FuncId) (cap : Array Value) (f : Sn → Bool) (w0 w : World) (hb0 : Below w0.heap.size w0 w) (h : RdS w0 a es) (hn : n = es.length) (hl : es.length ≤ 1048576) (hf : AsksN w fn cap f) :
    Calls Tryz.prog 85 #[.slice a n c, .func (.func fn) #[] cap] w fun r w' => FirstN (es.find? f) w0 r ∧ Below w.heap.size w w' := by
  subst hn
  have eg := hf.1
  have HF := hide hf
  have HR := hide h
  have HB0 := hide hb0
  have X0 := hide (Box5.new w (.string ⟨#[]⟩) (.string ⟨#[]⟩) (.int .i64 0) (.bool false) (.slice none 0 0) 37)
  have B0 := hide (below_alloc w (.cells #[.string ⟨#[]⟩, .string ⟨#[]⟩, .int .i64 0, .bool false, .slice none 0 0] 37))
  clear h hf hb0
  go_enter Tryz.func85, Tryz.ntmps85
  go_wp2_with fail
  generalize w.alloc (.cells #[.string ⟨#[]⟩, .string ⟨#[]⟩, .int .i64 0, .bool false, .slice none 0 0] 37) = W0 at *
  go_loopw [11] (fun i wr => ∃ k : Nat, k ≤ es.length ∧ i = .int .i64 k ∧ Hid (es.find? f = (es.drop k).find? f) ∧ Hid (Below W0.heap.size W0 wr)) (fun i _ => es.length - (intOf i).toNat)
  case atStart => exact ⟨0, Nat.zero_le _, rfl, hide (by simp), hide (Below.refl _ _)⟩
  case round =>
    obtain ⟨k, hk, rfl, HFi, HW0⟩ := hrel
    have HW := hide (below_next B0.out HW0.out)
    have hsz := HW.out.size
    by_cases hlt : k < es.length
    · obtain ⟨b, off, e, x, cc, rfl, hb, he, c0, c1, c2, c3, c4, hr⟩ := (HR.out.below (below_next HB0.out HW.out)).at hlt
      obtain ⟨b', off', e', x', cc', hbb, hb', he', d0, d1, d2, d3, d4, hr'⟩ := HR.out.at hlt
      simp only [Option.some.injEq, Addr.mk.injEq, and_true] at hbb
      obtain ⟨rfl, rfl⟩ := hbb
      have : e' = e := Option.some.inj (he'.symm.trans he)
      subst this
      have d1' := ((below_next HB0.out HW.out).cell (p := ⟨b, off + k * 5 + 4, none⟩) hb').trans d4
      rw [c4] at d1'
      simp only [Option.some.injEq, Value.slice.injEq, true_and] at d1'
      obtain ⟨rfl, rfl⟩ := d1'
      have HX := hide he
      have HRc := hide hr'
      clear he hr hr' he' d0 d1 d2 d3 d4
      have BA := hide (below_alloc wr (.cells #[.string (str e'.name), .string (str e'.parent), .int .i64 e'.kind, .bool e'.lease, .slice x e'.layer.length cc] 37))
      have F5 := hide (Five.new wr (.string (str e'.name)) (.string (str e'.parent)) (.int .i64 e'.kind) (.bool e'.lease) (.slice x e'.layer.length cc) 37)
      go_wp2_with fail
      refine (HF.out.2 e' x cc _ (below_next HW.out BA.out)).mono ?_
      rintro r w3 ⟨rfl, hb3⟩
      have BB3 := hide (below_next HW0.out (below_next BA.out hb3))
      obtain ⟨f0, f1, f2, f3, f4⟩ := F5.out.below hb3
      clear hb3 c0 c1 c2 c3 c4
      cases hq : f e'
      · have HN := hide (findN_step HX.out HFi.out hq)
        clear hq
        go_wp2_with fail
        go_roundw
        case rel => exact ⟨k + 1, by omega, by go_num, HN, BB3⟩
        case measure => simp [intOf]; omega
      · have HN := hide (findN_hit HX.out HFi.out hq)
        clear hq
        obtain ⟨⟨t0, t1, t2, t3, t4⟩, tf⟩ := X0.out.below BB3.out
        have tf0 := tf 0
        have tf1 := tf 1
        have tf2 := tf 2
        have tf3 := tf 3
        have tf4 := tf 4
        clear tf
        go_wp2_with fail
        refine bodyPost_ret (v := .tuple #[.agg #[.string (str e'.name), .string (str e'.parent), .int .i64 e'.kind, .bool e'.lease, .slice x e'.layer.length cc], .bool true]) (by simp [results, Tryz.results85, go_sem, t0, t1, t2, t3, t4]) rfl ?_
        exact ⟨.inl ⟨e', x, cc, HN.out, rfl, HRc.out⟩, Below.five (below_next B0.out BB3.out) (Nat.le_refl _) _ _ _ _ _⟩
    · have HN := hide (findN_stop (by omega) HFi.out)
      have BA := hide (below_alloc wr (.cells #[.string ⟨#[]⟩, .string ⟨#[]⟩, .int .i64 0, .bool false, .slice none 0 0] 37))
      obtain ⟨⟨t0, t1, t2, t3, t4⟩, tf⟩ := X0.out.below (below_next HW0.out BA.out)
      have tf0 := tf 0
      have tf1 := tf 1
      have tf2 := tf 2
      have tf3 := tf 3
      have tf4 := tf 4
      clear tf
      go_wp2_with fail
      refine bodyPost_ret (v := .tuple #[.agg #[.string ⟨#[]⟩, .string ⟨#[]⟩, .int .i64 0, .bool false, .slice none 0 0], .bool false]) (by simp [results, Tryz.results85, go_sem, t0, t1, t2, t3, t4]) rfl ?_
      exact ⟨.inr ⟨HN.out, rfl⟩, Below.five (below_next HW.out BA.out) (Nat.le_refl _) _ _ _ _ _⟩
set_option maxRecDepth 100000 in
set_option maxHeartbeats 3200000 in
theorem thoseN_any (a : Option Addr) (c n : Nat) (es : List Sn) (fn : FuncId) (cap : Array Value) (f : Sn → Bool) (w0 w : World) (hb0 : Below w0.heap.size w0 w) (h : RdS w0 a es) (hn : n = es.length) (hl : es.length ≤ 1048576) (hf : AsksN w fn cap f) :
    Calls Tryz.prog 144 #[.slice a n c, .func (.func fn) #[] cap] w fun r w' => ∃ av cv, r = .returned (.slice av (es.filter f).length cv) ∧ LN w.heap.size w0 w' (.slice av (es.filter f).length cv) (es.filter f) ∧ Below w.heap.size w w' := by
  subst hn
  obtain ⟨i1, ki, kz0, kz1, kz2⟩ := info_parts Tryz.infoSn
  have eg := hf.1
  have HF := hide hf
  have HR := hide h
  have HB0 := hide hb0
  clear h hf hb0
  go_enter Tryz.func144, Tryz.ntmps144
  go_wp2_with fail
  go_loopw [5, 10] (fun v i wr => ∃ k : Nat, k ≤ es.length ∧ i = .int .i64 k ∧ Hid (LN w.heap.size w0 wr v ((es.take k).filter f)) ∧ Hid (Below w.heap.size w wr)) (fun _ i _ => es.length - (intOf i).toNat)
  case atStart => exact ⟨0, Nat.zero_le _, rfl, hide (LN.nil _ _ _), hide (Below.refl _ _)⟩
  case round =>
    obtain ⟨k, hk, rfl, HL, HW⟩ := hrel
    have hsz := HW.out.size
    obtain ⟨lv, lc, hv⟩ := HL.out.shape
    subst hv
    have hrl := List.length_filter_le f (es.take k)
    rw [List.length_take] at hrl
    by_cases hlt : k < es.length
    · obtain ⟨b, off, e, x, cc, rfl, hb, he, c0, c1, c2, c3, c4, hr⟩ := (HR.out.below (below_next HB0.out HW.out)).at hlt
      obtain ⟨b', off', e', x', cc', hbb, hb', he', d0, d1, d2, d3, d4, hr'⟩ := HR.out.at hlt
      simp only [Option.some.injEq, Addr.mk.injEq, and_true] at hbb
      obtain ⟨rfl, rfl⟩ := hbb
      have : e' = e := Option.some.inj (he'.symm.trans he)
      subst this
      have d1' := ((below_next HB0.out HW.out).cell (p := ⟨b, off + k * 5 + 4, none⟩) hb').trans d4
      rw [c4] at d1'
      simp only [Option.some.injEq, Value.slice.injEq, true_and] at d1'
      obtain ⟨rfl, rfl⟩ := d1'
      have HX := hide he
      have HRc := hide hr'
      clear he hr hr' he' d0 d1 d2 d3 d4
      have BA := hide (below_alloc wr (.cells #[.string (str e'.name), .string (str e'.parent), .int .i64 e'.kind, .bool e'.lease, .slice x e'.layer.length cc] 37))
      have F5 := hide (Five.new wr (.string (str e'.name)) (.string (str e'.parent)) (.int .i64 e'.kind) (.bool e'.lease) (.slice x e'.layer.length cc) 37)
      go_wp2_with fail
      refine (HF.out.2 e' x cc _ (below_next HW.out BA.out)).mono ?_
      rintro r w3 ⟨rfl, hb3⟩
      have BB5 := hide (below_next BA.out hb3)
      obtain ⟨f0, f1, f2, f3, f4⟩ := F5.out.below hb3
      clear hb3 c0 c1 c2 c3 c4
      cases hq : f e'
      · have HN := hide (filterN_out HX.out hq)
        clear hq
        go_wp2_with fail
        go_roundw
        case rel => exact ⟨k + 1, by omega, by go_num, hide (by rw [HN.out]; exact HL.out.below BB5.out), hide (below_next HW.out BB5.out)⟩
        case measure => simp [intOf]; omega
      · have HN := hide (filterN_in HX.out hq)
        clear hq
        obtain ⟨rs, g1, g2, g3⟩ := HL.out
        have G1 := hide g1
        have G2 := hide (ownsRow_below g2 BB5.out)
        have G3 := hide g3
        clear g1 g2 g3
        obtain ⟨L, hL⟩ : ∃ L, L = ((es.take k).filter f).length := ⟨_, rfl⟩
        rw [← hL] at hrl G2 ⊢
        have HLn := hide hL
        clear hL
        have hm1 : L + 1 ≤ maxLen := by unfold maxLen; omega
        have hm1' : (L + 1) * 72 ≤ 140737488355328 := by omega
        have hsz5 := BB5.out.size
        go_wp2_with (at_builtin; refine wpList_append_put rfl (.tmp 17) (.tmp 19) 116 rfl w.heap.size 37 i1 (.agg #[.string ⟨#[]⟩, .string ⟨#[]⟩, .int .i64 0, .bool false, .slice none 0 0]) 5 72 Tryz.underlying116 ki kz0 kz1 kz2 rfl (by decide) _ _ _ rfl G2.out _ rfl rfl rfl (by intro u hu; simp at hu; rcases hu with rfl | rfl | rfl | rfl | rfl <;> rfl) hm1 hm1' (by omega) ?_; intro av6 cv6 w6 hown6 hk6; have O6 := hide hown6; have K6 := hide hk6; clear hown6 hk6)
        go_roundw
        case rel =>
          refine ⟨k + 1, by omega, by go_num, hide ?_, hide ?_⟩
          · rw [HN.out]
            exact LN.push (s := e') (a := x) (c := cc) G1.out HLn.out G3.out HRc.out O6.out
          · exact (below_next HW.out BB5.out).trans (K6.out.below (by omega) (fun q hq hS => by have := (G2.out.lt q hS).1; omega))
        case measure => simp [intOf]; omega
    · have HE := hide (show es.take k = es from List.take_of_length_le (by omega))
      rw [HE.out] at HL ⊢
      clear HE
      go_wp2_with fail
      go_ret
      exact ⟨lv, lc, rfl, HL.out, HW.out⟩
set_option maxRecDepth 100000 in
set_option maxHeartbeats 800000 in
theorem withoutLitN_any (b : Nat) (fn : FuncId) (cap : Array Value) (f : Sn → Bool) (W0 : World) (hf : AsksN W0 fn cap f) (e : Sn) (a : Option Addr) (c : Nat) (w : World) (hw : Below W0.heap.size W0 w) (h : w.cell? ⟨b, 0, none⟩ = some (.func (.func fn) #[] cap)) :
    Calls Tryz.prog 145 #[.agg #[.string (str e.name), .string (str e.parent), .int .i64 e.kind, .bool e.lease, .slice a e.layer.length c], .pointer (some ⟨b, 0, none⟩)] w fun r w' => r = .returned (.bool (!f e)) ∧ Below w.heap.size w w' := by
  have eg := hf.1
  have B0 := hide (below_alloc w (.cells #[.string (str e.name), .string (str e.parent), .int .i64 e.kind, .bool e.lease, .slice a e.layer.length c] 37))
  have hb := World.block_lt_of_cell? w ⟨b, 0, none⟩ h
  have hc := (B0.out.cell (p := ⟨b, 0, none⟩) hb).trans h
  have HF := hide (hf.2 e a c _ (below_next hw B0.out))
  generalize f e = Z at *
  clear h hf
  go_enter Tryz.func145, Tryz.ntmps145
  go_wp2_with fail
  refine HF.out.mono ?_
  rintro r w1 ⟨rfl, hb1⟩
  have B1 := hide (below_next B0.out hb1)
  clear hb1
  go_wp2_with fail
  go_ret
  exact ⟨rfl, B1.out⟩
set_option maxRecDepth 100000 in
set_option maxHeartbeats 800000 in
theorem withoutN_any (a : Option Addr) (c n : Nat) (es : List Sn) (fn : FuncId) (cap : Array Value) (f : Sn → Bool) (w0 w : World) (hb0 : Below w0.heap.size w0 w) (h : RdS w0 a es) (hn : n = es.length) (hl : es.length ≤ 1048576) (hf : AsksN w fn cap f) :
    Calls Tryz.prog 101 #[.slice a n c, .func (.func fn) #[] cap] w fun r w' => ∃ av cv, r = .returned (.slice av (es.filter fun e => !f e).length cv) ∧ LN w.heap.size w0 w' (.slice av (es.filter fun e => !f e).length cv) (es.filter fun e => !f e) ∧ Below w.heap.size w w' := by
  have hmf : ∀ (fn : Fn) (first cap : Array Value) (w : World), (Instr.makeFunc fn first cap).run Tryz.prog w = .ok (.func fn first cap) w := fun _ _ _ _ => rfl
  subst hn
  have B0 := hide (below_alloc w (.cells #[.func (.func fn) #[] cap] 83))
  have HA : Hid (AsksN (w.alloc (.cells #[.func (.func fn) #[] cap] 83)) 145 #[.pointer (some ⟨w.heap.size, 0, none⟩)] (fun e => !f e)) := hide ⟨enters_of Tryz.func145 (by kernel_rfl) rfl, fun e a c w' hb =>
    withoutLitN_any w.heap.size fn cap f w hf e a c w' (below_next B0.out hb) ((hb.cell (p := ⟨w.heap.size, 0, none⟩) (by simp)).trans (by simp))⟩
  have HC := hide (thoseN_any a c es.length es _ _ (fun e => !f e) w0 _ (below_next hb0 B0.out) h rfl hl HA.out)
  clear h hf HA hb0
  go_enter Tryz.func101, Tryz.ntmps101
  go_wp2_with fail
  generalize w.alloc (.cells #[.func (.func fn) #[] cap] 83) = W0 at *
  refine HC.out.mono ?_
  rintro r w1 ⟨av, cv, rfl, hL, hb1⟩
  have HL := hide hL
  have B1 := hide hb1
  clear hL hb1 HC
  go_wp2_with fail
  go_ret
  exact ⟨av, cv, rfl, HL.out.mono (by have := B0.out.size; omega), below_next B0.out B1.out⟩
end Go.Proofs.YteegkblkfdnfiaaGreat

namespace Go.Proofs.YteegkblkfdnfiaaGreat
open Go.RowKit Go.Maps
set_option linter.unusedVariables false
attribute [local go_sem ↓] Go.wp_at_zero Go.wp_at_succ

theorem GW.apart {B B' s n : Nat} {t : TypeId} {w w' : World} {v v' : Value} {es : List En} {xs : List Value} (h : GW B w v es) (hr : w.ownsRow B' t s v' n xs) (h1 : t ≠ 50) (h2 : t ≠ 2) (hk : Kept (fun b => v'.ownBlock = some b) w w') : GW B w' v es := by
  obtain ⟨rs, e, g1, g2⟩ := h
  exact ⟨rs, e, ownsRow_kept g1 hk (fun b hb hS => ownsRow_apart hr g1 h1 hS hb), fun r hx => ownsRow_kept (g2 r hx) hk (fun b hb hS => ownsRow_apart hr (g2 r hx) h2 hS hb)⟩
def RowZ (w0 w : World) (g c k : Nat) (l : List Sn) : Prop :=
  ∃ rs : List Rs, rs.map Rs.s = l ∧ w.ownsRow w0.heap.size 37 5 (.slice (some ⟨g, 0, none⟩) l.length c) l.length (rowN rs) ∧ (∀ i r, rs[i]? = some r → k ≤ i → RdE w0 r.a r.s.layer) ∧ ∀ i r, rs[i]? = some r → i < k → GW w0.heap.size w (.slice r.a r.s.layer.length r.c) r.s.layer
theorem RowZ.below {w0 w w' : World} {g c k : Nat} {l : List Sn} (h : RowZ w0 w g c k l) (hb : Below w.heap.size w w') : RowZ w0 w' g c k l := by
  obtain ⟨rs, h1, h2, h3, h4⟩ := h
  exact ⟨rs, h1, ownsRow_below h2 hb, h3, fun i r hr hi => (h4 i r hr hi).below hb⟩
theorem RowZ.rd {w0 w : World} {g c k : Nat} {l : List Sn} (h : RowZ w0 w g c k l) (hb : Below w0.heap.size w0 w) : RdS w (some ⟨g, 0, none⟩) l := by
  obtain ⟨rs, h1, h2, h3, h4⟩ := h
  refine rdS_row h1 h2 fun r hr => ?_
  obtain ⟨i, hi⟩ := List.mem_iff_getElem?.1 hr
  by_cases hk : k ≤ i
  · exact (h3 i r hi hk).below hb
  · exact GW.rd (h4 i r hi (by omega))
def HeldS (B : Nat) (w : World) (a : Option Addr) (l : List Sn) : Prop := ∀ w' : World, Kept (fun b => b < B) w w' → RdS w' a l
theorem HeldS.rd {B : Nat} {w : World} {a : Option Addr} {l : List Sn} (h : HeldS B w a l) : RdS w a l := h w (Kept.refl _ _)
theorem HeldS.nil (B : Nat) (w : World) (a : Option Addr) : HeldS B w a [] := fun w' _ => RdS.nil _ _
theorem RowZ.held {w0 w : World} {g c k : Nat} {l : List Sn} (h : RowZ w0 w g c k l) (hk : l.length ≤ k) : HeldS w0.heap.size w (some ⟨g, 0, none⟩) l := by
  intro w' hw
  obtain ⟨rs, h1, h2, h3, h4⟩ := h
  have hl : rs.length = l.length := by rw [← h1, List.length_map]
  refine rdS_row h1 (ownsRow_kept h2 hw (fun b hb hS => by have := (h2.lt b hb).1; omega)) fun r hr => ?_
  obtain ⟨i, hi⟩ := List.mem_iff_getElem?.1 hr
  have hi0 := (List.getElem?_eq_some_iff.1 hi).1
  exact GW.rd ((h4 i r hi (by omega)).kept hw (fun b hb hS => by omega))
theorem RowZ.row {w0 w : World} {g c k K : Nat} {l : List Sn} {s : Sn} (h : RowZ w0 w g c K l) (hs : l[k]? = some s) : ∃ rs : List Rs, ∃ r : Rs, rs.map Rs.s = l ∧ rs[k]? = some r ∧ r.s = s ∧ w.ownsRow w0.heap.size 37 5 (.slice (some ⟨g, 0, none⟩) l.length c) l.length (rowN rs) ∧ (∀ i r, rs[i]? = some r → K ≤ i → RdE w0 r.a r.s.layer) ∧
    ∀ i r, rs[i]? = some r → i < K → GW w0.heap.size w (.slice r.a r.s.layer.length r.c) r.s.layer := by
  obtain ⟨rs, h1, h2, h3, h4⟩ := h
  have hk : k < l.length := (List.getElem?_eq_some_iff.1 hs).1
  have hl : rs.length = l.length := by rw [← h1, List.length_map]
  obtain ⟨r, hr⟩ : ∃ r, rs[k]? = some r := ⟨_, List.getElem?_eq_getElem (by omega)⟩
  refine ⟨rs, r, h1, hr, ?_, h2, h3, h4⟩
  have : (rs.map Rs.s)[k]? = some r.s := by rw [List.getElem?_map, hr]; rfl
  rw [h1, hs] at this
  exact (Option.some.inj this).symm
theorem list_set_same {xs : List Value} {j : Nat} {u : Value} (h : xs[j]? = some u) : xs.set j u = xs := by
  apply List.ext_getElem?
  intro i
  rw [List.getElem?_set]
  by_cases hj : j = i
  · subst hj
    rw [if_pos rfl, if_pos (List.getElem?_eq_some_iff.1 h).1, h]
  · rw [if_neg hj]
theorem RowZ.same {w0 w : World} {g c k K q : Nat} {l : List Sn} {s : Sn} {u : Value} (h : RowZ w0 w g c K l) (hs : l[k]? = some s) (hq : q < 4) (hu : (cellsN ⟨s, none, 0⟩)[q]? = some u) : RowZ w0 (w.setCell ⟨g, k * 5 + q, none⟩ u) g c K l := by
  obtain ⟨rs, r, h1, hr, rfl, h2, h3, h4⟩ := h.row hs
  have hu2 : (rowN rs)[k * 5 + q]? = some u := by
    rw [rowN_get rs k q r hr (by omega), ← hu]
    match q, hq with
    | 0, _ => rfl
    | 1, _ => rfl
    | 2, _ => rfl
    | 3, _ => rfl
  have s1 := (h2.stored (k * 5 + q) u).1
  rw [list_set_same hu2] at s1
  have hkp : Kept (fun b => (Value.slice (some ⟨g, 0, none⟩) l.length c).ownBlock = some b) w (w.setCell ⟨g, k * 5 + q, none⟩ u) := Kept.setCell (S := fun b => (Value.slice (some ⟨g, 0, none⟩) l.length c).ownBlock = some b) (p := ⟨g, k * 5 + q, none⟩) (Kept.refl _ _) (fun _ => rfl) _
  exact ⟨rs, h1, s1, h3, fun i r0 hr0 hi => (h4 i r0 hr0 hi).apart h2 (by decide) (by decide) hkp⟩
theorem rowN_set4 : ∀ (rs : List Rs) (k : Nat) (r : Rs) (x : Option Addr) (cc : Nat), rs[k]? = some r → (rowN rs).set (k * 5 + 4) (.slice x r.s.layer.length cc) = rowN (rs.set k ⟨r.s, x, cc⟩)
  | [], k, r, x, cc, h => by simp at h
  | y :: rs, 0, r, x, cc, h => by
    simp only [List.getElem?_cons_zero, Option.some.injEq] at h
    subst h
    simp [rowN, cellsN]
  | y :: rs, k + 1, r, x, cc, h => by
    have := rowN_set4 rs k r x cc (by simpa using h)
    have e : (k + 1) * 5 + 4 = (cellsN y).length + (k * 5 + 4) := by simp [cellsN]; omega
    simp only [rowN, List.flatMap_cons, List.set_cons_succ] at this ⊢
    rw [e, List.set_append_right _ _ (by omega), Nat.add_sub_cancel_left, this]
theorem RowZ.lay {w0 w : World} {g c k : Nat} {l : List Sn} {s : Sn} {x : Option Addr} {cc : Nat} (h : RowZ w0 w g c k l) (hs : l[k]? = some s) (hx : GW w0.heap.size w (.slice x s.layer.length cc) s.layer) : RowZ w0 (w.setCell ⟨g, k * 5 + 4, none⟩ (.slice x s.layer.length cc)) g c (k + 1) l := by
  obtain ⟨rs, r, h1, hr, rfl, h2, h3, h4⟩ := h.row hs
  have hk : k < l.length := (List.getElem?_eq_some_iff.1 hs).1
  have s1 := (h2.stored (k * 5 + 4) (.slice x r.s.layer.length cc)).1
  rw [rowN_set4 rs k r x cc hr] at s1
  have hkp : Kept (fun b => (Value.slice (some ⟨g, 0, none⟩) l.length c).ownBlock = some b) w (w.setCell ⟨g, k * 5 + 4, none⟩ (.slice x r.s.layer.length cc)) := Kept.setCell (S := fun b => (Value.slice (some ⟨g, 0, none⟩) l.length c).ownBlock = some b) (p := ⟨g, k * 5 + 4, none⟩) (Kept.refl _ _) (fun _ => rfl) _
  refine ⟨rs.set k ⟨r.s, x, cc⟩, ?_, s1, fun i r0 hr0 hi => ?_, fun i r0 hr0 hi => ?_⟩
  · rw [List.map_set, h1]
    apply List.ext_getElem?
    intro j
    rw [List.getElem?_set]
    by_cases hj : k = j
    · subst hj; rw [if_pos rfl, if_pos hk, hs]
    · rw [if_neg hj]
  · rw [List.getElem?_set, if_neg (by omega)] at hr0
    exact h3 i r0 hr0 (by omega)
  · rw [List.getElem?_set] at hr0
    by_cases hj : k = i
    · subst hj
      rw [if_pos rfl] at hr0
      split at hr0
      · cases hr0; exact hx.apart h2 (by decide) (by decide) hkp
      · cases hr0
    · rw [if_neg hj] at hr0
      exact (h4 i r0 hr0 (by omega)).apart h2 (by decide) (by decide) hkp

set_option maxRecDepth 100000 in
set_option maxHeartbeats 3200000 in
theorem copiedRowN_any (a : Option Addr) (c n : Nat) (l : List Sn) (w : World) (h : RdS w a l) (hn : n = l.length) (hl : l.length ≤ 1048576) (h0 : 0 < l.length) :
    Calls Tryz.prog 100 #[.slice a n c] w fun r w' => r = .returned (.slice (some ⟨w.heap.size, 0, none⟩) l.length l.length) ∧ RowZ w w' w.heap.size l.length 0 l ∧ Below w.heap.size w w' := by
  subst hn
  obtain ⟨i1, ki, kz0, kz1, kz2⟩ := info_parts Tryz.infoSn
  obtain ⟨rs, hrs, hrd, hcl⟩ := rdS_rows h
  have hz : l ≠ [] := List.length_pos_iff.1 h0
  obtain ⟨b, off, rfl, hb, hcl⟩ := hcl hz
  have HC : Hid (∀ W : World, Below w.heap.size w W → rowN rs ≠ [] → ∃ ad, some (⟨b, off, none⟩ : Addr) = some ad ∧ ∀ (j : Nat) u, (rowN rs)[j]? = some u → W.cell? (ad.add j) = some u) := hide fun W hW _ => ⟨⟨b, off, none⟩, rfl, fun j u hu => by rw [add_addr, hW.cell (p := ⟨b, off + j, none⟩) hb]; exact hcl j u hu⟩
  have HV1 := hide (rowN_one rs)
  have HRS := hide hrs
  have HRD := hide hrd
  have hby : i1.bytes * l.length ≤ 281474976710656 := by rw [kz2]; omega
  have hml : l.length ≤ maxLen := by unfold maxLen; omega
  have HVN := hide (show (rowN rs).length = l.length * 5 by rw [rowN_length, ← hrs, List.length_map])
  have HD := hide (show (madeCells (Value.agg #[.string ⟨#[]⟩, .string ⟨#[]⟩, .int .i64 0, .bool false, .slice none 0 0]).cells (l.length * 5)).toList.drop (l.length * 5) = [] from made_drop _ _)
  have HFIN := hide (show ∀ W : World, W.ownsRow w.heap.size 37 5 (.slice (some ⟨w.heap.size, 0, none⟩) l.length l.length) l.length (rowN rs) → RowZ w W w.heap.size l.length 0 l from fun W hW => ⟨rs, hrs, hW, fun i r hr _ => hrd r (List.mem_of_getElem? hr), fun i r hr hi => absurd hi (Nat.not_lt_zero _)⟩)
  clear h hcl hrs hrd hz
  generalize hNN : l.length = N at *
  have hne : ((N : Int) == 0) = false := by simp; omega
  clear hNN
  go_enter Tryz.func100, Tryz.ntmps100
  go_wp2_with (first
    | (at_make; refine wpList_make_full _ rfl (.tmp 8) (.tmp 8) 24 rfl w.heap.size 37 i1 (.agg #[.string ⟨#[]⟩, .string ⟨#[]⟩, .int .i64 0, .bool false, .slice none 0 0]) 5 Tryz.underlying24 ki kz0 kz1 .i64 .i64 _ _ N rfl rfl (by simp) (by simp) hby hml (Nat.le_refl _) ?_; intro w1 ho1 hg1; have O1 := hide ho1; have B1 := hide (kept_none hg1); clear ho1 hg1)
    | (refine wpList_copy_onto rfl (.tmp 10) (.tmp 11) 24 rfl w.heap.size 37 i1 5 Tryz.underlying24 ki kz1 (by decide) w.heap.size N N _ rfl O1.out (some ⟨b, off, none⟩) N c (rowN rs) rfl (Nat.le_refl _) HVN.out (HC.out w1 B1.out) HV1.out ?_; rw [HD.out, List.append_nil]; intro w2 ho2 hk2; have O2 := hide ho2; have B2 := hide (B1.out.trans (hk2.below (B := w.heap.size) B1.out.size (fun b hb e => by omega))); clear ho2 hk2))
  go_ret
  exact ⟨rfl, HFIN.out _ O2.out, B2.out⟩
theorem copiedRowN_nil (c : Nat) (a : Option Addr) (w : World) :
    Calls Tryz.prog 100 #[.slice a 0 c] w fun r w' => r = .returned (.slice none 0 0) ∧ w' = w := by
  go_enter Tryz.func100, Tryz.ntmps100
  go_wp2_with fail
  go_ret
  exact ⟨rfl, rfl⟩
set_option maxRecDepth 100000 in
set_option maxHeartbeats 6400000 in
theorem copiedSnaps_any (a : Option Addr) (c n : Nat) (l : List Sn) (w : World) (h : RdS w a l) (hn : n = l.length) (hl : l.length ≤ 1048576) (hs : SmallS l) :
    Calls Tryz.prog 60 #[.slice a n c] w fun r w' => ∃ av cv, r = .returned (.slice av l.length cv) ∧ HeldS w.heap.size w' av l ∧ Below w.heap.size w w' := by
  subst hn
  have HS := hide hs
  by_cases hz : l = []
  · subst hz
    go_enter Tryz.func60, Tryz.ntmps60
    go_wp2_with fail
    refine (copiedRowN_nil _ _ _).mono ?_
    rintro r w1 ⟨rfl, rfl⟩
    go_wp2_with fail
    go_loopw [10] (fun i wr => i = .int .i64 0 ∧ wr = w1) (fun _ _ => 0)
    case atStart => exact ⟨rfl, rfl⟩
    case round =>
      obtain ⟨rfl, hw9⟩ := hrel
      subst hw9
      go_wp2_with fail
      go_ret
      exact ⟨none, 0, rfl, HeldS.nil _ _ _, Below.refl _ _⟩
  · have h0 : 0 < l.length := List.length_pos_iff.2 hz
    have HCR := hide (copiedRowN_any a c l.length l w h rfl hl h0)
    clear h hz hs
    go_enter Tryz.func60, Tryz.ntmps60
    go_wp2_with fail
    refine HCR.out.mono ?_
    rintro r w1 ⟨rfl, hR1, hb1⟩
    have B1 := hide hb1
    have R1 := hide hR1
    have hg1 : w.heap.size < w1.heap.size := by obtain ⟨rs, -, h2, -⟩ := hR1; exact (h2.lt w.heap.size rfl).2
    clear hR1 hb1 HCR
    go_wp2_with fail
    go_loopw [10] (fun i wr => ∃ k : Nat, k ≤ l.length ∧ i = .int .i64 k ∧ Hid (RowZ w wr w.heap.size l.length k l) ∧ Hid (Below w.heap.size w wr) ∧ w.heap.size < wr.heap.size) (fun i _ => l.length - (intOf i).toNat)
    case atStart => exact ⟨0, Nat.zero_le _, rfl, R1, B1, hg1⟩
    case round =>
      obtain ⟨k, hk, rfl, HX, HW, hgw⟩ := hrel
      by_cases hlt : k < l.length
      · obtain ⟨b, off, s, x, cc, hbb, hb, hsl, c0, c1, c2, c3, c4, hr⟩ := (HX.out.rd HW.out).at hlt
        simp only [Option.some.injEq, Addr.mk.injEq, and_true] at hbb
        obtain ⟨rfl, rfl⟩ := hbb
        rw [Nat.zero_add] at c0 c1 c2 c3 c4
        have hsm := HS.out.2 s (List.mem_of_getElem? hsl)
        have hsm1 := hsm.1
        have hsm2 := hsm.2.1
        have hsm3 := hsm.2.2.1
        have HSE := hide hsm.2.2.2
        have HE := hide hsl
        have hk0 : (0 : Int) ≤ (k : Int) := by omega
        have hk1 : (k : Int) < (l.length : Int) := by omega
        have BA := hide (below_alloc wr (.cells #[.string (str s.name), .string (str s.parent), .int .i64 s.kind, .bool s.lease, .slice x s.layer.length cc] 37))
        have FE := hide (Five.new wr (.string (str s.name)) (.string (str s.parent)) (.int .i64 s.kind) (.bool s.lease) (.slice x s.layer.length cc) 37)
        have HRL : Hid (RdE w x s.layer) := hide (by
          obtain ⟨rs, r, q1, q2, q3, q4, q5, -⟩ := HX.out.row hsl
          have hg := (q4.cellAt (k * 5 + 4) (by omega)).trans (rowN_get rs k 4 r q2 (by decide))
          rw [c4] at hg
          simp only [cellsN, List.getElem?_cons_succ, List.getElem?_cons_zero, Option.some.injEq, Value.slice.injEq] at hg
          have := q5 k r q2 (Nat.le_refl _)
          rw [q3] at this
          rw [hg.1]
          exact this)
        clear hsl hr hsm
        go_wp2_with fail
        have HX1 := hide (HX.out.below BA.out)
        generalize hWE : wr.alloc (.cells #[.string (str s.name), .string (str s.parent), .int .i64 s.kind, .bool s.lease, .slice x s.layer.length cc] 37) = WE at *
        have hsE : wr.heap.size < WE.heap.size := FE.out.lt
        have hne : w.heap.size ≠ wr.heap.size := by omega
        have hgE : w.heap.size < WE.heap.size := by omega
        clear hWE c0 c1 c2 c3 c4
        refine (clone_str (str s.name) _ (by rw [str_size]; omega)).mono ?_
        rintro r w2 ⟨rfl, hb2⟩
        have X2 := hide (HX1.out.below hb2)
        have FE2 := hide (FE.out.below hb2)
        have BB2 := hide (below_next HW.out (below_next BA.out hb2))
        have hs2 := hb2.size
        have fz0 : w2.frozen? ⟨w.heap.size, k * 5, none⟩ = false := by obtain ⟨rs, -, h2, -⟩ := X2.out; exact h2.frozenAt _
        obtain ⟨b, off, s', x', cc', hbb, hb', he', d0, d1, d2, d3, d4, -⟩ := (X2.out.rd BB2.out).at hlt
        simp only [Option.some.injEq, Addr.mk.injEq, and_true] at hbb
        obtain ⟨rfl, rfl⟩ := hbb
        rw [Nat.zero_add] at d0
        have X3 := hide (X2.out.same (q := 0) HE.out (by decide) (u := .string (str s.name)) rfl)
        rw [Nat.add_zero] at X3
        have FE3 := hide (FE2.out.kept (Kept.setCell (S := fun b => b = w.heap.size) (p := ⟨w.heap.size, k * 5, none⟩) (Kept.refl _ w2) (fun _ => rfl) (.string (str s.name))) (fun e => hne e.symm))
        have BB3 := hide (BB2.out.setCell (p := ⟨w.heap.size, k * 5, none⟩) (Nat.le_refl _) (.string (str s.name)))
        have hS3 : (w2.setCell ⟨w.heap.size, k * 5, none⟩ (.string (str s.name))).heap.size = w2.heap.size := by simp [World.setCell]
        obtain ⟨e0, e1, e2, e3, e4⟩ := FE3.out
        clear hb2 d1 d2 d3 d4 he'
        go_wp2_with fail
        clear e0 e1 e2 e3 e4 d0 fz0
        generalize w2.setCell ⟨w.heap.size, k * 5, none⟩ (.string (str s.name)) = W3 at *
        refine (clone_str (str s.parent) _ (by rw [str_size]; omega)).mono ?_
        rintro r w4 ⟨rfl, hb4⟩
        have X4 := hide (X3.out.below hb4)
        have FE4 := hide (FE3.out.below hb4)
        have BB4 := hide (below_next BB3.out hb4)
        have hs4 := hb4.size
        have fz0 : w4.frozen? ⟨w.heap.size, k * 5 + 1, none⟩ = false := by obtain ⟨rs, -, h2, -⟩ := X4.out; exact h2.frozenAt _
        obtain ⟨b, off, s', x', cc', hbb, hb', he', d0, d1, d2, d3, d4, -⟩ := (X4.out.rd BB4.out).at hlt
        simp only [Option.some.injEq, Addr.mk.injEq, and_true] at hbb
        obtain ⟨rfl, rfl⟩ := hbb
        rw [Nat.zero_add] at d1
        have X5 := hide (X4.out.same (q := 1) HE.out (by decide) (u := .string (str s.parent)) rfl)
        have FE5 := hide (FE4.out.kept (Kept.setCell (S := fun b => b = w.heap.size) (p := ⟨w.heap.size, k * 5 + 1, none⟩) (Kept.refl _ w4) (fun _ => rfl) (.string (str s.parent))) (fun e => hne e.symm))
        have BB5 := hide (BB4.out.setCell (p := ⟨w.heap.size, k * 5 + 1, none⟩) (Nat.le_refl _) (.string (str s.parent)))
        have hS5 : (w4.setCell ⟨w.heap.size, k * 5 + 1, none⟩ (.string (str s.parent))).heap.size = w4.heap.size := by simp [World.setCell]
        obtain ⟨e0, e1, e2, e3, e4⟩ := FE5.out
        clear hb4 d0 d2 d3 d4 he'
        go_wp2_with fail
        clear e0 e1 e2 e3 e4 d1 fz0
        generalize w4.setCell ⟨w.heap.size, k * 5 + 1, none⟩ (.string (str s.parent)) = W5 at *
        refine (copiedEntries_any x cc s.layer.length s.layer W5 (HRL.out.below BB5.out) rfl hsm3 HSE.out).mono ?_
        rintro r w6 ⟨av, cv, rfl, hG6, hb6⟩
        have X6 := hide (X5.out.below hb6)
        have BB6 := hide (below_next BB5.out hb6)
        have G6 := hide hG6
        have hs6 := hb6.size
        have fz0 : w6.frozen? ⟨w.heap.size, k * 5 + 4, none⟩ = false := by obtain ⟨rs, -, h2, -⟩ := X6.out; exact h2.frozenAt _
        obtain ⟨b, off, s', x', cc', hbb, hb', he', d0, d1, d2, d3, d4, -⟩ := (X6.out.rd BB6.out).at hlt
        simp only [Option.some.injEq, Addr.mk.injEq, and_true] at hbb
        obtain ⟨rfl, rfl⟩ := hbb
        rw [Nat.zero_add] at d4
        clear hG6 hb6 d0 d1 d2 d3 he'
        go_wp2_with fail
        go_roundw
        case rel =>
          refine ⟨k + 1, by omega, by go_num, hide ?_, hide ?_, ?_⟩
          · exact X6.out.lay HE.out (G6.out.mono (by omega))
          · exact BB6.out.setCell (p := ⟨w.heap.size, k * 5 + 4, none⟩) (Nat.le_refl _) _
          · simp [World.setCell]; omega
        case measure => simp [intOf]; omega
      · have HRD := hide (HX.out.held (by omega))
        go_wp2_with fail
        go_ret
        exact ⟨some ⟨w.heap.size, 0, none⟩, l.length, rfl, HRD.out, HW.out⟩
end Go.Proofs.YteegkblkfdnfiaaGreat

namespace Go.Proofs.YteegkblkfdnfiaaGreat
open Go.RowKit Go.Maps
set_option linter.unusedVariables false
attribute [local go_sem ↓] Go.wp_at_zero Go.wp_at_succ

set_option maxHeartbeats 800000 in
theorem isSnapName_any (nm : Bs) (w : World) (h : nm.length ≤ 1048576) :
    Calls Tryz.prog 39 #[.string (str nm)] w fun r w' => r = .returned (.bool (nmOk nm)) ∧ w' = w := by
  have hsz : (str nm).size ≤ 9223372036854775807 := by rw [str_size]; omega
  have HL := hide (fun u => isLetters_any (str nm) u hsz)
  rw [str_data] at HL
  have HN := hide (show nmOk nm = (plain nm && decide (nm.length ≤ 4)) from rfl)
  generalize nmOk nm = Z at *
  generalize plain nm = Y at *
  have hss : (str nm).size = nm.length := str_size nm
  by_cases h4 : nm.length ≤ 4
  · have hb : ((str nm).size : Int) ≤ 4 := by omega
    have HZ := hide (show Z = Y by rw [HN.out, decide_eq_true h4, Bool.and_true])
    clear h4
    go_enter Tryz.func39, Tryz.ntmps39
    go_wp2_with fail
    refine (HL.out _).mono ?_
    rintro r w1 ⟨rfl, rfl⟩
    go_wp2_with fail
    go_ret
    exact ⟨ret_bool HZ.out.symm, rfl⟩
  · have hb : ¬ ((str nm).size : Int) ≤ 4 := by omega
    have HZ := hide (show Z = false by rw [HN.out, decide_eq_false h4, Bool.and_false])
    clear h4
    go_enter Tryz.func39, Tryz.ntmps39
    go_wp2_with fail
    go_ret
    exact ⟨ret_bool HZ.out.symm, rfl⟩
set_option maxHeartbeats 800000 in
theorem isSnapKind_any (k : Int) (w : World) :
    Calls Tryz.prog 40 #[.int .i64 k] w fun r w' => r = .returned (.bool (k == 1 || k == 2)) ∧ w' = w := by
  by_cases h1 : k = 1
  · subst h1
    go_enter Tryz.func40, Tryz.ntmps40
    go_wp2
    go_ret
    exact ⟨rfl, rfl⟩
  · have hb : (k == 1) = false := by simp [h1]
    rw [hb, Bool.false_or]
    go_enter Tryz.func40, Tryz.ntmps40
    go_wp2
    go_ret
    exact ⟨rfl, rfl⟩
set_option maxHeartbeats 800000 in
theorem bondOf_any (s : Sn) (x : Option Addr) (c : Nat) (w : World) :
    Calls Tryz.prog 87 #[.agg #[.string (str s.name), .string (str s.parent), .int .i64 s.kind, .bool s.lease, .slice x s.layer.length c]] w fun r w' => r = .returned (.agg #[.string (str s.name), .string (str s.parent)]) ∧ Below w.heap.size w w' := by
  go_enter Tryz.func87, Tryz.ntmps87
  go_wp2_with fail
  refine bodyPost_ret (v := .agg #[.string (str s.name), .string (str s.parent)]) (by simp [results, Tryz.results87, go_sem]) rfl ?_
  refine ⟨rfl, ?_⟩
  exact below_next (below_alloc w _) (below_alloc _ _)
set_option maxHeartbeats 1600000 in
theorem isNone_any (s : Sn) (x : Option Addr) (c : Nat) (w : World) :
    Calls Tryz.prog 44 #[.agg #[.string (str s.name), .string (str s.parent), .int .i64 s.kind, .bool s.lease, .slice x s.layer.length c]] w fun r w' => r = .returned (.bool (s.name.isEmpty && s.parent.isEmpty)) ∧ Below w.heap.size w w' := by
  have HC := hide (fun u => bondOf_any s x c u)
  go_enter Tryz.func44, Tryz.ntmps44
  go_wp2_with fail
  refine (HC.out _).mono ?_
  rintro r w1 ⟨rfl, hb1⟩
  have B1 := hide (below_next (below_alloc w (.cells #[.string (str s.name), .string (str s.parent), .int .i64 s.kind, .bool s.lease, .slice x s.layer.length c] 37)) hb1)
  clear hb1
  go_wp2_with fail
  all_goals
    go_ret
    refine ⟨ret_bool ?_, B1.out⟩
    clear B1 HC
    simp_all [str_toList]
def zeroS : Sn := ⟨[], [], 0, false, []⟩
def SnapR (o : Option Sn) (w : World) (r : Ending) : Prop :=
  ∃ e x cc, e = o.getD zeroS ∧ r = .returned (.agg #[.string (str e.name), .string (str e.parent), .int .i64 e.kind, .bool e.lease, .slice x e.layer.length cc]) ∧ RdE w x e.layer
set_option maxRecDepth 100000 in
set_option maxHeartbeats 800000 in
theorem snapOfLit_any (p : Bs) (b : Nat) (s : Sn) (a : Option Addr) (c : Nat) (w : World) (h : w.cell? ⟨b, 0, none⟩ = some (.string (str p))) :
    Calls Tryz.prog 86 #[.agg #[.string (str s.name), .string (str s.parent), .int .i64 s.kind, .bool s.lease, .slice a s.layer.length c], .pointer (some ⟨b, 0, none⟩)] w fun r w' => r = .returned (.bool (s.name == p)) ∧ Below w.heap.size w w' := by
  have hb := World.block_lt_of_cell? w ⟨b, 0, none⟩ h
  have hs := str_beq s.name p
  have HZ := hide (show (s.name == p) = decide (s.name = p) by by_cases h : s.name = p <;> simp [h])
  rw [HZ.out]
  clear HZ
  generalize decide (s.name = p) = Z at *
  have hbw : (w.alloc (.cells #[.string (str s.name), .string (str s.parent), .int .i64 s.kind, .bool s.lease, .slice a s.layer.length c] 37)).cell? ⟨b, 0, none⟩ = some (.string (str p)) := ((below_alloc w _).cell (p := ⟨b, 0, none⟩) hb).trans h
  go_enter Tryz.func86, Tryz.ntmps86
  go_wp2_with fail
  go_ret
  exact ⟨rfl, below_alloc _ _⟩
set_option maxRecDepth 100000 in
set_option maxHeartbeats 1600000 in
theorem snapOf_any (a : Option Addr) (c n : Nat) (l : List Sn) (nm : Bs) (w0 w : World) (hb0 : Below w0.heap.size w0 w) (h : RdS w0 a l) (hn : n = l.length) (hl : l.length ≤ 1048576) :
    Calls Tryz.prog 43 #[.slice a n c, .string (str nm)] w fun r w' => SnapR (atS l nm) w0 r ∧ Below w.heap.size w w' := by
  have hmf : ∀ (fn : Fn) (first cap : Array Value) (w : World), (Instr.makeFunc fn first cap).run Tryz.prog w = .ok (.func fn first cap) w := fun _ _ _ _ => rfl
  subst hn
  have B0 := hide (below_alloc w (.cells #[.string (str nm)] 9))
  have B1 := hide (below_next B0.out (below_alloc _ (.cells #[.string ⟨#[]⟩, .string ⟨#[]⟩, .int .i64 0, .bool false, .slice none 0 0] 37)))
  have HA : Hid (AsksN ((w.alloc (.cells #[.string (str nm)] 9)).alloc (.cells #[.string ⟨#[]⟩, .string ⟨#[]⟩, .int .i64 0, .bool false, .slice none 0 0] 37)) 86 #[.pointer (some ⟨w.heap.size, 0, none⟩)] (fun s => s.name == nm)) := hide ⟨enters_of Tryz.func86 (by kernel_rfl) rfl, fun s a c w' hb =>
    snapOfLit_any nm w.heap.size s a c w' ((hb.cell (p := ⟨w.heap.size, 0, none⟩) (by simp; omega)).trans ((below_alloc _ _).cell (p := ⟨w.heap.size, 0, none⟩) (by simp) |>.trans (by simp)))⟩
  have X0 := hide (Box5.new (w.alloc (.cells #[.string (str nm)] 9)) (.string ⟨#[]⟩) (.string ⟨#[]⟩) (.int .i64 0) (.bool false) (.slice none 0 0) 37)
  have HC := hide (firstN_any a c l.length l _ _ (fun s => s.name == nm) w0 _ (below_next hb0 B1.out) h rfl hl HA.out)
  have HATS := hide (show atS l nm = l.find? (fun s => s.name == nm) from rfl)
  clear h HA hb0 B0
  go_enter Tryz.func43, Tryz.ntmps43
  go_wp2_with fail
  simp only [World.size_alloc] at X0
  generalize (w.alloc (.cells #[.string (str nm)] 9)).alloc (.cells #[.string ⟨#[]⟩, .string ⟨#[]⟩, .int .i64 0, .bool false, .slice none 0 0] 37) = W0 at *
  refine HC.out.mono ?_
  rintro r w1 ⟨hf, hb1⟩
  have HF : ∃ e x cc b, e = (atS l nm).getD zeroS ∧ r = .returned (.tuple #[.agg #[.string (str e.name), .string (str e.parent), .int .i64 e.kind, .bool e.lease, .slice x e.layer.length cc], .bool b]) ∧ RdE w0 x e.layer := by
    rcases hf with ⟨e, x, cc, hq, hr, hx⟩ | ⟨hq, hr⟩
    · exact ⟨e, x, cc, true, by rw [HATS.out, hq]; rfl, hr, hx⟩
    · exact ⟨zeroS, none, 0, false, by rw [HATS.out, hq]; rfl, hr, fun hz => absurd rfl hz⟩
  obtain ⟨e, x, cc, b, he, rfl, hx⟩ := HF
  have HE := hide he
  have HX := hide hx
  have BA := hide (below_next hb1 (below_alloc w1 (.cells #[.string (str e.name), .string (str e.parent), .int .i64 e.kind, .bool e.lease, .slice x e.layer.length cc] 37)))
  obtain ⟨⟨t0, t1, t2, t3, t4⟩, tf⟩ := X0.out.below BA.out
  have tf0 := tf 0
  have tf1 := tf 1
  have tf2 := tf 2
  have tf3 := tf 3
  have tf4 := tf 4
  clear hf he hx tf hb1
  go_wp2_with fail
  refine bodyPost_ret (v := .agg #[.string (str e.name), .string (str e.parent), .int .i64 e.kind, .bool e.lease, .slice x e.layer.length cc]) (by simp [results, Tryz.results43, go_sem, t0, t1, t2, t3, t4]) rfl ?_
  exact ⟨⟨e, x, cc, HE.out, rfl, HX.out⟩, Below.five (below_next B1.out BA.out) (by omega) _ _ _ _ _⟩
end Go.Proofs.YteegkblkfdnfiaaGreat

