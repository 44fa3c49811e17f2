/-
  Texts put together: MntB IteT AppL TreH EntJ IteF TreI.
-/
import Derived.Test.YteegkblkfdnfiaaGreatKTold8
import Derived.Test.YteegkblkfdnfiaaGreatKTold7
import Derived.Test.YteegkblkfdnfiaaGreatKTold1
import Derived.Maps.AppendAt
import Derived.Deep.RegionHeld3
import Derived.Test.YteegkblkfdnfiaaGreatKTold5
import Derived.Test.YteegkblkfdnfiaaGreatKTold4
namespace Go.Proofs.YteegkblkfdnfiaaGreat
open Go.RowKit Go.Maps
set_option linter.unusedVariables false
attribute [local go_sem ↓] Go.wp_at_zero Go.wp_at_succ

theorem rdE_rows {w : World} {a : Option Addr} {es : List En} (h : RdE w a es) : ∃ rs : List Rw, rs.map Rw.e = es ∧ (∀ r ∈ rs, Reads .i64 w r.a r.e.chunks) ∧ (∀ W : World, Below w.heap.size w W → rowR rs ≠ [] → ∃ ad, a = some ad ∧ ∀ (j : Nat) u, (rowR rs)[j]? = some u → W.cell? (ad.add j) = some u) := by
  by_cases hz : es = []
  · subst hz
    exact ⟨[], rfl, fun r hr => by simp at hr, fun _ _ h => absurd rfl h⟩
  · obtain ⟨b, off, A, C, rfl, hb, hc⟩ := h hz
    have hmap : ((List.range es.length).map fun i => (⟨es.getD i zEn, A i, C i⟩ : Rw)).map Rw.e = es := by
      rw [List.map_map]
      apply List.ext_getElem?
      intro i
      by_cases hi : i < es.length
      · rw [List.getElem?_map, List.getElem?_range hi]
        simp [List.getD_eq_getElem?_getD, List.getElem?_eq_getElem hi]
      · rw [List.getElem?_eq_none (by simp; omega), List.getElem?_eq_none (by omega)]
    refine ⟨_, hmap, fun r hr => ?_, fun W hW _ => ⟨⟨b, off, none⟩, rfl, fun j u hj => ?_⟩⟩
    · obtain ⟨i, hi, rfl⟩ := List.mem_map.1 hr
      have hi' := List.mem_range.1 hi
      have he : es[i]? = some (es.getD i zEn) := by rw [List.getD_eq_getElem?_getD, List.getElem?_eq_getElem hi']; rfl
      exact (hc i _ he).2.2.2.2
    · have hlt : j < es.length * 4 := by
        have := (List.getElem?_eq_some_iff.1 hj).1
        rw [rowR_length] at this; simpa using this
      have hq : j / 4 < es.length := by omega
      have he : es[j / 4]? = some (es.getD (j / 4) zEn) := by rw [List.getD_eq_getElem?_getD, List.getElem?_eq_getElem hq]; rfl
      obtain ⟨c0, c1, c2, c3, -⟩ := hc (j / 4) _ he
      have hr : ((List.range es.length).map fun i => (⟨es.getD i zEn, A i, C i⟩ : Rw))[j / 4]? = some ⟨es.getD (j / 4) zEn, A (j / 4), C (j / 4)⟩ := by rw [List.getElem?_map, List.getElem?_range hq]; rfl
      have hg := rowR_get _ (j / 4) (j % 4) _ hr (by omega)
      rw [show j / 4 * 4 + j % 4 = j by omega, hj] at hg
      rw [add_addr, hW.cell (p := ⟨b, off + j, none⟩) hb, hg]
      rcases (show j % 4 = 0 ∨ j % 4 = 1 ∨ j % 4 = 2 ∨ j % 4 = 3 by omega) with h4 | h4 | h4 | h4
      · rw [h4, show off + j = off + j / 4 * 4 by omega, c0]; rfl
      · rw [h4, show off + j = off + j / 4 * 4 + 1 by omega, c1]; rfl
      · rw [h4, show off + j = off + j / 4 * 4 + 2 by omega, c2]; rfl
      · rw [h4, show off + j = off + j / 4 * 4 + 3 by omega, c3]; rfl
set_option maxRecDepth 100000 in
set_option maxHeartbeats 1600000 in
theorem copiedRow_any (a : Option Addr) (c n : Nat) (es : List En) (w : World) (h : RdE w a es) (hn : n = es.length) (hl : es.length ≤ 1048576) (h0 : 0 < es.length) :
    Calls Tryz.prog 89 #[.slice a n c] w fun r w' => ∃ rs : List Rw, r = .returned (.slice (some ⟨w.heap.size, 0, none⟩) es.length es.length) ∧ rs.map Rw.e = es ∧ w'.ownsRow w.heap.size 50 4 (.slice (some ⟨w.heap.size, 0, none⟩) es.length es.length) es.length (rowR rs) ∧ (∀ r ∈ rs, Reads .i64 w r.a r.e.chunks) ∧ Below w.heap.size w w' := by
  subst hn
  obtain ⟨i1, ki, kz0, kz1, kz2⟩ := info_parts Tryz.infoEn
  obtain ⟨rs, hrs, hrd, hcl⟩ := rdE_rows h
  have HC := hide hcl
  have HV1 := hide (rowR_one rs)
  have HRS := hide hrs
  have HRD := hide hrd
  have hby : i1.bytes * es.length ≤ 281474976710656 := by rw [kz2]; omega
  have hml : es.length ≤ maxLen := by unfold maxLen; omega
  have HVN := hide (show (rowR rs).length = es.length * 4 by rw [rowR_length, ← hrs, List.length_map])
  have HD := hide (show (madeCells (Value.agg #[.string ⟨#[]⟩, .int .i64 0, .int .i64 0, .slice none 0 0]).cells (es.length * 4)).toList.drop (es.length * 4) = [] from made_drop _ _)
  clear h hcl hrs hrd
  have HKK := hide (fun (N : Nat) (hN : N = es.length) => hN)
  clear HKK
  generalize hNN : es.length = N at *
  have hne : ((N : Int) == 0) = false := by simp; omega
  clear hNN
  go_enter Tryz.func89, Tryz.ntmps89
  go_wp2_with (first
    | (at_make; refine wpList_make_full _ rfl (.tmp 8) (.tmp 8) 35 rfl w.heap.size 50 i1 (.agg #[.string ⟨#[]⟩, .int .i64 0, .int .i64 0, .slice none 0 0]) 4 Tryz.underlying35 ki kz0 kz1 .i64 .i64 _ _ N rfl rfl (by simp) (by simp) hby hml (Nat.le_refl _) ?_; intro w1 ho1 hg1; have O1 := hide ho1; have B1 := hide (kept_none hg1); clear ho1 hg1)
    | (refine wpList_copy_onto rfl (.tmp 10) (.tmp 11) 35 rfl w.heap.size 50 i1 4 Tryz.underlying35 ki kz1 (by decide) w.heap.size N N _ rfl O1.out a N c (rowR rs) rfl (Nat.le_refl _) HVN.out (HC.out w1 B1.out) HV1.out ?_; rw [HD.out, List.append_nil]; intro w2 ho2 hk2; have O2 := hide ho2; have B2 := hide (B1.out.trans (hk2.below (B := w.heap.size) B1.out.size (fun b hb e => by omega))); clear ho2 hk2))
  go_ret
  exact ⟨rs, rfl, HRS.out, O2.out, HRD.out, B2.out⟩
theorem copiedRow_nil (c : Nat) (a : Option Addr) (w : World) :
    Calls Tryz.prog 89 #[.slice a 0 c] w fun r w' => r = .returned (.slice none 0 0) ∧ w' = w := by
  go_enter Tryz.func89, Tryz.ntmps89
  go_wp2_with fail
  go_ret
  exact ⟨rfl, rfl⟩
def RowX (B : Nat) (w : World) (g c k : Nat) (es : List En) : Prop :=
  ∃ rs : List Rw, rs.map Rw.e = es ∧ w.ownsRow B 50 4 (.slice (some ⟨g, 0, none⟩) es.length c) es.length (rowR rs) ∧ (∀ r ∈ rs, Reads .i64 w r.a r.e.chunks ∧ (r.e.chunks ≠ [] → ∀ x, r.a = some x → x.block ≠ g)) ∧
    ∀ i r, rs[i]? = some r → i < k → w.ownsRow B 2 1 (.slice r.a r.e.chunks.length r.c) r.e.chunks.length (r.e.chunks.map (Value.int .i64))
theorem RowX.below {B : Nat} {w w' : World} {g c k : Nat} {es : List En} (h : RowX B w g c k es) (hb : Below w.heap.size w w') : RowX B w' g c k es := by
  obtain ⟨rs, h1, h2, h3, h4⟩ := h
  exact ⟨rs, h1, ownsRow_below h2 hb, fun r hr => ⟨(h3 r hr).1.below hb, (h3 r hr).2⟩, fun i r hr hi => ownsRow_below (h4 i r hr hi) hb⟩
theorem RowX.rd {B : Nat} {w : World} {g c k : Nat} {es : List En} (h : RowX B w g c k es) : RdE w (some ⟨g, 0, none⟩) es := by
  obtain ⟨rs, h1, h2, h3, -⟩ := h
  exact (show SE B w (.slice (some ⟨g, 0, none⟩) es.length c) es from ⟨rs, h1, h2, fun r hr => (h3 r hr).1⟩).rd
def GW (B : Nat) (w : World) (v : Value) (es : List En) : Prop :=
  ∃ rs : List Rw, rs.map Rw.e = es ∧ w.ownsRow B 50 4 v es.length (rowR rs) ∧ ∀ r ∈ rs, w.ownsRow B 2 1 (.slice r.a r.e.chunks.length r.c) r.e.chunks.length (r.e.chunks.map (Value.int .i64))
theorem GW.of {B T : Nat} {w : World} {v : Value} {es : List En} (h : GE B T w v es) : GW B w v es := by
  obtain ⟨rs, h1, h2, h3, -⟩ := h
  exact ⟨rs, h1, h2, h3⟩
theorem GW.rd {B : Nat} {w : World} {a : Option Addr} {n c : Nat} {es : List En} (h : GW B w (.slice a n c) es) : RdE w a es := by
  obtain ⟨rs, h1, h2, h3⟩ := h
  exact (show SE B w (.slice a n c) es from ⟨rs, h1, h2, fun r hr => ownInts_reads (h3 r hr) rfl⟩).rd
theorem GW.nil (B : Nat) (w : World) : GW B w (.slice none 0 0) [] := ⟨[], rfl, World.ownsRow_nil _ _ _ _, fun r hr => by simp at hr⟩
theorem GW.kept {S : Nat → Prop} {B : Nat} {w w' : World} {v : Value} {es : List En} (h : GW B w v es) (hk : Kept S w w') (hS : ∀ b, B ≤ b → ¬ S b) : GW B w' v es := by
  obtain ⟨rs, h1, h2, h3⟩ := h
  exact ⟨rs, h1, ownsRow_kept h2 hk (fun b hb => hS b (h2.lt b hb).1), fun r hr => ownsRow_kept (h3 r hr) hk (fun b hb => hS b ((h3 r hr).lt b hb).1)⟩
theorem GW.below {B : Nat} {w w' : World} {v : Value} {es : List En} (h : GW B w v es) (hb : Below w.heap.size w w') : GW B w' v es := by
  obtain ⟨rs, h1, h2, h3⟩ := h
  exact ⟨rs, h1, ownsRow_below h2 hb, fun r hr => ownsRow_below (h3 r hr) hb⟩
theorem GW.mono {B B' : Nat} {w : World} {v : Value} {es : List En} (h : GW B w v es) (hb : B' ≤ B) : GW B' w v es := by
  obtain ⟨rs, h1, h2, h3⟩ := h
  exact ⟨rs, h1, ownsRow_mono h2 hb, fun r hr => ownsRow_mono (h3 r hr) hb⟩
theorem RowX.done {B : Nat} {w : World} {g c k : Nat} {es : List En} (h : RowX B w g c k es) (hk : es.length ≤ k) : GW B w (.slice (some ⟨g, 0, none⟩) es.length c) es := by
  obtain ⟨rs, h1, h2, h3, h4⟩ := h
  refine ⟨rs, h1, h2, fun r hr => ?_⟩
  obtain ⟨i, hi, he⟩ := List.getElem_of_mem hr
  have hl : rs.length = es.length := by rw [← h1, List.length_map]
  exact h4 i r (by rw [List.getElem?_eq_getElem hi, he]) (by omega)
theorem rows_set0 {rs : List Rw} {k : Nat} {r : Rw} (hr : rs[k]? = some r) : (rowR rs).set (k * 4) (.string (str r.e.path)) = rowR rs := by
  have g0 := rowR_get rs k 0 r hr (by decide)
  rw [Nat.add_zero] at g0
  apply List.ext_getElem?
  intro j
  rw [List.getElem?_set]
  by_cases hj : k * 4 = j
  · subst hj
    have hlt : k * 4 < (rowR rs).length := by have := (List.getElem?_eq_some_iff.1 hr).1; rw [rowR_length]; omega
    rw [if_pos rfl, if_pos hlt, g0]
    rfl
  · rw [if_neg hj]
theorem rows_set3 {rs : List Rw} {k : Nat} {r : Rw} (hr : rs[k]? = some r) (x : Option Addr) (cc : Nat) : (rowR rs).set (k * 4 + 3) (.slice x r.e.chunks.length cc) = rowR (rs.set k ⟨r.e, x, cc⟩) := by
  have hk := (List.getElem?_eq_some_iff.1 hr).1
  rw [← rowR_set4 rs k ⟨r.e, x, cc⟩ hk, rows_set0 hr]
  have g1 := rowR_get rs k 1 r hr (by decide)
  have g2 := rowR_get rs k 2 r hr (by decide)
  have l1 : k * 4 + 1 < (rowR rs).length := by rw [rowR_length]; omega
  have l2 : k * 4 + 2 < (rowR rs).length := by rw [rowR_length]; omega
  have e1 : (rowR rs).set (k * 4 + 1) (.int .i64 r.e.kind) = rowR rs := by
    apply List.ext_getElem?
    intro j
    rw [List.getElem?_set]
    by_cases hj : k * 4 + 1 = j
    · subst hj; rw [if_pos rfl, if_pos l1, g1]; rfl
    · rw [if_neg hj]
  have e2 : (rowR rs).set (k * 4 + 2) (.int .i64 r.e.size) = rowR rs := by
    apply List.ext_getElem?
    intro j
    rw [List.getElem?_set]
    by_cases hj : k * 4 + 2 = j
    · subst hj; rw [if_pos rfl, if_pos l2, g2]; rfl
    · rw [if_neg hj]
  rw [e1, e2]
theorem RowX.row {B : Nat} {w : World} {g c k K : Nat} {es : List En} {e : En} (h : RowX B w g c K es) (he : es[k]? = some e) : ∃ rs : List Rw, ∃ r : Rw, rs.map Rw.e = es ∧ rs[k]? = some r ∧ r.e = e ∧ w.ownsRow B 50 4 (.slice (some ⟨g, 0, none⟩) es.length c) es.length (rowR rs) ∧ (∀ r ∈ rs, Reads .i64 w r.a r.e.chunks ∧ (r.e.chunks ≠ [] → ∀ x, r.a = some x → x.block ≠ g)) ∧
    ∀ i r, rs[i]? = some r → i < K → w.ownsRow B 2 1 (.slice r.a r.e.chunks.length r.c) r.e.chunks.length (r.e.chunks.map (Value.int .i64)) := by
  obtain ⟨rs, h1, h2, h3, h4⟩ := h
  have hk : k < es.length := (List.getElem?_eq_some_iff.1 he).1
  have hl : rs.length = es.length := by rw [← h1, List.length_map]
  obtain ⟨r, hr⟩ : ∃ r, rs[k]? = some r := ⟨_, List.getElem?_eq_getElem (by omega)⟩
  refine ⟨rs, r, h1, hr, ?_, h2, h3, h4⟩
  have : (rs.map Rw.e)[k]? = some r.e := by rw [List.getElem?_map, hr]; rfl
  rw [h1, he] at this
  exact (Option.some.inj this).symm
theorem RowX.set0 {B : Nat} {w : World} {g c k K : Nat} {es : List En} {e : En} (h : RowX B w g c K es) (he : es[k]? = some e) : RowX B (w.setCell ⟨g, k * 4, none⟩ (.string (str e.path))) g c K es := by
  obtain ⟨rs, r, h1, hr, rfl, h2, h3, h4⟩ := h.row he
  have s1 := (h2.stored (k * 4) (.string (str r.e.path))).1
  rw [rows_set0 hr] at s1
  have hkp : Kept (fun b => b = g) w (w.setCell ⟨g, k * 4, none⟩ (.string (str r.e.path))) := Kept.setCell (S := fun b => b = g) (p := ⟨g, k * 4, none⟩) (Kept.refl _ _) (fun _ => rfl) _
  exact ⟨rs, h1, s1, fun r0 hr0 => ⟨(h3 r0 hr0).1.kept hkp (fun hz y hy hS => (h3 r0 hr0).2 hz y hy hS), (h3 r0 hr0).2⟩, fun i r0 hr0 hi => ownsRow_kept (h4 i r0 hr0 hi) hkp (fun b hb hS => ownsRow_apart h2 (h4 i r0 hr0 hi) (by decide) (by subst hS; rfl) hb)⟩
theorem RowX.set3 {B : Nat} {w : World} {g c k : Nat} {es : List En} {e : En} {x : Option Addr} {cc : Nat} (h : RowX B w g c k es) (he : es[k]? = some e) (hx : w.ownsRow B 2 1 (.slice x e.chunks.length cc) e.chunks.length (e.chunks.map (Value.int .i64))) (hg : e.chunks ≠ [] → ∀ y, x = some y → y.block ≠ g) : RowX B (w.setCell ⟨g, k * 4 + 3, none⟩ (.slice x e.chunks.length cc)) g c (k + 1) es := by
  obtain ⟨rs, r, h1, hr, rfl, h2, h3, h4⟩ := h.row he
  have hk : k < es.length := (List.getElem?_eq_some_iff.1 he).1
  have s1 := (h2.stored (k * 4 + 3) (.slice x r.e.chunks.length cc)).1
  rw [rows_set3 hr] at s1
  have hkp : Kept (fun b => b = g) w (w.setCell ⟨g, k * 4 + 3, none⟩ (.slice x r.e.chunks.length cc)) := Kept.setCell (S := fun b => b = g) (p := ⟨g, k * 4 + 3, none⟩) (Kept.refl _ _) (fun _ => rfl) _
  have hx2 := ownsRow_kept hx hkp (fun b hb hS => ownsRow_apart h2 hx (by decide) (by subst hS; rfl) hb)
  refine ⟨rs.set k ⟨r.e, x, cc⟩, ?_, s1, fun r0 hr0 => ?_, fun i r0 hr0 hi => ?_⟩
  · rw [List.map_set, h1]
    apply List.ext_getElem?
    intro j
    rw [List.getElem?_set]
    by_cases hj : k = j
    · subst hj; rw [if_pos rfl, if_pos hk, he]
    · rw [if_neg hj]
  · rcases List.mem_or_eq_of_mem_set hr0 with hr1 | rfl
    · exact ⟨(h3 r0 hr1).1.kept hkp (fun hz y hy hS => (h3 r0 hr1).2 hz y hy hS), (h3 r0 hr1).2⟩
    · exact ⟨ownInts_reads hx2 rfl, hg⟩
  · rw [List.getElem?_set] at hr0
    by_cases hj : k = i
    · subst hj
      rw [if_pos rfl] at hr0
      split at hr0
      · cases hr0; exact hx2
      · cases hr0
    · rw [if_neg hj] at hr0
      exact ownsRow_kept (h4 i r0 hr0 (by omega)) hkp (fun b hb hS => ownsRow_apart h2 (h4 i r0 hr0 (by omega)) (by decide) (by subst hS; rfl) hb)
set_option maxRecDepth 100000 in
set_option maxHeartbeats 3200000 in
theorem copiedEntries_any (a : Option Addr) (c n : Nat) (es : List En) (w : World) (h : RdE w a es) (hn : n = es.length) (hl : es.length ≤ 1048576) (hs : SmallE es) :
    Calls Tryz.prog 47 #[.slice a n c] w fun r w' => ∃ av cv, r = .returned (.slice av es.length cv) ∧ GW w.heap.size w' (.slice av es.length cv) es ∧ Below w.heap.size w w' := by
  subst hn
  have HS := hide hs
  by_cases hz : es = []
  · subst hz
    go_enter Tryz.func47, Tryz.ntmps47
    go_wp2_with fail
    refine (copiedRow_nil _ _ _).mono ?_
    rintro r w1 ⟨rfl, rfl⟩
    go_wp2_with fail
    go_loopw [10] (fun i wr => i = .int .i64 0 ∧ wr = w1) (fun _ _ => 0)
    case atStart => exact ⟨rfl, rfl⟩
    case round =>
      obtain ⟨rfl, hw9⟩ := hrel
      subst hw9
      go_wp2_with fail
      go_ret
      exact ⟨none, 0, rfl, GW.nil _ _, Below.refl _ _⟩
  · have h0 : 0 < es.length := List.length_pos_iff.2 hz
    have HCR := hide (copiedRow_any a c es.length es w h rfl hl h0)
    clear h hz hs
    go_enter Tryz.func47, Tryz.ntmps47
    go_wp2_with fail
    refine HCR.out.mono ?_
    rintro r w1 ⟨rs, rfl, hrs, hO, hrd, hb1⟩
    have B1 := hide hb1
    have hg1 : w.heap.size < w1.heap.size := (hO.lt w.heap.size rfl).2
    have R1 : Hid (RowX w.heap.size w1 w.heap.size es.length 0 es) := hide ⟨rs, hrs, hO, fun r hr => ⟨(hrd r hr).below hb1, fun hz y hy => by
      obtain ⟨b, off, e, hb, -⟩ := hrd r hr hz
      rw [e] at hy
      cases hy
      show b ≠ w.heap.size
      omega⟩, fun i r hr hi => by omega⟩
    clear hrs hO hrd hb1 HCR
    go_wp2_with fail
    go_loopw [10] (fun i wr => ∃ k : Nat, k ≤ es.length ∧ i = .int .i64 k ∧ Hid (RowX w.heap.size wr w.heap.size es.length k es) ∧ Hid (Below w.heap.size w wr) ∧ w.heap.size < wr.heap.size) (fun i _ => es.length - (intOf i).toNat)
    case atStart => exact ⟨0, Nat.zero_le _, rfl, R1, B1, hg1⟩
    case round =>
      obtain ⟨k, hk, rfl, HX, HW, hgw⟩ := hrel
      by_cases hlt : k < es.length
      · obtain ⟨b, off, e, x, cc, hbb, hb, he, c0, c1, c2, c3, hr⟩ := HX.out.rd.at hlt
        simp only [Option.some.injEq, Addr.mk.injEq, and_true] at hbb
        obtain ⟨rfl, rfl⟩ := hbb
        rw [Nat.zero_add] at c0 c1 c2 c3
        have hsm := HS.out e (List.mem_of_getElem? he)
        have HE := hide he
        have HRC := hide hr
        have hk0 : (0 : Int) ≤ (k : Int) := by omega
        have hk1 : (k : Int) < (es.length : Int) := by omega
        have fz : ∀ i, wr.frozen? ⟨w.heap.size, i, none⟩ = false := fun i => by obtain ⟨rs, -, h2, -⟩ := HX.out; exact h2.frozenAt _
        have BA := hide (below_alloc wr (.cells #[.string (str e.path), .int .i64 e.kind, .int .i64 e.size, .slice x e.chunks.length cc] 50))
        have FE := hide (Four.new wr (.string (str e.path)) (.int .i64 e.kind) (.int .i64 e.size) (.slice x e.chunks.length cc) 50)
        have HXB := hide (show e.chunks ≠ [] → ∀ y, x = some y → y.block ≠ w.heap.size from by
          obtain ⟨rs, r, q1, q2, q3, q4, q5, -⟩ := HX.out.row he
          have hg := (q4.cellAt (k * 4 + 3) (by omega)).trans (rowR_get rs k 3 r q2 (by decide))
          rw [c3] at hg
          simp only [cellsR, List.getElem?_cons_succ, List.getElem?_cons_zero, Option.some.injEq, Value.slice.injEq] at hg
          rw [hg.1, ← q3]
          exact (q5 r (List.mem_of_getElem? q2)).2)
        clear he hr
        go_wp2_with fail
        have HX1 := hide (HX.out.below BA.out)
        have hgE : w.heap.size < wr.heap.size := hgw
        generalize hWE : wr.alloc (.cells #[.string (str e.path), .int .i64 e.kind, .int .i64 e.size, .slice x e.chunks.length cc] 50) = WE at *
        have hsE : wr.heap.size < WE.heap.size := FE.out.lt
        clear hWE c0 c1 c2 c3 fz
        refine (clone_str (str e.path) _ (by rw [str_size]; omega)).mono ?_
        rintro r w2 ⟨rfl, hb2⟩
        have X2 := hide (HX1.out.below hb2)
        have FE2 := hide (FE.out.below hb2)
        have BB2 := hide (below_next HW.out (below_next BA.out hb2))
        have HRC2 := hide (HRC.out.below (below_next BA.out hb2))
        have hs2 := hb2.size
        have fz2 : ∀ i, w2.frozen? ⟨w.heap.size, i, none⟩ = false := fun i => by obtain ⟨rs, -, h2, -⟩ := X2.out; exact h2.frozenAt _
        obtain ⟨b, off, e', x', cc', hbb, hb', he', d0, d1, d2, d3, -⟩ := X2.out.rd.at hlt
        simp only [Option.some.injEq, Addr.mk.injEq, and_true] at hbb
        obtain ⟨rfl, rfl⟩ := hbb
        rw [Nat.zero_add] at d0
        have fz0 := fz2 (k * 4)
        have X3 := hide (X2.out.set0 HE.out)
        have hne : w.heap.size ≠ wr.heap.size := by omega
        have FE3 : Hid ((w2.setCell ⟨w.heap.size, k * 4, none⟩ (.string (str e.path))).cell? ⟨wr.heap.size, 3, none⟩ = some (.slice x e.chunks.length cc)) := hide (cell_set_far hne FE2.out.2.2.2)
        have BB3 := hide (BB2.out.setCell (p := ⟨w.heap.size, k * 4, none⟩) (Nat.le_refl _) (.string (str e.path)))
        have BS := hide (show (w2.setCell ⟨w.heap.size, k * 4, none⟩ (.string (str e.path))).heap.size = w2.heap.size by simp [World.setCell])
        have HRC3 : Hid (Reads .i64 (w2.setCell ⟨w.heap.size, k * 4, none⟩ (.string (str e.path))) x e.chunks) := hide (HRC2.out.kept (Kept.setCell (S := fun b => b = w.heap.size) (p := ⟨w.heap.size, k * 4, none⟩) (Kept.refl _ _) (fun _ => rfl) _) (fun hz y hy hS => HXB.out hz y hy hS))
        have fe3 := FE3.out
        clear hb2 d1 d2 d3 he' fz2
        go_wp2_with fail
        clear fe3
        generalize w2.setCell ⟨w.heap.size, k * 4, none⟩ (.string (str e.path)) = W3 at *
        refine (copiedInts_any x cc e.chunks.length e.chunks W3 HRC3.out rfl hsm.2).mono ?_
        rintro r w4 ⟨av, cv, rfl, hO4, hb4⟩
        have X4 := hide (X3.out.below hb4)
        have BB4 := hide (below_next BB3.out hb4)
        have O4 := hide hO4
        have fz4 : w4.frozen? ⟨w.heap.size, k * 4 + 3, none⟩ = false := by obtain ⟨rs, -, h2, -⟩ := X4.out; exact h2.frozenAt _
        obtain ⟨b, off, e', x', cc', hbb, hb', he', d0, d1, d2, d3, -⟩ := X4.out.rd.at hlt
        simp only [Option.some.injEq, Addr.mk.injEq, and_true] at hbb
        obtain ⟨rfl, rfl⟩ := hbb
        rw [Nat.zero_add] at d3
        have hs4 := hb4.size
        have hs3 := BS.out
        clear hO4 hb4 d0 d1 d2 he'
        go_wp2_with fail
        go_roundw
        case rel =>
          refine ⟨k + 1, by omega, by go_num, hide ?_, hide ?_, ?_⟩
          · exact X4.out.set3 HE.out (ownsRow_mono O4.out (by omega)) (fun _ y hy e => by
              have := (O4.out.lt y.block (by rw [hy]; rfl)).1
              omega)
          · exact BB4.out.setCell (p := ⟨w.heap.size, k * 4 + 3, none⟩) (Nat.le_refl _) _
          · simp [World.setCell]; omega
        case measure => simp [intOf]; omega
      · have HRD := hide (HX.out.done (by omega))
        go_wp2_with fail
        go_ret
        exact ⟨some ⟨w.heap.size, 0, none⟩, es.length, rfl, HRD.out, HW.out⟩
def ResG (q rep : Int) (U : List En) (w : World) (r : Ending) (w' : World) : Prop :=
  ∃ av cv, r = .returned (.agg #[.int .i64 q, .int .i64 rep, .slice av U.length cv]) ∧ GW w.heap.size w' (.slice av U.length cv) U ∧ Below w.heap.size w w'
theorem ResG.of {q rep : Int} {U : List En} {w w3 : World} {B b n : Nat} {av : Option Addr} {cv : Nat} {u0 u1 u2 : Value} (hB : b < B) (hw : w.heap.size ≤ b) (hn : n = U.length) (hG : GW B w3 (.slice av n cv) U) (hb : Below w.heap.size w w3) :
    ResG q rep U w (.returned (.agg #[.int .i64 q, .int .i64 rep, .slice av n cv])) (((w3.setCell ⟨b, 0, none⟩ u0).setCell ⟨b, 1, none⟩ u1).setCell ⟨b, 2, none⟩ u2) := by
  subst hn
  exact ⟨av, cv, rfl, (hG.kept (Kept.three w3 b u0 u1 u2) (fun x hx e => by omega)).mono (by omega), ((hb.setCell (p := ⟨b, 0, none⟩) hw _).setCell (p := ⟨b, 1, none⟩) hw _).setCell (p := ⟨b, 2, none⟩) hw _⟩
set_option maxRecDepth 100000 in
set_option maxHeartbeats 1600000 in
theorem stays_any (a : Option Addr) (c n : Nat) (U : List En) (q : Int) (w : World) (h : RdE w a U) (hn : n = U.length) (hl : U.length ≤ 1048576) (hs : SmallE U) :
    Calls Tryz.prog 115 #[.slice a n c, .int .i64 q] w (ResG 0 q U w) := by
  subst hn
  have X0 := hide (Box3.new w (.int .i64 0) (.int .i64 0) (.slice none 0 0) 69)
  have B0 := hide (below_alloc w (.cells #[.int .i64 0, .int .i64 0, .slice none 0 0] 69))
  have HC := hide (copiedEntries_any a c U.length U _ (h.below B0.out) rfl hl hs)
  clear h hs
  go_enter Tryz.func115, Tryz.ntmps115
  go_wp2_with fail
  refine HC.out.mono ?_
  rintro r w1 ⟨av, cv, rfl, hG, hb1⟩
  have G1 := hide hG
  have B1 := hide (below_next B0.out hb1)
  have hlt : w.heap.size < (w.alloc (.cells #[.int .i64 0, .int .i64 0, .slice none 0 0] 69)).heap.size := X0.out.lt
  obtain ⟨⟨t0, t1, t2⟩, t3, t4, t5⟩ := X0.out.below hb1
  clear hG hb1
  go_wp2_with fail
  exact bodyPost_ret (v := .agg #[.int .i64 0, .int .i64 q, .slice av U.length cv]) (by simp [results, Tryz.results115, go_sem, t0, t1, t2]) rfl (ResG.of hlt (Nat.le_refl _) rfl G1.out B1.out)
end Go.Proofs.YteegkblkfdnfiaaGreat

namespace Go.Proofs.YteegkblkfdnfiaaGreat
open Go.RowKit Go.Sort Go.Shelf
set_option linter.unusedVariables false

set_option maxRecDepth 100000 in
set_option maxHeartbeats 1600000 in
theorem sortList_any (B g n c : Nat) (rs ss : List Rw) (w : World) (h : w.ownsRow B 93 4 (.slice (some ⟨g, 0, none⟩) n c) n (rowI rs)) (hn : n = rs.length) (h12 : n ≤ 1048577) (hp : ss.Perm rs) (hs : ss.Pairwise (fun x y => Op.bytesLess x.e.path y.e.path = true)) :
    Calls Tryz.prog 232 #[.slice (some ⟨g, 0, none⟩) n c, .func (.func 233) #[] #[]] w fun e w' => e = .returned (.tuple #[]) ∧ (∀ i q r, ss[i]? = some r → q < 4 → w'.cell? ⟨g, i * 4 + q, none⟩ = (cellsI r)[q]?) ∧ Kept (fun b => b = g) w w' := by
  subst hn
  haveI : Inhabited Rw := ⟨⟨⟨[], 0, 0, []⟩, none, 0⟩⟩
  have hg := (h.lt g rfl).2
  have hH : HoldsK cellsI 4 w g 0 rs.toArray := by
    intro j hj
    rw [size_flatK] at hj
    have hj4 : j < rs.length * 4 := by simpa using hj
    have h1 : j / 4 < rs.length := by omega
    obtain ⟨r, hr⟩ : ∃ r, rs[j / 4]? = some r := ⟨_, List.getElem?_eq_getElem h1⟩
    have hc := (h.cellAt (j / 4 * 4 + j % 4) (by omega)).trans (rowI_get rs (j / 4) (j % 4) _ hr (by omega))
    rw [show j / 4 * 4 + j % 4 = j by omega] at hc
    refine ⟨?_, h.frozenAt _⟩
    rw [Nat.zero_add, hc, get_flatK _ _ _ _ hj]
    have e1 : rs.toArray[j / 4]! = r := by
      have := List.getElem?_eq_some_iff.1 hr
      simp [h1, this.2]
    rw [e1]
    have hl : j % 4 < (cellsI r).length := by show j % 4 < 4; omega
    simp only [id]
    rw [List.getElem?_eq_getElem hl, getElem!_pos (cellsI r) (j % 4) hl]
  have eg : ∀ args w, (callFunc 233 args).run Tryz.prog w = .ok (.enter 233 args) w := enters_of Tryz.func233 (by kernel_rfl) rfl
  have hsz : rs.toArray.size < 4611686018427387904 := by have h2 := h12; simpa using (by omega : rs.length < 4611686018427387904)
  have hlim : Lib.bitLen rs.length < 4611686018427387904 := Nat.lt_of_le_of_lt (Lib.bitLen_le rs.length 62 (by omega) (by omega)) (by omega)
  have hpd := AnyQ.pdqsortCmpFunc_all Tryz.pdqT 4 Tryz.isAgg93 Tryz.sizeOf93 cellsI (fun x y => cmpB x.e.path y.e.path) 233 #[] swo_path g 0 c rs.toArray w eg (fun _ _ _ _ x y => sortLit_any x y _) ⟨fun _ => rfl, fun x v hv => rowI_one [x] v (by simpa [rowI] using hv), hH, hg⟩ (rs.toArray.size + 1) 0 rs.toArray.size (Lib.bitLen rs.length) rs.toArray w (by omega) rfl (SWK.start hH) (Nat.zero_le _) (Nat.le_refl _) hsz hlim (Or.inl rfl)
  have hps := pdq_sorts (ltOf fun x y : Rw => cmpB x.e.path y.e.path) swo_path rs.toArray 0 rs.toArray.size (Lib.bitLen rs.length) true true (Nat.zero_le _) (Nat.le_refl _) (Or.inl rfl)
  have hcon : Calls Tryz.prog 232 #[.slice (some ⟨g, 0, none⟩) rs.length c, .func (.func 233) #[] #[]] w fun e w' => e = .returned (.tuple #[]) ∧ ∃ d' n os, PermIn 0 rs.toArray.size rs.toArray d' ∧ SortedIn (ltOf fun x y : Rw => cmpB x.e.path y.e.path) 0 rs.toArray.size d' ∧ w' = sortWorldK cellsI 4 w g 0 n d' os := by
    have HP : Hid (Calls Tryz.prog 257 #[.slice (some ⟨g, 0, none⟩) rs.length c, .int .i64 0, .int .i64 rs.length, .int .i64 (Lib.bitLen rs.length : Nat), .func (.func 233) #[] #[]] w fun e w' => e = .returned (.tuple #[]) ∧ ∃ d' n os, PermIn 0 rs.toArray.size rs.toArray d' ∧ SortedIn (ltOf fun x y : Rw => cmpB x.e.path y.e.path) 0 rs.toArray.size d' ∧ w' = sortWorldK cellsI 4 w g 0 n d' os) := hide (by
      have h2 := hpd
      simp only [List.size_toArray] at h2
      refine (show Calls Tryz.prog 257 _ w _ from h2).mono ?_
      rintro e w' ⟨he, n, os, hw⟩
      exact ⟨he, _, n, os, by simpa using hps.1, by simpa using hps.2, hw⟩)
    have HL : Hid (Calls Tryz.prog 167 #[.int .u64 (rs.length : Int)] w fun e w' => e = .returned (.int .i64 (Lib.bitLen rs.length : Nat)) ∧ w' = w) := hide (by
      have h3 := Any.bits_Len Tryz.lenT (rs.length : Int) w (by omega) (by omega)
      rw [Int.toNat_natCast] at h3
      exact h3)
    have wr : IntKind.u64.wrap (rs.length : Int) = rs.length := by simp [IntKind.wrap, IntKind.bits, IntKind.signed]; omega
    clear hpd hps hH hlim hsz
    go_enter Tryz.func232, Tryz.ntmps232
    go_wp2_with fail
    refine HL.out.mono ?_
    rintro e w ⟨rfl, rfl⟩
    go_wp2_with fail
    refine HP.out.mono ?_
    rintro e w' ⟨rfl, hrest⟩
    have HRS := hide hrest
    clear hrest
    go_wp2_with fail
    first | go_end0 | skip
    exact ⟨rfl, HRS.out⟩
  refine (show Calls Tryz.prog 232 #[.slice (some ⟨g, 0, none⟩) rs.length c, .func (.func 233) #[] #[]] w _ from hcon).mono ?_
  rintro e w' ⟨he, d', m, os, hperm, hsort, rfl⟩
  obtain ⟨hsz, _, hpm⟩ := hperm
  have hsz' : d'.size = rs.length := by simpa using hsz
  have hpm' : d'.toList.Perm rs := by
    have e1 : (d'.extract 0 rs.toArray.size).toList = d'.toList := by simp [← hsz']
    have e2 : (rs.toArray.extract 0 rs.toArray.size).toList = rs := by simp
    rw [e1, e2] at hpm
    exact hpm
  have hnd : ss.Pairwise (fun x y => x.e.path ≠ y.e.path) := hs.imp (fun h => bl_ne h)
  have hnd' : d'.toList.Pairwise (fun x y => x.e.path ≠ y.e.path) := (hpm'.trans hp.symm).symm.pairwise hnd (fun h => h.symm)
  have hd : d'.toList = ss := by
    refine rise_unique (hpm'.trans hp.symm) ?_ hs
    rw [List.pairwise_iff_getElem]
    intro i j hi hj hij
    have hne := List.pairwise_iff_getElem.1 hnd' i j hi hj hij
    have hlt := hsort i j (Nat.zero_le _) hij (by simpa [← hsz'] using hj)
    have e1 : ltOf (fun x y : Rw => cmpB x.e.path y.e.path) d'[j]! d'[i]! = Op.bytesLess d'[j]!.e.path d'[i]!.e.path := cmpB_lt _ _
    rw [e1] at hlt
    have hi' : i < d'.size := by simpa using hi
    have hj' : j < d'.size := by simpa using hj
    rw [getElem!_pos d' i hi', getElem!_pos d' j hj'] at hlt
    simp only [Array.getElem_toList] at hne ⊢
    exact bl_total _ _ hlt (fun x => hne x.symm)
  have hK := holdsK_sortWorldK_c cellsI 4 w g 0 rs.toArray d' m os hH hg (by simpa using hsz')
  refine ⟨he, fun i q r hi hq => ?_, ?_⟩
  · rw [← hd] at hi
    have hi' : i < d'.size := by have := (List.getElem?_eq_some_iff.1 hi).1; simpa using this
    have := (hK.cell (i := i) (c := q) hi' hq).1
    rw [Nat.zero_add] at this
    rw [this]
    have e1 : d'[i]! = r := by
      rw [getElem!_pos d' i hi']
      have := (List.getElem?_eq_some_iff.1 hi).2
      simpa using this
    rw [e1]
    have hl : q < (cellsI r).length := hq
    rw [List.getElem?_eq_getElem hl, getElem!_pos (cellsI r) q hl]
  · refine ⟨rfl, rfl, rfl, ?_, fun k hk hn => ?_⟩
    · show w.heap.size ≤ ((w.heap.modify g _) ++ os).size
      simp
    · show ((w.heap.modify g _) ++ os)[k]? = w.heap[k]?
      rw [Array.getElem?_append_left (by simpa using hk), Array.getElem?_modify]
      have : ¬ g = k := fun e => hn e.symm
      simp [this]

end Go.Proofs.YteegkblkfdnfiaaGreat

namespace Go.Proofs.YteegkblkfdnfiaaGreat
open Go.RowKit
set_option linter.unusedVariables false

theorem step_app {P : Program} {w : World} {ops : Array Oper} {o : Oper} {a : Act} {K : Act → World → Prop} {Q : Exit → Act → World → Prop} {E : Prop} (hgd : o.guard = none) (s x : Operand) (t : TypeId)
    (ho : o.op = .call { callee := .builtin .append, args := #[s, x], argTypes := #[t, t] })
    (base : Nat) (e : TypeId) (i : TypeInfo) (z : Value) (size bytes : Nat) (ht : P.underlying t = some (.slice e)) (hi : P.info? e = some i) (hz : i.zero = some z)
    (hsize : i.size = size) (hby : i.bytes = bytes) (hzs : z.cells.size = size) (hsz : 0 < size)
    (v : Value) (n : Nat) (xs : List Value) (hs : a.eval s = v) (hown : w.ownsRow base e size v n xs)
    (ad : Addr) (m c : Nat) (news : List Value) (hx : a.eval x = .slice (some ad) m c) (hl : news.length = m * size) (hnews : ∀ j u, news[j]? = some u → w.cell? (ad.add j) = some u) (h1 : ∀ u ∈ news, u.oneCell' = true)
    (N : Nat) (hN : n + m = N) (h63 : n + m ≤ maxLen) (hbytes : (n + m) * bytes ≤ 140737488355328) (hbase : base ≤ w.heap.size)
    (h : ∀ av cv w', w'.ownsRow base e size (.slice av N cv) N (xs ++ news) → Kept (fun b => v.ownBlock = some b) w w' → K (a.put o.dst (.slice av N cv)) w') :
    if Region.wanted o (yielded ops a.tmps) = true then Oper.wp P o a w K Q else E := by
  have hw : Region.wanted o (yielded ops a.tmps) = true := by simp [Region.wanted, hgd]
  rw [if_pos hw]
  refine wp_append_own w s x t ho base e i z size bytes ht hi hz hsize hby hzs hsz v n xs hs hown ad m c news hx hl hnews h1 h63 hbytes hbase fun v' w' h2 h3 _ => ?_
  rw [hN] at h2
  obtain ⟨av, cv, rfl⟩ := ownsRow_shape h2
  exact h av cv w' h2 ⟨h3.os, h3.tape, h3.output, h3.size, fun q hq hn => h3.block q hq (fun e => hn e.symm)⟩
theorem addr_add (b o j : Nat) : (⟨b, o, none⟩ : Addr).add j = ⟨b, o + j, none⟩ := by unfold Addr.add; split <;> simp_all
end Go.Proofs.YteegkblkfdnfiaaGreat

namespace Go.Proofs.YteegkblkfdnfiaaGreat
open Go.RowKit Go.Maps Go.Sort
set_option linter.unusedVariables false
attribute [local go_sem ↓] Go.wp_at_zero Go.wp_at_succ

theorem path_len2 {p : Bs} (h : faultP p = 0) : p.length ≤ 15 := by
  obtain ⟨ns, hN, hpe, _, _⟩ := faultP_zero h
  have h1 := join_len ns hN.2.2.1
  have h2 := hN.2.2.2
  rw [hpe]
  omega



theorem put_order2 {rs : List Rw} {r : Rw} {e : En} {bs : List En} (h : rs.map Rw.e = bs) (he : r.e = e) : ∃ ss : List Rw, ss.Perm (rs ++ [r]) ∧ ss.map Rw.e = putAt bs e := by
  refine ⟨rs.take (lowN bs e.path) ++ r :: rs.drop (lowN bs e.path), ?_, ?_⟩
  · refine List.perm_middle.trans ?_
    rw [List.take_append_drop]
    exact (List.perm_append_singleton r rs).symm
  · rw [List.map_append, List.map_cons, List.map_take, List.map_drop, h, he]
    rfl
theorem sorted_rd2 {W0 wr w' : World} {g : Nat} {ss : List Rw} (hc : ∀ i q r, ss[i]? = some r → q < 4 → w'.cell? ⟨g, i * 4 + q, none⟩ = (cellsI r)[q]?) (hr : ∀ r ∈ ss, Reads .i64 W0 r.a r.e.chunks) (hb : Below W0.heap.size W0 wr) (hk : Kept (fun b => b = g) wr w') (hg : W0.heap.size ≤ g) (hgw : g < wr.heap.size) :
    RdI w' (some ⟨g, 0, none⟩) (ss.map Rw.e) := by
  intro _
  refine ⟨g, 0, fun i => (ss[i]?.map Rw.a).getD none, fun i => (ss[i]?.map Rw.c).getD 0, rfl, Nat.lt_of_lt_of_le hgw hk.size, fun i e hi => ?_⟩
  rw [List.getElem?_map] at hi
  cases hri : ss[i]? with
  | none => rw [hri] at hi; simp at hi
  | some r =>
    rw [hri] at hi
    simp only [Option.map_some, Option.some.injEq] at hi
    subst hi
    have c0 := hc i 0 r hri (by decide)
    have c1 := hc i 1 r hri (by decide)
    have c2 := hc i 2 r hri (by decide)
    have c3 := hc i 3 r hri (by decide)
    have hrr := hr r (List.mem_of_getElem? hri)
    simp only [hri, Option.map_some, Option.getD_some, Nat.zero_add]
    refine ⟨by simpa [cellsI] using c0, by simpa [cellsI] using c1, by simpa [cellsI] using c2, by simpa [cellsI] using c3, ?_⟩
    refine (hrr.below hb).kept hk (fun hz x hx e => ?_)
    obtain ⟨b, off, e1, hb1, _⟩ := hrr hz
    rw [e1] at hx
    cases hx
    simp only at e
    omega

theorem off_rise {es : List En} (h : Rise es) (p : Bs) : Rise (offE es p) := h.sublist List.filter_sublist
set_option maxRecDepth 100000 in
set_option maxHeartbeats 3200000 in
theorem withItem_end (W : World) (bs : List En) (e : En) (x : Option Addr) (cc : Nat) (rs : List Rw) (av : Option Addr) (cv : Nat) (w1 u : World) (hrs : rs.map Rw.e = bs) (hrd : ∀ r ∈ rs, Reads .i64 w1 r.a r.e.chunks) (hx : Reads .i64 w1 x e.chunks) (hb : Below w1.heap.size w1 u) (hw : W.heap.size ≤ w1.heap.size) (hB : Below W.heap.size W u)
    (ho : u.ownsRow w1.heap.size 93 4 (.slice av (bs.length + 1) cv) (bs.length + 1) (rowI rs ++ cellsI ⟨e, x, cc⟩)) (hl : bs.length ≤ 1048576) (hr : Rise bs) (hn : ∀ y ∈ bs, y.path ≠ e.path) :
    ∃ g, av = some ⟨g, 0, none⟩ ∧ Calls Tryz.prog 232 #[.slice (some ⟨g, 0, none⟩) (bs.length + 1) cv, .func (.func 233) #[] #[]] u fun r w' => r = .returned (.tuple #[]) ∧ RdI w' (some ⟨g, 0, none⟩) (putAt bs e) ∧ Below W.heap.size W w' := by
  obtain ⟨g, hgv, -⟩ := row_addr ho (.inl (by omega))
  subst hgv
  obtain ⟨ss, hperm, hmap⟩ := put_order2 (r := ⟨e, x, cc⟩) hrs rfl
  have hrise : ss.Pairwise (fun x y => Op.bytesLess x.e.path y.e.path = true) := by
    have := rise_putAt (e := e) hr hn
    rw [← hmap] at this
    exact List.pairwise_map.1 this
  have ho2 : u.ownsRow w1.heap.size 93 4 (.slice (some ⟨g, 0, none⟩) (bs.length + 1) cv) (bs.length + 1) (rowI (rs ++ [⟨e, x, cc⟩])) := by rw [rowI_append]; simpa [rowI] using ho
  have hlen : bs.length + 1 = (rs ++ [(⟨e, x, cc⟩ : Rw)]).length := by rw [List.length_append, ← hrs, List.length_map]; rfl
  have hgl := ho.lt g rfl
  refine ⟨g, rfl, (sortList_any w1.heap.size g (bs.length + 1) cv (rs ++ [⟨e, x, cc⟩]) ss u ho2 hlen (by omega) hperm hrise).mono ?_⟩
  rintro r w' ⟨rfl, hc, hk⟩
  refine ⟨rfl, ?_, hB.trans (hk.below hB.size (fun q hq hS => by have : q = g := hS; omega))⟩
  rw [← hmap]
  refine sorted_rd2 hc (fun r hr => ?_) hb hk hgl.1 hgl.2
  rcases List.mem_append.1 (hperm.subset hr) with hr | hr
  · exact hrd r hr
  · simp only [List.mem_singleton] at hr
    subst hr
    exact hx
end Go.Proofs.YteegkblkfdnfiaaGreat

namespace Go.Proofs.YteegkblkfdnfiaaGreat
open Go.RowKit Go.Maps
set_option linter.unusedVariables false

def fileCode (p : Bs) (zs : List Int) : Int := if faultP p = 0 then (if 24 < zs.length then 2 else 0) else faultP p
def fileList (p : Bs) (zs : List Int) : List En := if fileCode p zs = 0 then [fileE p zs] else []

end Go.Proofs.YteegkblkfdnfiaaGreat

namespace Go.Proofs.YteegkblkfdnfiaaGreat
open Go.RowKit Go.Maps
set_option linter.unusedVariables false
attribute [local go_sem ↓] Go.wp_at_zero Go.wp_at_succ

set_option maxRecDepth 100000 in
set_option maxHeartbeats 1600000 in
theorem implFileEntry_any (p : Bs) (a : Option Addr) (cap n : Nat) (zs : List Int) (w : World) (h : Reads .u8 w a zs) (hn : n = zs.length) (hu : U8 zs) (hcap : zs.length ≤ cap) (hp : p.length ≤ 1048576) (hzl : zs.length ≤ 1048576) :
    Calls Tryz.prog 22 #[.string (str p), .slice a n cap] w (ResE (fileCode p zs) (fileList p zs) w) := by
  subst hn
  have HQ := hide (fun u => implPathFault_any (str p) u (by rw [str_size]; omega))
  have HA := hide h
  have HU := hide hu
  clear h hu
  have X0 := hide (Box.new w (.int .i64 0) (.slice none 0 0) 54)
  have B0 := hide (below_alloc w (.cells #[.int .i64 0, .slice none 0 0] 54))
  go_enter Tryz.func22, Tryz.ntmps22
  go_wp2_with fail
  refine (HQ.out _).mono ?_
  rintro r w1 ⟨rfl, hb1⟩
  rw [str_data]
  have B1 := hide (below_next B0.out hb1)
  have X1 := hide (X0.out.below hb1)
  clear hb1 X0 B0
  by_cases hz : faultP p = 0
  · rw [hz]
    by_cases hl : 24 < zs.length
    · have HR := hide (show fileCode p zs = 2 ∧ fileList p zs = [] from by
        have : fileCode p zs = 2 := by simp [fileCode, hz, hl]
        exact ⟨this, by simp [fileList, this]⟩)
      clear hz
      go_wp2_with fail
      refine (implDigestsOf_no a cap zs _ hl hzl).mono ?_
      rintro r w2 ⟨rfl, hb2⟩
      obtain ⟨⟨t0, t1⟩, t2, t3⟩ := (X1.out.below hb2).below (below_alloc w2 (.cells #[.int .i64 2, .slice none 0 0] 104))
      have B2 := hide (below_next (below_next B1.out hb2) (below_alloc w2 (.cells #[.int .i64 2, .slice none 0 0] 104)))
      clear hb2
      go_wp2_with fail
      exact bodyPost_ret (v := .agg #[.int .i64 2, .slice none 0 0]) (by simp [results, Tryz.results22, go_sem, t0, t1]) rfl (by rw [HR.out.1, HR.out.2]; exact ResE.bad (Nat.le_refl _) B2.out)
    · have HR := hide (show fileCode p zs = 0 ∧ fileList p zs = [fileE p zs] from by
        have : fileCode p zs = 0 := by simp [fileCode, hz, hl]
        exact ⟨this, by simp [fileList, this]⟩)
      clear hz
      go_wp2_with fail
      refine (implDigestsOf_ok a cap zs _ (HA.out.below B1.out) HU.out hcap (by omega)).mono ?_
      rintro r w2 ⟨v, rfl, ho, hb2⟩
      obtain ⟨av, cv, rfl⟩ := ownsRow_shape ho
      have hls := digs_len zs
      have RD := hide (ownInts_reads (zs := digs zs (cut zs).length) ho hls.symm)
      have hls2 : (fileE p zs).chunks.length = (cut zs).length := hls
      have hlt0 := X1.out.1.lt
      have Y1 := hide (((X1.out.below hb2).below (below_alloc w2 (.cells #[.int .i64 0, .slice av (cut zs).length cv] 104))).below (below_alloc _ (.cells #[.int .i64 zs.length, .slice av (cut zs).length cv] 91)))
      have B2 := hide (below_next (below_next B1.out hb2) (below_next (below_alloc w2 (.cells #[.int .i64 0, .slice av (cut zs).length cv] 104)) (below_alloc _ (.cells #[.int .i64 zs.length, .slice av (cut zs).length cv] 91))))
      have RD2 := hide (RD.out.below (below_next (below_alloc w2 (.cells #[.int .i64 0, .slice av (cut zs).length cv] 104)) (below_alloc _ (.cells #[.int .i64 zs.length, .slice av (cut zs).length cv] 91))))
      have hs2 := hb2.size
      clear ho hb2 X1 RD
      go_wp2_with fail
      have hsz : (((w2.alloc (.cells #[.int .i64 0, .slice av (cut zs).length cv] 104))).alloc (.cells #[.int .i64 zs.length, .slice av (cut zs).length cv] 91)).heap.size = w2.heap.size + 1 + 1 := by simp
      generalize (w2.alloc (.cells #[.int .i64 0, .slice av (cut zs).length cv] 104)).alloc (.cells #[.int .i64 zs.length, .slice av (cut zs).length cv] 91) = W at *
      have RI := hide (RdI.fresh (e := fileE p zs) (c := cv) (t := 93) RD2.out)
      rw [hsz, hls2] at RI
      have BW := hide (below_alloc W (.cells #[.int .i64 zs.length, .slice av (cut zs).length cv, .string (str p), .int .i64 1] 93))
      obtain ⟨W3, hW3⟩ : ∃ W3, W3 = W.alloc (.cells #[.int .i64 zs.length, .slice av (cut zs).length cv, .string (str p), .int .i64 1] 93) := ⟨_, rfl⟩
      rw [← hW3] at BW ⊢
      have RI3 : Hid (RdI W3 (some ⟨w2.heap.size + 1 + 1, 0, none⟩) [fileE p zs]) := hide (by rw [hW3]; exact RI.out)
      have hcl : (cut zs).length ≤ 1048576 := by have := cut_length zs; omega
      clear RI hW3 hsz
      refine (entriesOf_any _ _ 1 [fileE p zs] _ RI3.out rfl (by simp) (fun e he => by simp only [List.mem_singleton] at he; subst he; exact ⟨hp, by rw [hls2]; exact hcl⟩)).mono ?_
      rintro r w5 ⟨av5, cv5, rfl, hG5, hb5⟩
      obtain ⟨⟨t0, t1⟩, t2, t3⟩ := (Y1.out.below BW.out).below hb5
      have G5 := hide hG5
      have B5 := hide (below_next (below_next B2.out BW.out) hb5)
      have hs3 := BW.out.size
      have hs4 := Y1.out.1.lt
      clear hG5 hb5
      go_wp2_with fail
      exact bodyPost_ret (v := .agg #[.int .i64 0, .slice av5 1 cv5]) (by simp [results, Tryz.results22, go_sem, t0, t1]) rfl (by rw [HR.out.1, HR.out.2]; exact ResE.of (w2 := w1) (by omega) (Nat.le_refl _) rfl G5.out B5.out)
  · have HR := hide (show fileCode p zs = faultP p ∧ fileList p zs = [] from by
      have : fileCode p zs = faultP p := by simp [fileCode, hz]
      exact ⟨this, by simp [fileList, this, hz]⟩)
    generalize faultP p = F at *
    have hz2 : (F != 0) = true := by simp; exact hz
    clear hz
    obtain ⟨⟨t0, t1⟩, t2, t3⟩ := X1.out
    go_wp2_with fail
    exact bodyPost_ret (v := .agg #[.int .i64 F, .slice none 0 0]) (by simp [results, Tryz.results22, go_sem, t0, t1]) rfl (by rw [HR.out.1, HR.out.2]; exact ResE.bad (Nat.le_refl _) B1.out)

end Go.Proofs.YteegkblkfdnfiaaGreat

namespace Go.Proofs.YteegkblkfdnfiaaGreat
open Go.RowKit Go.Maps Go.Sort
set_option linter.unusedVariables false
attribute [local go_sem ↓] Go.wp_at_zero Go.wp_at_succ

theorem news_item {u : World} {b : Nat} {e : En} {x : Option Addr} {cc : Nat} (h : Four u b (.int .i64 e.size) (.slice x e.chunks.length cc) (.string (str e.path)) (.int .i64 e.kind)) : ∀ j v, (cellsI ⟨e, x, cc⟩)[j]? = some v → u.cell? ((⟨b, 0, none⟩ : Addr).add j) = some v := by
  intro j v hj
  rw [addr_add, Nat.zero_add]
  obtain ⟨h0, h1, h2, h3⟩ := h
  match j, hj with
  | 0, hj => simp [cellsI] at hj; subst hj; exact h0
  | 1, hj => simp [cellsI] at hj; subst hj; exact h1
  | 2, hj => simp [cellsI] at hj; subst hj; exact h2
  | 3, hj => simp [cellsI] at hj; subst hj; exact h3
set_option maxRecDepth 100000 in
set_option maxHeartbeats 6400000 in
theorem withItem_any (a : Option Addr) (c n : Nat) (es : List En) (e : En) (x : Option Addr) (cc : Nat) (w : World) (h : RdI w a es) (hn : n = es.length) (hl : es.length ≤ 1048575) (hs : SmallE es) (hr : Rise es) (hx : Reads .i64 w x e.chunks) :
    Calls Tryz.prog 193 #[.slice a n c, .agg #[.int .i64 e.size, .slice x e.chunks.length cc, .string (str e.path), .int .i64 e.kind]] w fun r w' => ∃ g cv, r = .returned (.slice (some ⟨g, 0, none⟩) (putAt (offE es e.path) e).length cv) ∧ RdI w' (some ⟨g, 0, none⟩) (putAt (offE es e.path) e) ∧ Below w.heap.size w w' := by
  subst hn
  obtain ⟨i1, ki, kz0, kz1, kz2⟩ := info_parts Tryz.infoIt
  have B0 := hide (below_alloc w (.cells #[.int .i64 e.size, .slice x e.chunks.length cc, .string (str e.path), .int .i64 e.kind] 93))
  have F0 := hide (Four.new w (.int .i64 e.size) (.slice x e.chunks.length cc) (.string (str e.path)) (.int .i64 e.kind) 93)
  have HR := hide (h.below B0.out)
  have HX := hide (hx.below B0.out)
  have HS := hide hs
  have hle : es.length ≤ 1048576 := by omega
  have hoff := offE_len es e.path
  have HRI := hide (off_rise hr e.path)
  have HNE := hide (show ∀ y ∈ offE es e.path, y.path ≠ e.path from fun y hy => (mem_offE.1 hy).2)
  have HPL := hide (show (putAt (offE es e.path) e).length = (offE es e.path).length + 1 from by unfold putAt; simp only [List.length_append, List.length_cons, List.length_take, List.length_drop]; omega)
  clear h hs hr hx
  go_enter Tryz.func193, Tryz.ntmps193
  go_wp2_with fail
  generalize w.alloc (.cells #[.int .i64 e.size, .slice x e.chunks.length cc, .string (str e.path), .int .i64 e.kind] 93) = W0 at *
  have KC : Hid (∀ w' : World, Below W0.heap.size W0 w' → w'.cell? ⟨w.heap.size, 0, none⟩ = some (.int .i64 e.size) ∧ w'.cell? ⟨w.heap.size, 1, none⟩ = some (.slice x e.chunks.length cc) ∧ w'.cell? ⟨w.heap.size, 2, none⟩ = some (.string (str e.path)) ∧ w'.cell? ⟨w.heap.size, 3, none⟩ = some (.int .i64 e.kind)) := hide (fun w' hb => F0.out.below hb)
  refine wp_region_held_drew (S := fun w' => w'.cell? ⟨w.heap.size, 0, none⟩ = some (.int .i64 e.size) ∧ w'.cell? ⟨w.heap.size, 1, none⟩ = some (.slice x e.chunks.length cc) ∧ w'.cell? ⟨w.heap.size, 2, none⟩ = some (.string (str e.path)) ∧ w'.cell? ⟨w.heap.size, 3, none⟩ = some (.int .i64 e.kind)) (by kernel_rfl) (KC.out _ (Below.refl _ _).drew) (fun hHeld => ?_)
  change wpAnyH _ _ _ _ _ _ (Array.replicate _ false) _ _
  refine wpAnyH_take (i := 0) (oi := { dst := some 6, op := _, type := _, pos := _, after := _, guard := _ }) (v := .slice a es.length c) rfl (by kernel_rfl) (by kernel_rfl) (by kernel_rfl) (fun _ _ _ h => h) (Or.inl ⟨by rfl, ?_⟩) hHeld ?_
  · intro w hSw
    (try obtain ⟨q0, q1, q2, q3⟩ := hSw)
    go_simp
  try simp only [Act.put, List.setIfInBounds_toArray, List.set_cons_zero, List.set_cons_succ]
  refine wpAnyH_take (i := 1) (oi := { dst := some 7, op := _, type := _, pos := _, after := _, guard := _ }) (v := .pointer (some ⟨w.heap.size, 2, none⟩)) rfl (by kernel_rfl) (by kernel_rfl) (by kernel_rfl) (fun _ _ _ h => h) (Or.inl ⟨by rfl, ?_⟩) hHeld ?_
  · intro w hSw
    (try obtain ⟨q0, q1, q2, q3⟩ := hSw)
    go_simp
  try simp only [Act.put, List.setIfInBounds_toArray, List.set_cons_zero, List.set_cons_succ]
  refine wpAnyH_take (i := 2) (oi := { dst := some 8, op := _, type := _, pos := _, after := _, guard := _ }) (v := .string (str e.path)) rfl (by kernel_rfl) (by kernel_rfl) (by kernel_rfl) (fun _ _ _ h => h) (Or.inl ⟨by rfl, ?_⟩) hHeld ?_
  · intro w hSw
    (try obtain ⟨q0, q1, q2, q3⟩ := hSw)
    go_simp
  try simp only [Act.put, List.setIfInBounds_toArray, List.set_cons_zero, List.set_cons_succ]
  refine wpAnyH_take (i := 5) (oi := { dst := some 11, op := _, type := _, pos := _, after := _, guard := _ }) (v := .agg #[.int .i64 e.size, .slice x e.chunks.length cc, .string (str e.path), .int .i64 e.kind]) rfl (by kernel_rfl) (by kernel_rfl) (by kernel_rfl) (fun _ _ _ h => h) (Or.inl ⟨by rfl, ?_⟩) hHeld ?_
  · intro w hSw
    (try obtain ⟨q0, q1, q2, q3⟩ := hSw)
    go_simp
  try simp only [Act.put, List.setIfInBounds_toArray, List.set_cons_zero, List.set_cons_succ]
  have hm1 : (offE es e.path).length + 1 ≤ maxLen := by unfold maxLen; omega
  have hm2 : ((offE es e.path).length + 1) * 56 ≤ 140737488355328 := by omega
  refine wpAnyH_ready (rs := [3, 6]) (by kernel_rfl) (by simp) ?_
  refine AllReadyH.cons rfl (fun K hK => ?_) (AllReadyH.cons rfl (fun K hK => ?_) AllReadyH.nil)
  · -- isAt first
    go_simp
    refine (isAt_any e.path _).mono ?_
    rintro r w3 ⟨rfl, hb3, hA⟩
    have HA := hide hA
    have B3 := hide (below_next ((Below.refl W0.heap.size W0).drew) hb3)
    clear hA hb3
    go_wp2_with fail
    refine hK.out _ _ (KC.out _ B3.out) (fun hHeld => ?_)
    clear hK K
    refine wpAnyH_ready (rs := [4, 6]) (by kernel_rfl) (by simp) ?_
    refine AllReadyH.cons rfl (fun K hK => ?_) (AllReadyH.cons rfl (fun K hK => ?_) AllReadyH.nil)
    · -- without, then the row
      go_simp
      refine (without_any a c es.length es _ _ _ _ (HR.out.below (B3.out)) rfl hle HS.out (HA.out.next (Below.refl _ _))).mono ?_
      rintro r w4 ⟨av4, cv4, w1, rfl, hL4, hb4, hb4'⟩
      have B1 := hide (below_next (B3.out) hb4)
      have B4 := hide (below_next B1.out hb4')
      have HL4 : Hid (LI w1 w4 (.slice av4 (offE es e.path).length cv4) (offE es e.path)) := hide hL4
      have BB4 := hide hb4'
      clear hL4 hb4 hb4'
      go_wp2_with fail
      refine hK.out _ _ (KC.out _ B4.out) (fun hHeld => ?_)
      clear hK K
      refine wpAnyH_ready (rs := [6]) (by kernel_rfl) (by simp) ?_
      refine AllReadyH.cons rfl (fun K hK => ?_) AllReadyH.nil
      have F4 := hide (Four.new w4 (.int .i64 e.size) (.slice x e.chunks.length cc) (.string (str e.path)) (.int .i64 e.kind) 93)
      have B5 := hide (below_next B4.out (below_alloc w4 (.cells #[.int .i64 e.size, .slice x e.chunks.length cc, .string (str e.path), .int .i64 e.kind] 93)))
      have BB5 := hide (below_next BB4.out (below_alloc w4 (.cells #[.int .i64 e.size, .slice x e.chunks.length cc, .string (str e.path), .int .i64 e.kind] 93)))
      go_simp
      refine hK.out _ _ (KC.out _ (B5.out)) (fun hHeld => ?_)
      clear hK K
      obtain ⟨rs, g1, g2, g3⟩ := HL4.out
      have G1 := hide g1
      have G3 := hide g3
      have G2 := hide (ownsRow_below g2 (below_alloc w4 (.cells #[.int .i64 e.size, .slice x e.chunks.length cc, .string (str e.path), .int .i64 e.kind] 93)))
      clear g1 g2 g3
      have hs4 := BB4.out.size
      refine wpAnyH_ready (rs := [7]) (by kernel_rfl) (by simp) ?_
      refine AllReadyH.cons (o := { dst := some 13, op := _, type := _, pos := _, after := _, guard := _ }) rfl (fun K hK => ?_) AllReadyH.nil
      refine step_app (by rfl) (.tmp 10) (.tmp 12) 125 (by rfl) w1.heap.size 93 i1 (.agg #[.int .i64 0, .slice none 0 0, .string ⟨#[]⟩, .int .i64 0]) 4 56 Tryz.underlying125 ki kz0 kz1 kz2 rfl (by decide) (.slice av4 (offE es e.path).length cv4) (offE es e.path).length (rowI rs) (by rfl) G2.out ⟨w4.heap.size, 0, none⟩ 1 1 (cellsI ⟨e, x, cc⟩) (by rfl) (by rfl) (news_item F4.out) (fun v hv => rowI_one [⟨e, x, cc⟩] v (by simpa [rowI] using hv)) ((offE es e.path).length + 1) rfl hm1 hm2 (by have := (BB5.out).size; omega) ?_
      intro av7 cv7 w7 hown7 hk7
      have O7 := hide hown7
      have B7 := hide ((B5.out).trans (hk7.below (B := W0.heap.size) (B5.out).size (fun q hq hS => by have h1 := (G2.out.lt q hS).1; have h2 := B1.out.size; omega)))
      have BB7 := hide (Kept.below_own (B := w1.heap.size) (BB5.out) (BB5.out).size G2.out hk7)
      clear hown7 hk7
      obtain ⟨g, rfl, hso⟩ := withItem_end w (offE es e.path) e x cc rs av7 cv7 w1 w7 G1.out G3.out (HX.out.below B1.out) BB7.out (by have h1 := B0.out.size; have h2 := B1.out.size; omega) (below_next B0.out B7.out) O7.out (by omega) HRI.out HNE.out
      have HSO := hide hso
      clear hso
      refine hK.out _ _ (KC.out _ B7.out) (fun hHeld => ?_)
      clear hK K
      simp only [Act.put, List.setIfInBounds_toArray, List.set_cons_zero, List.set_cons_succ]
      refine wpAnyH_take (i := 8) (oi := { dst := some 5, op := _, type := _, pos := _, after := _, guard := _ }) (v := .slice (some ⟨g, 0, none⟩) ((offE es e.path).length + 1) cv7) rfl (by kernel_rfl) (by kernel_rfl) (by kernel_rfl) (fun _ _ _ h => h) (Or.inl ⟨by rfl, ?_⟩) hHeld ?_
      · intro w hSw
        go_simp
      simp only [Act.put, List.setIfInBounds_toArray, List.set_cons_zero, List.set_cons_succ]
      refine wpAnyH_done (by kernel_rfl) ?_ _
      go_wp2_with fail
      refine HSO.out.mono ?_
      rintro r w8 ⟨rfl, hri, hb8⟩
      have RI := hide hri
      have B8 := hide hb8
      clear hri hb8
      go_wp2_with fail
      go_ret
      exact ⟨g, cv7, by rw [HPL.out]; rfl, RI.out, B8.out⟩
    · -- the row, then without
      have F4 := hide (Four.new w3 (.int .i64 e.size) (.slice x e.chunks.length cc) (.string (str e.path)) (.int .i64 e.kind) 93)
      have B5 := hide (below_next B3.out (below_alloc w3 (.cells #[.int .i64 e.size, .slice x e.chunks.length cc, .string (str e.path), .int .i64 e.kind] 93)))
      go_simp
      refine hK.out _ _ (KC.out _ (B5.out)) (fun hHeld => ?_)
      clear hK K
      refine wpAnyH_ready (rs := [4]) (by kernel_rfl) (by simp) ?_
      refine AllReadyH.cons rfl (fun K hK => ?_) AllReadyH.nil
      go_simp
      refine (without_any a c es.length es _ _ _ _ (HR.out.below (B5.out)) rfl hle HS.out (HA.out.next (below_alloc w3 (.cells #[.int .i64 e.size, .slice x e.chunks.length cc, .string (str e.path), .int .i64 e.kind] 93)))).mono ?_
      rintro r w4 ⟨av4, cv4, w1, rfl, hL4, hb4, hb4'⟩
      have B1 := hide (below_next (B5.out) hb4)
      have B4 := hide (below_next B1.out hb4')
      have HL4 : Hid (LI w1 w4 (.slice av4 (offE es e.path).length cv4) (offE es e.path)) := hide hL4
      have BB4 := hide hb4'
      have F5 := hide ((F4.out.below hb4).below hb4')
      clear hL4 hb4 hb4'
      go_wp2_with fail
      refine hK.out _ _ (KC.out _ B4.out) (fun hHeld => ?_)
      clear hK K
      obtain ⟨rs, g1, g2, g3⟩ := HL4.out
      have G1 := hide g1
      have G3 := hide g3
      have G2 := hide (g2)
      clear g1 g2 g3
      have hs4 := BB4.out.size
      refine wpAnyH_ready (rs := [7]) (by kernel_rfl) (by simp) ?_
      refine AllReadyH.cons (o := { dst := some 13, op := _, type := _, pos := _, after := _, guard := _ }) rfl (fun K hK => ?_) AllReadyH.nil
      refine step_app (by rfl) (.tmp 10) (.tmp 12) 125 (by rfl) w1.heap.size 93 i1 (.agg #[.int .i64 0, .slice none 0 0, .string ⟨#[]⟩, .int .i64 0]) 4 56 Tryz.underlying125 ki kz0 kz1 kz2 rfl (by decide) (.slice av4 (offE es e.path).length cv4) (offE es e.path).length (rowI rs) (by rfl) G2.out ⟨w3.heap.size, 0, none⟩ 1 1 (cellsI ⟨e, x, cc⟩) (by rfl) (by rfl) (news_item F5.out) (fun v hv => rowI_one [⟨e, x, cc⟩] v (by simpa [rowI] using hv)) ((offE es e.path).length + 1) rfl hm1 hm2 (by have := (BB4.out).size; omega) ?_
      intro av7 cv7 w7 hown7 hk7
      have O7 := hide hown7
      have B7 := hide ((B4.out).trans (hk7.below (B := W0.heap.size) (B4.out).size (fun q hq hS => by have h1 := (G2.out.lt q hS).1; have h2 := B1.out.size; omega)))
      have BB7 := hide (Kept.below_own (B := w1.heap.size) (BB4.out) (BB4.out).size G2.out hk7)
      clear hown7 hk7
      obtain ⟨g, rfl, hso⟩ := withItem_end w (offE es e.path) e x cc rs av7 cv7 w1 w7 G1.out G3.out (HX.out.below B1.out) BB7.out (by have h1 := B0.out.size; have h2 := B1.out.size; omega) (below_next B0.out B7.out) O7.out (by omega) HRI.out HNE.out
      have HSO := hide hso
      clear hso
      refine hK.out _ _ (KC.out _ B7.out) (fun hHeld => ?_)
      clear hK K
      simp only [Act.put, List.setIfInBounds_toArray, List.set_cons_zero, List.set_cons_succ]
      refine wpAnyH_take (i := 8) (oi := { dst := some 5, op := _, type := _, pos := _, after := _, guard := _ }) (v := .slice (some ⟨g, 0, none⟩) ((offE es e.path).length + 1) cv7) rfl (by kernel_rfl) (by kernel_rfl) (by kernel_rfl) (fun _ _ _ h => h) (Or.inl ⟨by rfl, ?_⟩) hHeld ?_
      · intro w hSw
        go_simp
      simp only [Act.put, List.setIfInBounds_toArray, List.set_cons_zero, List.set_cons_succ]
      refine wpAnyH_done (by kernel_rfl) ?_ _
      go_wp2_with fail
      refine HSO.out.mono ?_
      rintro r w8 ⟨rfl, hri, hb8⟩
      have RI := hide hri
      have B8 := hide hb8
      clear hri hb8
      go_wp2_with fail
      go_ret
      exact ⟨g, cv7, by rw [HPL.out]; rfl, RI.out, B8.out⟩
  · -- the row first
    have F4 := hide ((Four.new W0 (.int .i64 e.size) (.slice x e.chunks.length cc) (.string (str e.path)) (.int .i64 e.kind) 93).below (Below.refl _ _).drew)
    have B5 := hide ((below_alloc W0 (.cells #[.int .i64 e.size, .slice x e.chunks.length cc, .string (str e.path), .int .i64 e.kind] 93)).drew)
    go_simp
    refine hK.out _ _ (KC.out _ (B5.out)) (fun hHeld => ?_)
    clear hK K
    generalize (W0.alloc (.cells #[.int .i64 e.size, .slice x e.chunks.length cc, .string (str e.path), .int .i64 e.kind] 93)).drew = V at *
    refine wpAnyH_ready (rs := [3]) (by kernel_rfl) (by simp) ?_
    refine AllReadyH.cons rfl (fun K hK => ?_) AllReadyH.nil
    go_simp
    refine (isAt_any e.path _).mono ?_
    rintro r w3 ⟨rfl, hb3, hA⟩
    have HA := hide hA
    have B3 := hide (below_next (B5.out) hb3)
    have F3 := hide (F4.out.below hb3)
    clear hA hb3
    go_wp2_with fail
    refine hK.out _ _ (KC.out _ B3.out) (fun hHeld => ?_)
    clear hK K
    refine wpAnyH_ready (rs := [4]) (by kernel_rfl) (by simp) ?_
    refine AllReadyH.cons rfl (fun K hK => ?_) AllReadyH.nil
    go_simp
    refine (without_any a c es.length es _ _ _ _ (HR.out.below (B3.out)) rfl hle HS.out (HA.out.next (Below.refl _ _))).mono ?_
    rintro r w4 ⟨av4, cv4, w1, rfl, hL4, hb4, hb4'⟩
    have B1 := hide (below_next (B3.out) hb4)
    have B4 := hide (below_next B1.out hb4')
    have HL4 : Hid (LI w1 w4 (.slice av4 (offE es e.path).length cv4) (offE es e.path)) := hide hL4
    have BB4 := hide hb4'
    have F5 := hide ((F3.out.below hb4).below hb4')
    clear hL4 hb4 hb4'
    go_wp2_with fail
    refine hK.out _ _ (KC.out _ B4.out) (fun hHeld => ?_)
    clear hK K
    obtain ⟨rs, g1, g2, g3⟩ := HL4.out
    have G1 := hide g1
    have G3 := hide g3
    have G2 := hide (g2)
    clear g1 g2 g3
    have hs4 := BB4.out.size
    refine wpAnyH_ready (rs := [7]) (by kernel_rfl) (by simp) ?_
    refine AllReadyH.cons (o := { dst := some 13, op := _, type := _, pos := _, after := _, guard := _ }) rfl (fun K hK => ?_) AllReadyH.nil
    refine step_app (by rfl) (.tmp 10) (.tmp 12) 125 (by rfl) w1.heap.size 93 i1 (.agg #[.int .i64 0, .slice none 0 0, .string ⟨#[]⟩, .int .i64 0]) 4 56 Tryz.underlying125 ki kz0 kz1 kz2 rfl (by decide) (.slice av4 (offE es e.path).length cv4) (offE es e.path).length (rowI rs) (by rfl) G2.out ⟨W0.heap.size, 0, none⟩ 1 1 (cellsI ⟨e, x, cc⟩) (by rfl) (by rfl) (news_item F5.out) (fun v hv => rowI_one [⟨e, x, cc⟩] v (by simpa [rowI] using hv)) ((offE es e.path).length + 1) rfl hm1 hm2 (by have := (BB4.out).size; omega) ?_
    intro av7 cv7 w7 hown7 hk7
    have O7 := hide hown7
    have B7 := hide ((B4.out).trans (hk7.below (B := W0.heap.size) (B4.out).size (fun q hq hS => by have h1 := (G2.out.lt q hS).1; have h2 := B1.out.size; omega)))
    have BB7 := hide (Kept.below_own (B := w1.heap.size) (BB4.out) (BB4.out).size G2.out hk7)
    clear hown7 hk7
    obtain ⟨g, rfl, hso⟩ := withItem_end w (offE es e.path) e x cc rs av7 cv7 w1 w7 G1.out G3.out (HX.out.below B1.out) BB7.out (by have h1 := B0.out.size; have h2 := B1.out.size; omega) (below_next B0.out B7.out) O7.out (by omega) HRI.out HNE.out
    have HSO := hide hso
    clear hso
    refine hK.out _ _ (KC.out _ B7.out) (fun hHeld => ?_)
    clear hK K
    simp only [Act.put, List.setIfInBounds_toArray, List.set_cons_zero, List.set_cons_succ]
    refine wpAnyH_take (i := 8) (oi := { dst := some 5, op := _, type := _, pos := _, after := _, guard := _ }) (v := .slice (some ⟨g, 0, none⟩) ((offE es e.path).length + 1) cv7) rfl (by kernel_rfl) (by kernel_rfl) (by kernel_rfl) (fun _ _ _ h => h) (Or.inl ⟨by rfl, ?_⟩) hHeld ?_
    · intro w hSw
      go_simp
    simp only [Act.put, List.setIfInBounds_toArray, List.set_cons_zero, List.set_cons_succ]
    refine wpAnyH_done (by kernel_rfl) ?_ _
    go_wp2_with fail
    refine HSO.out.mono ?_
    rintro r w8 ⟨rfl, hri, hb8⟩
    have RI := hide hri
    have B8 := hide hb8
    clear hri hb8
    go_wp2_with fail
    go_ret
    exact ⟨g, cv7, by rw [HPL.out]; rfl, RI.out, B8.out⟩
end Go.Proofs.YteegkblkfdnfiaaGreat

