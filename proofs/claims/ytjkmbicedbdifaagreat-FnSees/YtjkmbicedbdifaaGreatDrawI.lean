/-
  The model's draws of a layer that may be bent, of a path with it, of an entry to be put.
-/
import Derived.Test.YtjkmbicedbdifaaGreatDrawJ
import Derived.Test.YtjkmbicedbdifaaGreatDrawH
import Derived.Test.YtjkmbicedbdifaaGreatJ2
import Derived.Test.YtjkmbicedbdifaaGreatEntT
namespace Go.Proofs.YtjkmbicedbdifaaGreat
open Go.RowKit Go.Maps
set_option linter.unusedVariables false
attribute [local go_sem ↓] Go.wp_at_zero Go.wp_at_succ

/-- One entry more, whose chunks lie from T on, where all of the list's lie below T. -/
theorem GE.push2 {B T : Nat} {w1 w2 : World} {v v' : Value} {es : List En} {rs : List Rw} {e : En} {a : Option Addr} {c : Nat} (he : rs.map Rw.e = es)
    (h1 : w1.ownsRow B 40 4 v es.length (rowR rs))
    (h2 : ∀ r ∈ rs, w1.ownsRow B 2 1 (.slice r.a r.e.chunks.length r.c) r.e.chunks.length (r.e.chunks.map (Value.int .i64)))
    (h3 : rs.Pairwise (fun r r' => ∀ g, r.a.map Addr.block = some g → r'.a.map Addr.block ≠ some g)) (h4 : ∀ r ∈ rs, ∀ g, r.a.map Addr.block = some g → g < T) (hB : B ≤ T) (hT : T ≤ w1.heap.size)
    (hown : w1.ownsRow T 2 1 (.slice a e.chunks.length c) e.chunks.length (e.chunks.map (Value.int .i64)))
    (hv' : w2.ownsRow B 40 4 v' (es.length + 1) (rowR rs ++ cellsR ⟨e, a, c⟩))
    (hk : Kept (fun b => v.ownBlock = some b) w1 w2) : GE B w2.heap.size w2 v' (es ++ [e]) := by
  have hg0 : ∀ g', a.map Addr.block = some g' → T ≤ g' ∧ g' < w1.heap.size := fun g' hg => hown.lt g' (block_own hg)
  have hsz := hk.size
  refine ⟨rs ++ [⟨e, a, c⟩], by rw [List.map_append, he]; rfl, ?_, ?_, ?_, ?_, fun b hb => (hv'.lt b hb).2⟩
  · rw [rowR_append, List.length_append]
    simpa [rowR] using hv'
  · intro r hr
    rcases List.mem_append.1 hr with hr | hr
    · exact ownsRow_kept (h2 r hr) hk (fun b hb hS => ownsRow_apart h1 (h2 r hr) (by decide) hS hb)
    · simp only [List.mem_singleton] at hr
      subst hr
      exact ownsRow_kept (ownsRow_mono hown hB) hk (fun b hb hS => ownsRow_apart h1 hown (by decide) hS hb)
  · rw [List.pairwise_append]
    refine ⟨h3, List.pairwise_singleton _ _, fun r hr r' hr' g hg hg' => ?_⟩
    simp only [List.mem_singleton] at hr'
    subst hr'
    have := h4 r hr g hg
    have := hg0 g hg'
    omega
  · intro r hr g hg
    rcases List.mem_append.1 hr with hr | hr
    · have := h4 r hr g hg
      omega
    · simp only [List.mem_singleton] at hr
      subst hr
      have := hg0 g hg
      omega
/-- An entry is stored whole into place j, its chunks from T on. -/
theorem GE.store2 {B T : Nat} {w1 : World} {G n c : Nat} {es : List En} {j : Nat} {e : En} {a : Option Addr} {cc : Nat} (h : GE B T w1 (.slice (some ⟨G, 0, none⟩) n c) es) (hn : n = es.length) (hj : j < es.length) (hB : B ≤ T) (hT : T ≤ w1.heap.size)
    (hown : w1.ownsRow T 2 1 (.slice a e.chunks.length cc) e.chunks.length (e.chunks.map (Value.int .i64))) :
    GE B w1.heap.size ((((w1.setCell ⟨G, j * 4, none⟩ (.string (str e.path))).setCell ⟨G, j * 4 + 1, none⟩ (.int .i64 e.kind)).setCell ⟨G, j * 4 + 2, none⟩ (.int .i64 e.size)).setCell ⟨G, j * 4 + 3, none⟩ (.slice a e.chunks.length cc)) (.slice (some ⟨G, 0, none⟩) n c) (es.set j e) := by
  subst hn
  obtain ⟨rs, hrs, h1, h2, h3, h4, h5⟩ := h
  have hl : rs.length = es.length := by rw [← hrs, List.length_map]
  have s1 := ((((h1.stored (j * 4) (.string (str e.path))).1.stored (j * 4 + 1) (.int .i64 e.kind)).1.stored (j * 4 + 2) (.int .i64 e.size)).1.stored (j * 4 + 3) (.slice a e.chunks.length cc)).1
  rw [rowR_set4 rs j ⟨e, a, cc⟩ (by omega)] at s1
  have hkp : Kept (fun b => b = G) w1 ((((w1.setCell ⟨G, j * 4, none⟩ (.string (str e.path))).setCell ⟨G, j * 4 + 1, none⟩ (.int .i64 e.kind)).setCell ⟨G, j * 4 + 2, none⟩ (.int .i64 e.size)).setCell ⟨G, j * 4 + 3, none⟩ (.slice a e.chunks.length cc)) :=
    Kept.setCell (S := fun b => b = G) (p := ⟨G, j * 4 + 3, none⟩) (Kept.setCell (S := fun b => b = G) (p := ⟨G, j * 4 + 2, none⟩) (Kept.two _ _ _ _ _ _) (fun _ => rfl) _) (fun _ => rfl) _
  have hnew : ∀ g, a.map Addr.block = some g → T ≤ g ∧ g < w1.heap.size := fun g hg => hown.lt g (block_own hg)
  refine ⟨rs.set j ⟨e, a, cc⟩, by rw [List.map_set, hrs], by rw [List.length_set]; exact s1, ?_, ?_, ?_, fun b hb => by have := h5 b hb; omega⟩
  · intro r0 hr0
    rcases List.mem_or_eq_of_mem_set hr0 with hr | rfl
    · exact ownsRow_kept (h2 r0 hr) hkp (fun b hb hS => ownsRow_apart h1 (h2 r0 hr) (by decide) (by subst hS; rfl) hb)
    · exact ownsRow_kept (ownsRow_mono hown hB) hkp (fun b hb hS => ownsRow_apart h1 hown (by decide) (by subst hS; rfl) hb)
  · rw [List.pairwise_iff_getElem]
    intro i i' hi hi' hlt g hg hg'
    rw [List.length_set] at hi hi'
    rw [List.getElem_set] at hg hg'
    by_cases e1 : j = i
    · rw [if_pos e1] at hg
      rw [if_neg (by omega)] at hg'
      have := h4 _ (List.getElem_mem hi') g hg'
      have := hnew g hg
      omega
    · rw [if_neg e1] at hg
      by_cases e2 : j = i'
      · rw [if_pos e2] at hg'
        have := h4 _ (List.getElem_mem hi) g hg
        have := hnew g hg'
        omega
      · rw [if_neg e2] at hg'
        exact List.pairwise_iff_getElem.1 h3 i i' hi hi' hlt g hg hg'
  · intro r0 hr0 g hg
    rcases List.mem_or_eq_of_mem_set hr0 with hr | rfl
    · have := h4 r0 hr g hg; omega
    · exact (hnew g hg).2
/-- A drawn layer. -/
def LayD (w : World) (p : Nat) (zs : List Int) (T : Int) (es : List En) (v : Value) (w' : World) : Prop :=
  GoodH es ∧ es.length ≤ 13 ∧ SmallE es ∧ GE w.heap.size w'.heap.size w' v es ∧ SrcX w' p zs T ∧ Kept (fun b => b = p) w w'

set_option maxRecDepth 100000 in
set_option maxHeartbeats 6400000 in
theorem bentLay_e (p : Nat) (zs : List Int) (T : Int) (w : World) (h : SrcX w p zs T) (hu : U8 zs) (hT : T ≤ 100000) (hl : zs.length ≤ 2097152) :
    Calls Tryz.prog 59 #[.pointer (some ⟨p, 0, none⟩)] w fun r w' => ∃ (es : List En) (av : Option Addr) (cv : Nat), r = .returned (.slice av es.length cv) ∧ LayD w p zs (T + 1100) es (.slice av es.length cv) w' := by
  obtain ⟨i1, ki, kz0, kz1, kz2⟩ := info_parts Tryz.infoEn
  have hp := h.lt
  have HS := hide h
  have HU := hide hu
  clear h hu
  go_enter Tryz.func59, Tryz.ntmps59
  go_wp2_with fail
  refine (right_e p zs T _ HS.out HU.out (by omega) hl).mono ?_
  rintro r w1 ⟨es, lv, lc, rfl, hR, hG1, s1, k1⟩
  have HRi := hide hR
  have G1 := hide hG1
  have S1 := hide s1
  have K1 := hide k1
  clear hR hG1 s1 k1 HS
  go_wp2_with fail
  refine (next_e p zs _ 16 _ S1.out HU.out (by omega) (by decide) (by decide) hl).mono ?_
  rintro r w2 ⟨i, rfl, hi, s2, k2⟩
  have S2 := hide s2
  have K2 := hide (K1.out.trans k2)
  have G2 := hide (G1.out.keptP k2 hp)
  have hl12 := HRi.out.len
  have hsz2 := K2.out.size
  clear s2 k2 G1 S1 K1
  by_cases h0 : i = 0
  · subst h0
    go_wp2_with fail
    refine (bentEntry_e p zs _ _ S2.out HU.out (by omega) hl).mono ?_
    rintro r w3 ⟨e, a, c, rfl, ⟨hel, hec⟩, ho3, s3, k3⟩
    have G3 := hide (G2.out.kept k3 (fun b h1 _ e => by omega))
    have S3 := hide s3
    have K3 := hide (K2.out.trans k3)
    have O3 := hide ho3
    have hs3 := k3.size
    clear ho3 s3 k3
    obtain ⟨rs, g1, g2, g3, g4, g5, g6⟩ := G3.out
    have Q1 := hide g1
    have Q2 := hide g2
    have Q3 := hide g3
    have Q4 := hide g4
    have Q5 := hide g5
    clear g1 g2 g3 g4 g5 g6
    have hm1 : es.length + 1 ≤ maxLen := by unfold maxLen; omega
    have hm1' : (es.length + 1) * 56 ≤ 140737488355328 := by omega
    go_wp2_with (at_builtin; refine wpList_append_put rfl (.tmp 10) (.tmp 13) 30 rfl w.heap.size 40 i1 (.agg #[.string ⟨#[]⟩, .int .i64 0, .int .i64 0, .slice none 0 0]) 4 56 Tryz.underlying30 ki kz0 kz1 kz2 rfl (by decide) _ _ _ rfl Q2.out _ rfl rfl rfl (by intro u hu; simp at hu; rcases hu with rfl | rfl | rfl | rfl <;> rfl) hm1 hm1' (by omega) ?_; intro av4 cv4 w4 hown4 hk4; have O4 := hide hown4; have K4 := hide hk4; clear hown4 hk4)
    go_ret
    refine ⟨es ++ [e], av4, cv4, by rw [List.length_append]; rfl, goodH_snoc HRi.out.rise HRi.out.home, by rw [List.length_append]; simp; omega, fun y hy => ?_, ?_, ?_, ?_⟩
    · rcases List.mem_append.1 hy with hy | hy
      · exact right_small HRi.out y hy
      · simp only [List.mem_singleton] at hy; subst hy; omega
    · rw [List.length_append]
      exact GE.push2 Q1.out Q2.out Q3.out Q4.out Q5.out (by omega) (by omega) O3.out O4.out K4.out
    · exact (S3.out.kept K4.out (fun b hb e => by have := (Q2.out.lt b e).1; omega)).mono (by omega)
    · exact K3.out.trans_own K4.out (fun b hb e => by have := (Q2.out.lt b e).1; omega)
  · by_cases h1 : i = 1
    · subst h1
      by_cases hpos : 0 < es.length
      · have hpos' : (0 : Int) < (es.length : Int) := by omega
        obtain ⟨g, rfl, -⟩ := G2.out.addr rfl (.inl hpos)
        go_wp2_with fail
        refine (bentEntry_e p zs _ _ S2.out HU.out (by omega) hl).mono ?_
        rintro r w3 ⟨e, a, c, rfl, ⟨hel, hec⟩, ho3, s3, k3⟩
        have G3 := hide (G2.out.kept k3 (fun b h1 _ e => by omega))
        have S3 := hide s3
        have K3 := hide (K2.out.trans k3)
        have O3 := hide ho3
        have hs3 := k3.size
        clear ho3 s3 k3
        have he0 : es[0]? = some es[0] := List.getElem?_eq_getElem hpos
        obtain ⟨G, x', y', hGe, hg1, hg2, m0, m1, m2, m3, mf, -⟩ := G3.out.open he0
        simp only [Option.some.injEq, Addr.mk.injEq, and_true] at hGe
        subst hGe
        have mf0 := mf 0
        have mf1 := mf 1
        have mf2 := mf 2
        have mf3 := mf 3
        simp only [Nat.zero_mul, Nat.zero_add] at m0 m1 m2 m3
        generalize es[0] = z0 at *
        clear mf he0
        have HST := hide (GE.store2 (j := 0) G3.out rfl hpos (by omega) (by omega) O3.out)
        simp only [Nat.zero_mul, Nat.zero_add] at HST
        go_wp2_with fail
        go_ret
        have hk : Kept (fun b => b = g) w3 ((((w3.setCell ⟨g, 0, none⟩ (.string (str e.path))).setCell ⟨g, 1, none⟩ (.int .i64 e.kind)).setCell ⟨g, 2, none⟩ (.int .i64 e.size)).setCell ⟨g, 3, none⟩ (.slice a e.chunks.length c)) :=
          Kept.setCell (S := fun b => b = g) (p := ⟨g, 3, none⟩) (Kept.setCell (S := fun b => b = g) (p := ⟨g, 2, none⟩) (Kept.two _ _ _ _ _ _) (fun _ => rfl) _) (fun _ => rfl) _
        have hgood : GoodH (es.set 0 e) := by
          cases hes : es with
          | nil => rw [hes] at hpos; simp at hpos
          | cons r0 tl =>
            have := HRi.out
            rw [hes] at this
            exact goodH_set this
        refine ⟨es.set 0 e, some ⟨g, 0, none⟩, lc, by rw [List.length_set]; rfl, hgood, by rw [List.length_set]; omega, fun y hy => ?_, ?_, ?_, ?_⟩
        · rcases List.mem_or_eq_of_mem_set hy with hy | rfl
          · exact right_small HRi.out y hy
          · omega
        · rw [List.length_set]
          simpa [World.setCell] using HST.out
        · exact (S3.out.kept hk (fun b hb e => by omega)).mono (by omega)
        · exact K3.out.trans_own hk (fun b hb e => by omega)
      · have hpos' : ¬ (0 : Int) < (es.length : Int) := by omega
        go_wp2_with fail
        go_ret
        exact ⟨es, lv, lc, rfl, goodH_rise HRi.out.rise, by omega, right_small HRi.out, G2.out, S2.out.mono (by omega), K2.out⟩
    · by_cases h2 : i = 2
      · subst h2
        have hby : i1.bytes * 13 ≤ 281474976710656 := by rw [kz2]; omega
        have hml : 13 ≤ maxLen := by unfold maxLen; omega
        go_wp2_with (at_make; refine wpList_make_full _ rfl (.const (.int .i64 13)) (.const (.int .i64 13)) 30 rfl w2.heap.size 40 i1 (.agg #[.string ⟨#[]⟩, .int .i64 0, .int .i64 0, .slice none 0 0]) 4 Tryz.underlying30 ki kz0 kz1 .i64 .i64 _ _ 13 rfl rfl rfl rfl hby hml (Nat.le_refl _) ?_; intro w3 ho3 hg3; have O3 := hide ho3; have GW := hide hg3; clear ho3 hg3)
        have B3 : Hid (Below w2.heap.size w2 w3) := (Below.refl _ _).grown GW.out (Nat.le_refl _) (fun k hk => by simp at hk)
        have G3 := hide (GE.mono (B' := w.heap.size) (GE.zeros (T := w3.heap.size) O3.out (fun b hb => (O3.out.lt b hb).2)) (by omega))
        have hlr : (List.replicate 13 zEn).length = 13 := by simp
        go_wp2_with fail
        go_ret
        refine ⟨List.replicate 13 zEn, some ⟨w2.heap.size, 0, none⟩, 13, by rw [hlr]; rfl, goodH_first (e := zEn) (tl := List.replicate 12 zEn) (by decide), by rw [hlr]; decide, fun y hy => ?_, by rw [hlr]; exact G3.out, (S2.out.below B3.out).mono (by omega), K2.out.trans (Kept.of_below B3.out)⟩
        rw [(List.mem_replicate.1 hy).2]
        simp [zEn]
      · have e0 : ((i : Int) == 0) = false := by simp; omega
        have e1 : ((i : Int) == 1) = false := by simp; omega
        have e2 : ((i : Int) == 2) = false := by simp; omega
        clear h0 h1 h2
        go_wp2_with fail
        go_ret
        exact ⟨es, lv, lc, rfl, goodH_rise HRi.out.rise, by omega, right_small HRi.out, G2.out, S2.out.mono (by omega), K2.out⟩


theorem row_one' (w : World) (z : Int) : (w.alloc (.cells #[.int .u8 z] 5)).ownsRow w.heap.size 5 1 (.slice (some ⟨w.heap.size, 0, none⟩) 1 1) 1 ([z].map (Value.int .u8)) :=
  ⟨rfl, .inr ⟨w.heap.size, 1, #[.int .u8 z], rfl, Nat.le_refl _, heap_alloc_new w _, Nat.le_refl _, by decide, rfl, rfl⟩⟩

end Go.Proofs.YtjkmbicedbdifaaGreat
