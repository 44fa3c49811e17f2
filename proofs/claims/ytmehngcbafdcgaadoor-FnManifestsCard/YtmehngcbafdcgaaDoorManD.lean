/-
  The model's draws of manifests.
-/
import Derived.Test.YtmehngcbafdcgaaDoorDrawS
import Derived.Test.YtmehngcbafdcgaaDoorRdN
import Derived.Test.YtmehngcbafdcgaaDoorManM
import Derived.Test.YtmehngcbafdcgaaDoorDigest
namespace Go.Proofs.YtmehngcbafdcgaaDoor
open Go.RowKit Go.Maps
set_option linter.unusedVariables false

theorem ownInts_readsD {w : World} {B : Nat} {e : TypeId} {k : IntKind} {a : Option Addr} {n c : Nat} {zs : List Int} (h : w.ownsRow B e 1 (.slice a n c) n (zs.map (Value.int k))) (hn : n = zs.length) : Reads k w a zs := by
  intro hz
  have h0 : 0 < n := by rw [hn]; exact List.length_pos_iff.2 hz
  obtain ⟨g, cap, hv, hg, hgl, hc, hf⟩ := ownsRow_ints h hn h0
  simp only [Value.slice.injEq, true_and] at hv
  exact ⟨g, 0, hv.1, hgl, fun i hi => by rw [Nat.zero_add]; exact hc i (by omega)⟩
/-- The state of the loop that draws digests. -/
structure AtD (w wr : World) (p b3 : Nat) (zs : List Int) (T : Int) (x : Bs) (done : List Int) (av : Option Addr) (cv : Nat) : Prop where
  m : Box wr b3 (.string (str x)) (.slice av done.length cv)
  r : Box wr w.heap.size (.string ⟨#[]⟩) (.slice none 0 0)
  own : wr.ownsRow (b3 + 1) 2 1 (.slice av done.length cv) done.length (done.map (Value.int .i64))
  src : SrcX wr p zs T
  kept : Kept (fun b => b = p) w wr
  sz : b3 < wr.heap.size
theorem AtD.keptP {w wr w' : World} {p b3 : Nat} {zs : List Int} {T T' : Int} {x : Bs} {done : List Int} {av : Option Addr} {cv : Nat} (h : AtD w wr p b3 zs T x done av cv) (hp : p < w.heap.size) (hb : w.heap.size < b3) (hk : Kept (fun b => b = p) wr w') (hs : SrcX w' p zs T') : AtD w w' p b3 zs T' x done av cv :=
  ⟨h.m.kept hk (by omega), h.r.kept hk (by omega), ownsRow_kept h.own hk (fun b hq e => by have := (h.own.lt b hq).1; omega), hs, h.kept.trans hk, Nat.lt_of_lt_of_le h.sz hk.size⟩
theorem AtD.below {w wr w' : World} {p b3 : Nat} {zs : List Int} {T : Int} {x : Bs} {done : List Int} {av : Option Addr} {cv : Nat} (h : AtD w wr p b3 zs T x done av cv) (hk : Below wr.heap.size wr w') : AtD w w' p b3 zs T x done av cv :=
  ⟨h.m.below hk, h.r.below hk, ownsRow_below h.own hk, h.src.below hk, h.kept.trans (Kept.of_below hk), Nat.lt_of_lt_of_le h.sz hk.size⟩
/-- One more digest: the row is appended to, and the cell is written. -/
theorem AtD.push {w wr w1 w2 : World} {p b3 : Nat} {zs : List Int} {T : Int} {x : Bs} {done : List Int} {av av' : Option Addr} {cv cv' : Nat} {d : Int} (h : AtD w wr p b3 zs T x done av cv) (hp : p < w.heap.size) (hb : w.heap.size < b3) (hk : Below wr.heap.size wr w1)
    (ho : w2.ownsRow (b3 + 1) 2 1 (.slice av' (done.length + 1) cv') (done.length + 1) (done.map (Value.int .i64) ++ [.int .i64 d])) (hk2 : Kept (fun b => (Value.slice av done.length cv).ownBlock = some b) w1 w2) :
    AtD w (w2.setCell ⟨b3, 1, none⟩ (.slice av' (done.length + 1) cv')) p b3 zs T x (done ++ [d]) av' cv' := by
  have h1 := h.below hk
  have hO : ∀ b, (Value.slice av done.length cv).ownBlock = some b → b3 + 1 ≤ b := fun b hq => (h1.own.lt b hq).1
  have KS : Kept (fun b => b = b3) w2 (w2.setCell ⟨b3, 1, none⟩ (.slice av' (done.length + 1) cv')) := Kept.setCell (S := fun b => b = b3) (p := ⟨b3, 1, none⟩) (Kept.refl _ _) (fun _ => rfl) _
  have hdl : (done ++ [d]).length = done.length + 1 := by simp
  refine ⟨by rw [hdl]; exact boxSnd (h1.m.kept hk2 (fun hq => by have := hO _ hq; omega)) _, (h1.r.kept hk2 (fun hq => by have := hO _ hq; omega)).kept KS (by omega), ?_, (h1.src.kept hk2 (fun b hb2 hq => by have := hO _ hq; omega)).kept KS (fun b hb2 e => by omega), (h1.kept.trans_own hk2 (fun b hb2 hq => by have := hO _ hq; omega)).trans_own KS (fun b hb2 e => by omega), ?_⟩
  · rw [hdl, List.map_append]
    exact ownsRow_kept ho KS (fun b hq e => by have := (ho.lt b hq).1; omega)
  · exact Nat.lt_of_lt_of_le h1.sz (Nat.le_trans hk2.size KS.size)

theorem boxFst {w : World} {B : Nat} {u v : Value} (h : Box w B u v) (u' : Value) : Box (w.setCell ⟨B, 0, none⟩ u') B u' v := by
  obtain ⟨⟨m0, m1⟩, m2, m3⟩ := h
  refine ⟨⟨?_, ?_⟩, ?_, ?_⟩
  · exact cell_set_same m0
  · rw [cell_set_other (by simp)]; exact m1
  · rw [World.frozen?_setCell]; exact m2
  · rw [World.frozen?_setCell]; exact m3
/-- Another name. -/
theorem AtD.name {w wr : World} {p b3 : Nat} {zs : List Int} {T : Int} {x : Bs} {done : List Int} {av : Option Addr} {cv : Nat} (h : AtD w wr p b3 zs T x done av cv) (hp : p < w.heap.size) (hb : w.heap.size < b3) (y : Bs) : AtD w (wr.setCell ⟨b3, 0, none⟩ (.string (str y))) p b3 zs T y done av cv := by
  have KS : Kept (fun b => b = b3) wr (wr.setCell ⟨b3, 0, none⟩ (.string (str y))) := Kept.setCell (S := fun b => b = b3) (p := ⟨b3, 0, none⟩) (Kept.refl _ _) (fun _ => rfl) _
  exact ⟨boxFst h.m _, h.r.kept KS (by omega), ownsRow_kept h.own KS (fun b hq e => by have := (h.own.lt b hq).1; omega), h.src.kept KS (fun b hb2 e => by omega), h.kept.trans_own KS (fun b hb2 e => by omega), Nat.lt_of_lt_of_le h.sz KS.size⟩
/-- What is handed back. -/
theorem AtD.ret {w wr : World} {p b3 : Nat} {zs : List Int} {T T' : Int} {x : Bs} {done : List Int} {av : Option Addr} {cv : Nat} (h : AtD w wr p b3 zs T x done av cv) (hp : p < w.heap.size) (hb : w.heap.size < b3) (hT : T ≤ T') (u v : Value) :
    ((wr.setCell ⟨w.heap.size, 0, none⟩ u).setCell ⟨w.heap.size, 1, none⟩ v).ownsRow w.heap.size 2 1 (.slice av done.length cv) done.length (done.map (Value.int .i64)) ∧ SrcX ((wr.setCell ⟨w.heap.size, 0, none⟩ u).setCell ⟨w.heap.size, 1, none⟩ v) p zs T' ∧ Kept (fun b => b = p) w ((wr.setCell ⟨w.heap.size, 0, none⟩ u).setCell ⟨w.heap.size, 1, none⟩ v) := by
  have KS := Kept.two wr w.heap.size 0 1 u v
  exact ⟨ownsRow_mono (ownsRow_kept h.own KS (fun b hq e => by have := (h.own.lt b hq).1; omega)) (by omega), (h.src.kept KS (fun b hb2 e => by omega)).mono hT, h.kept.trans_own KS (fun b hb2 e => by omega)⟩

set_option maxRecDepth 100000 in
set_option maxHeartbeats 4000000 in
theorem l5Draw_e (p : Nat) (zs : List Int) (T : Int) (w : World) (h : SrcX w p zs T) (hu : U8 zs) (hT0 : 0 ≤ T) (hT : T ≤ 900000) (hl : zs.length ≤ 2097152) :
    Calls Tryd.prog 13 #[.pointer (some ⟨p, 0, none⟩)] w fun e w' => ∃ (n : Bs) (ds : List Int) (av : Option Addr) (cv : Nat), e = .returned (.agg #[.string (str n), .slice av ds.length cv]) ∧ n.length ≤ 5 ∧ ds.length ≤ 5 ∧ w'.ownsRow w.heap.size 2 1 (.slice av ds.length cv) ds.length (ds.map (Value.int .i64)) ∧ SrcX w' p zs (T + 20) ∧ Kept (fun b => b = p) w w' := by
  obtain ⟨i0, hi0, hz0, hz1, hz2⟩ := info_parts Tryd.infoI64
  have hp := h.lt
  have X0 := hide (Box.new w (.string ⟨#[]⟩) (.slice none 0 0) 27)
  have S0 := hide (h.below (below_alloc w (.cells #[.string ⟨#[]⟩, .slice none 0 0] 27)))
  have K0 := hide ((Kept.refl (fun b => b = p) w).alloc (.cells #[.string ⟨#[]⟩, .slice none 0 0] 27))
  have HU := hide hu
  clear h hu
  go_enter Tryd.func13, Tryd.ntmps13
  go_wp2_with fail
  refine (name_e p zs T _ S0.out HU.out (by omega) hl).mono ?_
  rintro e w1 ⟨x, rfl, ⟨-, hx2⟩, s1, k1⟩
  have hs1 : w.heap.size < w1.heap.size := by have := k1.size; simp at this; omega
  have A1 := hide (below_alloc w1 (.cells #[.string (str x), .slice none 0 0] 27))
  have M1 := hide (Box.new w1 (.string (str x)) (.slice none 0 0) 27)
  have X1 := hide ((X0.out.kept k1 (by omega)).below A1.out)
  have S1 := hide (s1.below A1.out)
  have K1 := hide ((K0.out.trans k1).alloc (.cells #[.string (str x), .slice none 0 0] 27))
  have hsz1 : (w1.alloc (.cells #[.string (str x), .slice none 0 0] 27)).heap.size = w1.heap.size + 1 := by simp
  clear s1 k1 X0 S0 K0 A1
  have L1 := hide (show AtD w (w1.alloc (.cells #[.string (str x), .slice none 0 0] 27)) p w1.heap.size zs (T + 1) x [] none 0 from ⟨M1.out, X1.out, World.ownsRow_nil _ _ _ _, S1.out, K1.out, by rw [hsz1]; omega⟩)
  clear M1 X1 S1 K1
  go_wp2_with fail
  generalize w1.alloc (.cells #[.string (str x), .slice none 0 0] 27) = W1 at *
  generalize w1.heap.size = b3 at *
  have L2 := hide (L1.out.below (below_alloc W1 (.cells #[.int .i64 1, .int .i64 2, .int .i64 3, .int .i64 1, .int .i64 0, .int .i64 4] 2)))
  refine (pick_e p (b3 + 1) 6 6 [1, 2, 3, 1, 0, 4] zs (T + 1) _ L2.out.src HU.out (by omega) hl (by decide) (by decide) rfl (by omega) (by rw [← hsz1]; simp) (fun i hi => by
    rw [← hsz1]
    have : i = 0 ∨ i = 1 ∨ i = 2 ∨ i = 3 ∨ i = 4 ∨ i = 5 := by omega
    rcases this with rfl | rfl | rfl | rfl | rfl | rfl <;> simp)).mono ?_
  rintro e w2 ⟨v, hv, rfl, s2, k2⟩
  obtain ⟨v0, hv0, hv4⟩ : ∃ v0 : Nat, v = (v0 : Int) ∧ v0 ≤ 4 := by
    simp at hv
    exact ⟨v.toNat, by omega, by omega⟩
  subst hv0
  have L3 := hide (L2.out.keptP hp hs1 k2 s2)
  clear s2 k2 hv L1 L2 hsz1
  go_wp2_with fail
  go_loopw [4] (fun i wr => ∃ (k : Nat) (done : List Int) (av : Option Addr) (cv : Nat), i = .int .i64 k ∧ k + done.length ≤ 4 ∧ Hid (AtD w wr p b3 zs (T + 1 + 1 + 3 * done.length) x done av cv)) (fun i _ => (intOf i).toNat)
  case atStart => exact ⟨v0, [], none, 0, rfl, by simpa using hv4, hide (by simpa using L3.out)⟩
  case round =>
    obtain ⟨k, done, av, cv, rfl, hk, H⟩ := hrel
    have hdone : done.length ≤ 4 := by omega
    by_cases h0 : 0 < k
    · obtain ⟨k, rfl⟩ : ∃ k', k = k' + 1 := ⟨k - 1, by omega⟩
      have hk0 : (0 : Int) < ((k + 1 : Nat) : Int) := by omega
      have hsz := H.out.sz
      have hm1 : done.length + 1 ≤ maxLen := by unfold maxLen; omega
      have hm2 : (done.length + 1) * 8 ≤ 140737488355328 := by omega
      have cm0 : wr.drew.cell? ⟨b3, 1, none⟩ = some (.slice av done.length cv) := (H.out.m.below (Below.refl _ _).drew).1.2
      have HSOME : Hid (Calls Tryd.prog 28 #[.pointer (some ⟨p, 0, none⟩), .int .i64 3] wr.drew fun r w5 => ∃ a5 c5 ds5, r = .returned (.slice a5 3 c5) ∧ ds5.length = 3 ∧ U8 ds5 ∧ Reads .u8 w5 a5 ds5 ∧ AtD w w5 p b3 zs (T + 1 + 1 + 3 * done.length + 3) x done av cv) := hide ((some_e p 3 zs (T + 1 + 1 + 3 * done.length) wr.drew (H.out.src.below (Below.refl _ _).drew) HU.out (by omega) hl (by decide)).mono (by
        rintro r w5 ⟨a5, c5, ds5, rfl, hd5, hu5, ho5, s5, k5⟩
        exact ⟨a5, c5, ds5, rfl, hd5, hu5, ownInts_readsD ho5 hd5.symm, (H.out.below (Below.refl _ _).drew).keptP hp hs1 k5 s5⟩))
      obtain ⟨⟨q0, q1⟩, q2, q3⟩ := H.out.m
      go_wp2_with fail
      go_region_law
        ((first
          | (have hL6 := L6; clear hL6; refine step_app (by rfl) (.tmp 16) (.tmp 20) 25 (by rfl) (b3 + 1) 2 i0 (.int .i64 0) 1 8 Tryd.underlying25 hi0 hz0 hz1 hz2 rfl (by decide) (.slice av done.length cv) done.length (done.map (Value.int .i64)) (by rfl) ((L6.out.below (below_alloc w5 (.cells #[.int .i64 (digest ds5)] 2))).own) ⟨w5.heap.size, 0, none⟩ 1 1 [.int .i64 (digest ds5)] (by rfl) (by rfl) (news_int w5 (digest ds5) 2) (by intro u hu; simp at hu; subst hu; rfl) (done.length + 1) rfl hm1 hm2 (by simp; omega) ?_; intro av7 cv7 w7 hown7 hk7; have O7 := hide hown7; have K7 := hide hk7; have M7 := hide ((L6.out.below (below_alloc w5 (.cells #[.int .i64 (digest ds5)] 2))).m.kept hk7 (fun hq => by have := ((L6.out.below (below_alloc w5 (.cells #[.int .i64 (digest ds5)] 2))).own.lt _ hq).1; omega)); obtain ⟨⟨-, e1⟩, -, e3⟩ := M7.out; clear hown7 hk7)
          | (go_simp; go_wp2_with (first
              | (go_at_call 28; refine HSOME.out.mono ?_; rintro r w5 ⟨a5, c5, ds5, rfl, hd5, hu5, hr5, hl6⟩; have R5 := hide hr5; have U5 := hide hu5; have L6 := hide hl6; have z5 : b3 < w5.heap.size := hl6.sz; have cm5 := hl6.m.1.2; have cm7 : ∀ o, (w5.alloc o).cell? ⟨b3, 1, none⟩ = some (.slice av done.length cv) := (fun o => (hl6.below (below_alloc w5 o)).m.1.2); clear hr5 hu5 hl6)
              | (go_at_call 27; refine (show Calls Tryd.prog 27 #[.slice a5 3 c5] w5 (fun e w' => e = .returned (.int .i64 (digest ds5)) ∧ w' = w5) by rw [← hd5]; exact specDigestOf_any a5 c5 ds5 _ R5.out U5.out (by omega)).mono ?_; rintro r w6 ⟨rfl, hw6⟩; have hw7 := hw6.symm; clear hw6; subst hw7)))))
      all_goals
        have L8 := hide (L6.out.push hp hs1 (below_alloc w5 (.cells #[.int .i64 (digest ds5)] 2)) O7.out K7.out)
        generalize w7.setCell ⟨b3, 1, none⟩ (.slice av7 (done.length + 1) cv7) = W8 at *
        have hdl : (done ++ [digest ds5]).length = done.length + 1 := by simp
        have hTT : T + 1 + 1 + 3 * (done.length : Int) + 3 = T + 1 + 1 + 3 * ((done ++ [digest ds5]).length : Int) := by rw [hdl]; omega
        rw [hTT] at L8
        clear O7 K7 M7 e1 e3 L6 R5 U5 cm5 cm7 HSOME cm0 q0 q1 q2 q3 hTT
        go_wp2_with fail
        go_roundw
        case rel => exact ⟨k, done ++ [digest ds5], av7, cv7, by go_num, by rw [hdl]; omega, L8⟩
        case measure => simp [intOf]
    · have hk0 : ¬ (0 : Int) < (k : Int) := by omega
      have L3 := hide H.out
      clear H
      go_wp2_with fail
      refine (next_e p zs _ 10 _ L3.out.src HU.out (by omega) (by decide) (by decide) hl).mono ?_
      rintro e w4 ⟨r, rfl, r1, s4, k4⟩
      have L4 := hide (L3.out.keptP hp hs1 k4 s4)
      clear s4 k4 L3
      by_cases hr0 : r = 0
      · subst hr0
        have TX := hide (TextsQ.new (Q := fun y => y.length ≤ 5) (w := w4) (t := 9) (vs := [[], [65], [97, 98, 99, 100, 101], [97, 32, 98]]) (by decide))
        have L5 := hide (L4.out.below (below_alloc w4 (.cells ([[], [65], [97, 98, 99, 100, 101], [97, 32, 98]].map vS).toArray 9)))
        go_wp2_with fail
        refine (next_e p zs _ 4 _ L5.out.src HU.out (by omega) (by decide) (by decide) hl).mono ?_
        rintro e w5 ⟨j, rfl, j1, s5, k5⟩
        have L6 := hide (L5.out.keptP hp hs1 k5 s5)
        have TX6 := hide (TX.out.kept k5 (by have := L4.out.sz; omega))
        clear s5 k5 TX L5 L4
        obtain ⟨y, hy, hyl⟩ := TX6.out.2 j (by simp; omega)
        have hyb := TX6.out.1
        have L7 := hide (L6.out.name hp hs1 y)
        obtain ⟨⟨q0, q1⟩, q2, q3⟩ := L6.out.m
        obtain ⟨⟨n0, n1⟩, n2, n3⟩ := L7.out.m
        obtain ⟨⟨x0, x1⟩, x2, x3⟩ := L7.out.r
        go_wp2_with fail
        exact bodyPost_ret (v := .agg #[.string (str y), .slice av done.length cv]) (by simp [results, Tryd.results13, go_sem, x0, x1]) rfl ⟨y, done, av, cv, rfl, hyl, by omega, L7.out.ret hp hs1 (by omega) _ _⟩
      · by_cases hr1 : r = 1
        · subst hr1
          have hm1 : done.length + 1 ≤ maxLen := by unfold maxLen; omega
          have hm2 : (done.length + 1) * 8 ≤ 140737488355328 := by omega
          have hdl : (done ++ [(-1 : Int)]).length = done.length + 1 := by simp
          have L5 := hide (L4.out.below (below_alloc w4 (.cells #[.int .i64 (-1)] 2)))
          have cm7 : ∀ o, (w4.alloc o).cell? ⟨b3, 1, none⟩ = some (.slice av done.length cv) := fun o => (L4.out.below (below_alloc w4 o)).m.1.2
          obtain ⟨⟨q0, q1⟩, q2, q3⟩ := L4.out.m
          go_wp2_with (at_builtin; refine wpList_app rfl (.tmp 36) (.tmp 37) 25 rfl (b3 + 1) 2 i0 (.int .i64 0) 1 8 Tryd.underlying25 hi0 hz0 hz1 hz2 rfl (by decide) (.slice av done.length cv) done.length (done.map (Value.int .i64)) rfl L5.out.own ⟨w4.heap.size, 0, none⟩ 1 1 [.int .i64 (-1)] rfl rfl (news_int w4 (-1) 2) (by intro u hu; simp at hu; subst hu; rfl) (done.length + 1) rfl hm1 hm2 (by simp; have := L4.out.sz; omega) ?_; intro av7 cv7 w7 hown7 hk7; have L8 := hide (L4.out.push hp hs1 (below_alloc w4 (.cells #[.int .i64 (-1)] 2)) hown7 hk7); have N8 := L8.out.m; rw [hdl] at N8; obtain ⟨⟨n0, n1⟩, n2, n3⟩ := N8; obtain ⟨⟨x0, x1⟩, x2, x3⟩ := L8.out.r; have M7 := L5.out.m.kept hk7 (fun hq => by have := (L5.out.own.lt _ hq).1; omega); obtain ⟨⟨e0, e1⟩, e2, e3⟩ := M7; clear hown7 hk7)
          exact bodyPost_ret (v := .agg #[.string (str x), .slice av7 (done.length + 1) cv7]) (by simp [results, Tryd.results13, go_sem, x0, x1]) rfl ⟨x, done ++ [-1], av7, cv7, by rw [hdl], by omega, by rw [hdl]; omega, L8.out.ret hp hs1 (by omega) _ _⟩
        · have g0 : ((r : Int) == 0) = false := beq_eq_false_iff_ne.2 (by omega)
          have g1 : ((r : Int) == 1) = false := beq_eq_false_iff_ne.2 (by omega)
          obtain ⟨⟨n0, n1⟩, n2, n3⟩ := L4.out.m
          obtain ⟨⟨x0, x1⟩, x2, x3⟩ := L4.out.r
          go_wp2_with fail
          exact bodyPost_ret (v := .agg #[.string (str x), .slice av done.length cv]) (by simp [results, Tryd.results13, go_sem, x0, x1]) rfl ⟨x, done, av, cv, rfl, by omega, by omega, L4.out.ret hp hs1 (by omega) _ _⟩
end Go.Proofs.YtmehngcbafdcgaaDoor
