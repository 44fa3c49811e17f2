/-
  Texts put together: FetG Put PutC FetH FetI FetK FetN.
-/
import Derived.Test.YtejfcapocikjmaaGreatDoorKAsksCa3
import Derived.Test.YtejfcapocikjmaaGreatDoorKAsksCa4
import Derived.Deep.RegionHeld3
import Derived.Deep.CutRange
import Derived.Lib.SliceRun
import Derived.Deep.QuietTactic
import Derived.Deep.RegionLaw
namespace Go.Proofs.YtejfcapocikjmaaGreatDoor
open Go.RowKit Go.Maps
set_option linter.unusedVariables false

def Bx4 (w : World) (b : Nat) (u0 u1 u2 u3 : Value) : Prop := (w.cell? ⟨b, 0, none⟩ = some u0 ∧ w.cell? ⟨b, 1, none⟩ = some u1 ∧ w.cell? ⟨b, 2, none⟩ = some u2 ∧ w.cell? ⟨b, 3, none⟩ = some u3) ∧ w.frozen? ⟨b, 0, none⟩ = false ∧ w.frozen? ⟨b, 1, none⟩ = false ∧ w.frozen? ⟨b, 2, none⟩ = false ∧ w.frozen? ⟨b, 3, none⟩ = false
theorem Bx4.new (w : World) (u0 u1 u2 u3 : Value) (t : TypeId) : Bx4 (w.alloc (.cells #[u0, u1, u2, u3] t)) w.heap.size u0 u1 u2 u3 := ⟨⟨by simp, by simp, by simp, by simp⟩, by simp, by simp, by simp, by simp⟩
theorem Bx4.lt {w : World} {b : Nat} {u0 u1 u2 u3 : Value} (h : Bx4 w b u0 u1 u2 u3) : b < w.heap.size := World.block_lt_of_cell? w ⟨b, 0, none⟩ h.1.1
theorem Bx4.kept {S : Nat → Prop} {w w' : World} {b : Nat} {u0 u1 u2 u3 : Value} (h : Bx4 w b u0 u1 u2 u3) (hk : Kept S w w') (hn : ¬ S b) : Bx4 w' b u0 u1 u2 u3 :=
  ⟨⟨(hk.cell (p := ⟨b, 0, none⟩) h.lt hn).trans h.1.1, (hk.cell (p := ⟨b, 1, none⟩) h.lt hn).trans h.1.2.1, (hk.cell (p := ⟨b, 2, none⟩) h.lt hn).trans h.1.2.2.1, (hk.cell (p := ⟨b, 3, none⟩) h.lt hn).trans h.1.2.2.2⟩, (hk.frozen (p := ⟨b, 0, none⟩) h.lt hn).trans h.2.1, (hk.frozen (p := ⟨b, 1, none⟩) h.lt hn).trans h.2.2.1, (hk.frozen (p := ⟨b, 2, none⟩) h.lt hn).trans h.2.2.2.1, (hk.frozen (p := ⟨b, 3, none⟩) h.lt hn).trans h.2.2.2.2⟩
theorem Bx4.below {w w' : World} {b : Nat} {u0 u1 u2 u3 : Value} (h : Bx4 w b u0 u1 u2 u3) (hk : Below w.heap.size w w') : Bx4 w' b u0 u1 u2 u3 := h.kept (S := fun _ => False) (Kept.of_below hk) id
theorem Kept.fourF (w : World) (b : Nat) (u0 u1 u2 u3 : Value) : Kept (fun x => x = b) w ((((w.setCell ⟨b, 0, none⟩ u0).setCell ⟨b, 1, none⟩ u1).setCell ⟨b, 2, none⟩ u2).setCell ⟨b, 3, none⟩ u3) :=
  (((Kept.one w b 0 u0).trans (Kept.one _ b 1 u1)).trans (Kept.one _ b 2 u2)).trans (Kept.one _ b 3 u3)
set_option maxRecDepth 100000 in
set_option maxHeartbeats 6400000 in
theorem answer_nil (fb : Nat) (wa : Option Addr) (wk : Nat) (ps : List Nat) (W : List Wn) (fa : Option Addr) (fc fn bm N T : Nat) (L : List Ch) (w : World) (hX : Bx3 w fb (.slice wa W.length wk) (.slice fa fn fc) (.map (some bm))) (hP : RdP w wa ps W) (hH : Holds w bm N L T) (hT : T ≤ w.heap.size) (hWl : W.length ≤ 1048576) (hL : L.length ≤ 1048576) (hlen : ∀ p ∈ L, 0 < p.2.length ∧ p.2.length ≤ 1048576) :
    Calls Tryz.prog 16 #[.pointer (some ⟨fb, 0, none⟩), .nilIface] w fun e w' => ∃ va vc ca cc, e = .returned (.agg #[.int .i64 0, .slice va W.length vc, .slice fa fn fc, .slice ca L.length cc]) ∧ OwnW w.heap.size w' (.slice va W.length vc) W ∧ GC w.heap.size w'.heap.size w' (.slice ca L.length cc) (dg (up L)) (bt (up L)) L.length ∧ Below w.heap.size w w' := by
  obtain ⟨i1, ki, kz0, kz1, kz2⟩ := info_parts Tryz.infoWn
  have HX := hide hX
  have HPt := hide hP
  have HH := hide hH
  have HLn := hide hlen
  clear hX hP hH hlen
  have B0 := hide (below_alloc w (.cells #[.int .i64 0, .slice none 0 0, .slice none 0 0, .slice none 0 0] 33))
  have R0 := hide (Bx4.new w (.int .i64 0) (.slice none 0 0) (.slice none 0 0) (.slice none 0 0) 33)
  go_enter Tryz.func16, Tryz.ntmps16
  obtain ⟨⟨t0, t1, t2⟩, -, -, -⟩ := HX.out.below B0.out
  go_wp2_with fail
  clear t0 t1 t2
  generalize hW0 : w.alloc (.cells #[.int .i64 0, .slice none 0 0, .slice none 0 0, .slice none 0 0] 33) = W0 at *
  have hs0 : w.heap.size < W0.heap.size := by have := R0.out.lt; exact this
  clear hW0
  go_loopw [5, 7, 18] (fun v _ i wr => ∃ (k : Nat) (a : Option Addr) (c : Nat), k ≤ W.length ∧ i = .int .i64 k ∧ v = .slice a k c ∧ Hid (OwnW W0.heap.size wr (.slice a k c) (W.take k)) ∧ Hid (Below W0.heap.size W0 wr)) (fun _ _ i _ => W.length - (intOf i).toNat)
  case atStart => exact ⟨0, none, 0, Nat.zero_le _, rfl, rfl, hide (by simpa using OwnW.nil _ _), hide (Below.refl _ _)⟩
  case round =>
    obtain ⟨k, a, c, hk, rfl, rfl, OW, BW⟩ := hrel
    have BWW := hide (below_next B0.out BW.out)
    have hlk : (W.take k).length = k := by simp; omega
    by_cases hlt : k < W.length
    · obtain ⟨hp1, hp2, hp3⟩ := HPt.out.below BWW.out
      obtain ⟨b1, o1, rfl, hb1, hc1⟩ := hp3 (by intro e; simp [e] at hlt)
      have c1 := hc1 k hlt
      obtain ⟨e1, e2⟩ := hp2 k hlt
      have HTS := hide (take_snoc hlt)
      clear hp1 hp2 hp3 hc1
      generalize (W.getD k (0, 0)).1 = d at *
      generalize (W.getD k (0, 0)).2 = t at *
      generalize ps.getD k 0 = p at *
      have R1 : Hid (wr.ownsRow W0.heap.size 78 2 (.slice a k c) k (flat k (laidW k (W.take k)))) := hide (by have := OW.out; unfold OwnW at this; rw [hlk] at this; exact this)
      have hm1 : k + 1 ≤ maxLen := by unfold maxLen; omega
      have hm2 : (k + 1) * 16 ≤ 140737488355328 := by omega
      have hsz : W0.heap.size ≤ wr.heap.size := BW.out.size
      unfold ptrV at c1
      go_wp2_with (at_builtin; refine wpList_append_one rfl (.tmp 22) (.tmp 26) 24 rfl W0.heap.size 78 i1 (.agg #[.int .i64 0, .int .i64 0]) 2 16 Tryz.underlying24 ki kz0 kz1 kz2 rfl (by decide) _ _ _ rfl R1.out rfl rfl (by intro u hu; simp at hu; rcases hu with rfl | rfl <;> rfl) hm1 hm2 hsz ?_; intro v' w3 hrow3 hk3; obtain ⟨a', c', rfl⟩ := ownsRow_shape hrow3; have O3 := hide hrow3; have K3 := hide hk3; clear hrow3 hk3)
      have OW3 := hide (OwnW.push (W := W.take k) (d := d) (t := t) (v := .slice a' (k + 1) c') (B := W0.heap.size) (w := w3) (by rw [hlk]; exact O3.out))
      rw [← HTS.out] at OW3
      go_roundw
      case rel => exact ⟨k + 1, a', c', by omega, by go_num, rfl, OW3, hide (BW.out.trans (K3.out.below hsz (fun j hj e => by have := (R1.out.lt j e).1; omega)))⟩
      case measure => simp [intOf]; omega
    · have hkl : k = W.length := by omega
      subst hkl
      have OWF : Hid (OwnW W0.heap.size wr (.slice a W.length c) W) := hide (by have := OW.out; rw [List.take_length] at this; exact this)
      clear OW hlk
      have KB : Hid (∀ u : World, Below wr.heap.size wr u → u.cell? ⟨fb, 1, none⟩ = some (.slice fa fn fc) ∧ u.cell? ⟨fb, 2, none⟩ = some (.map (some bm))) := hide (fun u hu => ⟨(HX.out.below (below_next BWW.out hu)).1.2.1, (HX.out.below (below_next BWW.out hu)).1.2.2⟩)
      have HRs := hide (fun (u : World) (hu : Below wr.heap.size wr u) => risingC_any bm N L T u (HH.out.below (below_next BWW.out hu)) hL HLn.out (Nat.le_trans hT (below_next BWW.out hu).size))
      obtain ⟨q1, q2⟩ := KB.out wr (Below.refl _ _)
      go_wp2_with fail
      obtain ⟨⟨r0, r1, r2, r3⟩, s0, s1, s2, s3⟩ := R0.out.below BW.out
      have hfbl := HX.out.lt
      have KS : Hid (∀ u : World, Below wr.heap.size wr u → ∀ x0 x1 x2 x3 : Value, ((((u.setCell ⟨w.heap.size, 0, none⟩ x0).setCell ⟨w.heap.size, 1, none⟩ x1).setCell ⟨w.heap.size, 2, none⟩ x2).setCell ⟨w.heap.size, 3, none⟩ x3).cell? ⟨fb, 1, none⟩ = some (.slice fa fn fc) ∧ ((((u.setCell ⟨w.heap.size, 0, none⟩ x0).setCell ⟨w.heap.size, 1, none⟩ x1).setCell ⟨w.heap.size, 2, none⟩ x2).setCell ⟨w.heap.size, 3, none⟩ x3).cell? ⟨fb, 2, none⟩ = some (.map (some bm))) := hide (fun u hu x0 x1 x2 x3 => by
        have hX2 := (HX.out.below (below_next BWW.out hu)).kept (Kept.fourF u w.heap.size x0 x1 x2 x3) (by omega)
        exact ⟨hX2.1.2.1, hX2.1.2.2⟩)
      go_region_held3 (fun u => u.cell? ⟨fb, 1, none⟩ = some (.slice fa fn fc) ∧ u.cell? ⟨fb, 2, none⟩ = some (.map (some bm))) (first | exact KB.out _ BB1.out | exact KS.out _ BB1.out _ _ _ _ | exact KB.out _ (Below.refl _ _).drew | go_keep)
        ((go_at_call 42; refine (HRs.out _ (Below.refl _ _).drew).mono ?_; rintro r w4 ⟨ca, cc, rfl, hG4, hb4⟩; have BB1 := hide ((Below.refl wr.heap.size wr).drew.trans hb4); have G4 := hide hG4; have R4 := R0.out.below (below_next BW.out BB1.out); have R4H := hide R4; obtain ⟨⟨m0, m1, m2, m3⟩, k0, k1, k2, k3⟩ := R4; clear hG4 hb4))
      go_wp2_with fail
      have hz : ((((w4.setCell ⟨w.heap.size, 0, none⟩ (.int .i64 0)).setCell ⟨w.heap.size, 1, none⟩ (.slice a W.length c)).setCell ⟨w.heap.size, 2, none⟩ (.slice fa fn fc)).setCell ⟨w.heap.size, 3, none⟩ (.slice ca L.length cc)).heap.size = w4.heap.size := by simp [World.setCell]
      have hz1 : W0.heap.size ≤ wr.heap.size := BW.out.size
      have hz2 : wr.drew.heap.size = wr.heap.size := rfl
      have hk4 := Kept.fourF w4 w.heap.size (.int .i64 0) (.slice a W.length c) (.slice fa fn fc) (.slice ca L.length cc)
      refine bodyPost_ret (v := .agg #[.int .i64 0, .slice a W.length c, .slice fa fn fc, .slice ca L.length cc]) (by simp [results, Tryz.results16, go_sem, m0, m1, m2, m3]) rfl ⟨a, c, ca, cc, rfl, ?_, ?_, ?_⟩
      · exact ((OWF.out.below BB1.out).kept hk4 (fun b hb e => by omega)).mono (by omega)
      · rw [hz]
        exact (G4.out.kept hk4 (fun b h1 h2 e => by omega)).mono (by omega)
      · exact (below_next BWW.out BB1.out).trans (hk4.below (B := w.heap.size) (below_next BWW.out BB1.out).size (fun k hk e => by omega))
set_option maxRecDepth 100000 in
set_option maxHeartbeats 1600000 in
theorem answer_err (fb : Nat) (t : TypeId) (v : Value) (q : Int) (w : World) (hC : ∀ u : World, Below w.heap.size w u → Calls Tryz.prog 41 #[.iface t v] u fun e w' => e = .returned (.int .i64 q) ∧ Below u.heap.size u w') :
    Calls Tryz.prog 16 #[.pointer (some ⟨fb, 0, none⟩), .iface t v] w fun e w' => e = .returned (.agg #[.int .i64 q, .slice none 0 0, .slice none 0 0, .slice none 0 0]) ∧ Below w.heap.size w w' := by
  have B0 := hide (below_alloc w (.cells #[.int .i64 0, .slice none 0 0, .slice none 0 0, .slice none 0 0] 33))
  have R0 := hide (Bx4.new w (.int .i64 0) (.slice none 0 0) (.slice none 0 0) (.slice none 0 0) 33)
  have HC := hide (hC _ B0.out)
  clear hC
  go_enter Tryz.func16, Tryz.ntmps16
  go_wp2_with fail
  generalize w.alloc (.cells #[.int .i64 0, .slice none 0 0, .slice none 0 0, .slice none 0 0] 33) = W0 at *
  refine HC.out.mono ?_
  rintro e w1 ⟨rfl, hb1⟩
  have B1 := hide (below_next B0.out hb1)
  obtain ⟨⟨m0, m1, m2, m3⟩, k0, k1, k2, k3⟩ := R0.out.below hb1
  clear hb1
  go_wp2_with fail
  have hk4 := Kept.fourF w1 w.heap.size (.int .i64 q) (.slice none 0 0) (.slice none 0 0) (.slice none 0 0)
  exact bodyPost_ret (v := .agg #[.int .i64 q, .slice none 0 0, .slice none 0 0, .slice none 0 0]) (by simp [results, Tryz.results16, go_sem, m0, m1, m2, m3]) rfl ⟨rfl, B1.out.trans (hk4.below (B := w.heap.size) B1.out.size (fun k hk e => by omega))⟩
end Go.Proofs.YtejfcapocikjmaaGreatDoor

namespace Go.Proofs.YtejfcapocikjmaaGreatDoor
open Go.RowKit Go.Maps
set_option linter.unusedVariables false
attribute [local go_sem ↓] Go.wp_at_zero Go.wp_at_succ

def ins {α : Type} (f : Nat → α) (m : Nat) (x : α) : Nat → α := fun i => if i < m then f i else if i = m then x else f (i - 1)
theorem ins_flat (D : Nat → Int) (P : Nat → List Int) (A : Nat → Option Addr) (C : Nat → Nat) {n m : Nat} (hm : m ≤ n) (d : Int) (zs : List Int) (da : Option Addr) (dc : Nat) :
    flat (n + 1) (chCells (ins D m d) (ins P m zs) (ins A m da) (ins C m dc)) = (flat m (chCells D P A C) ++ [.int .i64 d, .slice da zs.length dc]) ++ (flat n (chCells D P A C)).drop (m * 2) := by
  have l1 := flat_length (n := m) (k := 2) (F := chCells D P A C) (fun i _ => rfl)
  have l2 := flat_length (n := n) (k := 2) (F := chCells D P A C) (fun i _ => rfl)
  have l3 := flat_length (n := n + 1) (k := 2) (F := chCells (ins D m d) (ins P m zs) (ins A m da) (ins C m dc)) (fun i _ => rfl)
  apply List.ext_getElem?
  intro p
  by_cases hp : p < (n + 1) * 2
  · have e : p = p / 2 * 2 + p % 2 := by omega
    have h1 : p / 2 < n + 1 := by omega
    have h2 : p % 2 < 2 := by omega
    generalize p / 2 = q at e h1
    generalize p % 2 = r at e h2
    subst e
    rw [flat_get (k := 2) (fun i _ => rfl) q r h1 h2]
    by_cases h3 : q < m
    · rw [List.getElem?_append_left (by simp [l1]; omega), List.getElem?_append_left (by rw [l1]; omega), flat_get (k := 2) (fun i _ => rfl) q r h3 h2]
      simp [chCells, ins, h3]
    · by_cases h4 : q = m
      · subst h4
        rw [List.getElem?_append_left (by simp [l1]; omega), List.getElem?_append_right (by rw [l1]; omega), l1]
        have : q * 2 + r - q * 2 = r := by omega
        rw [this]
        simp [chCells, ins]
      · rw [List.getElem?_append_right (by simp [l1]; omega), List.getElem?_drop]
        have : m * 2 + (q * 2 + r - (flat m (chCells D P A C) ++ [Value.int .i64 d, .slice da zs.length dc]).length) = (q - 1) * 2 + r := by simp [l1]; omega
        rw [this, flat_get (k := 2) (fun i _ => rfl) (q - 1) r (by omega) h2]
        simp [chCells, ins, h3, h4]
  · rw [List.getElem?_eq_none (by omega), List.getElem?_eq_none (by simp [l1, l2]; omega)]

theorem RdC.of_rows {w : World} {B : Nat} {a : Option Addr} {c n : Nat} {D : Nat → Int} {P : Nat → List Int} {A : Nat → Option Addr} {C : Nat → Nat} (h1 : w.ownsRow B 65 2 (.slice a n c) n (flat n (chCells D P A C))) (h2 : ∀ i, i < n → Reads .u8 w (A i) (P i)) : RdC w a D P n := by
  intro hn
  rcases h1.2 with ⟨_, h0⟩ | ⟨g, cap, cur, h', hb, hh, hnc, hcm, hcs, htake⟩
  · omega
  · simp only [Value.slice.injEq, true_and] at h'
    obtain ⟨rfl, rfl⟩ := h'
    have hf := fun i r hi hr => flat_get (n := n) (k := 2) (F := chCells D P A C) (fun i _ => rfl) i r hi hr
    refine ⟨g, 0, A, C, rfl, (h1.lt g rfl).2, fun i hi => ⟨?_, ?_, h2 i hi⟩⟩
    · rw [Nat.zero_add, h1.cellAt (i * 2) (by omega)]
      have := hf i 0 hi (by decide)
      rw [Nat.add_zero] at this
      rw [this]; rfl
    · rw [Nat.zero_add, h1.cellAt (i * 2 + 1) (by omega), hf i 1 hi (by decide)]; rfl

theorem rdC_news {w : World} {b off n : Nat} {D : Nat → Int} {P : Nat → List Int} {A : Nat → Option Addr} {C : Nat → Nat} (hc : ∀ i, i < n → w.cell? ⟨b, off + i * 2, none⟩ = some (.int .i64 (D i)) ∧ w.cell? ⟨b, off + i * 2 + 1, none⟩ = some (.slice (A i) (P i).length (C i))) (m : Nat) :
    ∀ j u, ((flat n (chCells D P A C)).drop (m * 2))[j]? = some u → w.cell? ((⟨b, off + m * 2, none⟩ : Addr).add j) = some u := by
  intro j u hj
  have hl := flat_length (n := n) (k := 2) (F := chCells D P A C) (fun i _ => rfl)
  rw [List.getElem?_drop] at hj
  have hp : m * 2 + j < n * 2 := by
    rcases Nat.lt_or_ge (m * 2 + j) (n * 2) with h | h
    · exact h
    · rw [List.getElem?_eq_none (by omega)] at hj; cases hj
  have ea : (⟨b, off + m * 2, none⟩ : Addr).add j = ⟨b, off + m * 2 + j, none⟩ := by unfold Addr.add; split <;> simp_all
  rw [ea]
  have e : m * 2 + j = (m * 2 + j) / 2 * 2 + (m * 2 + j) % 2 := by omega
  have h1 : (m * 2 + j) / 2 < n := by omega
  have h2 : (m * 2 + j) % 2 = 0 ∨ (m * 2 + j) % 2 = 1 := by omega
  have ea2 : off + m * 2 + j = off + (m * 2 + j) := by omega
  rw [ea2]
  generalize (m * 2 + j) / 2 = q at e h1
  rcases h2 with h2 | h2
  · rw [h2] at e
    rw [e] at hj ⊢
    rw [flat_get (k := 2) (fun i _ => rfl) q 0 h1 (by decide)] at hj
    have := (hc q h1).1
    simp only [Nat.add_zero] at this ⊢
    rw [this]; exact hj
  · rw [h2] at e
    rw [e] at hj ⊢
    rw [flat_get (k := 2) (fun i _ => rfl) q 1 h1 (by decide)] at hj
    have := (hc q h1).2
    rw [← Nat.add_assoc, this]; exact hj
theorem rdC_news0 {w : World} {b off n : Nat} {D : Nat → Int} {P : Nat → List Int} {A : Nat → Option Addr} {C : Nat → Nat} (hc : ∀ i, i < n → w.cell? ⟨b, off + i * 2, none⟩ = some (.int .i64 (D i)) ∧ w.cell? ⟨b, off + i * 2 + 1, none⟩ = some (.slice (A i) (P i).length (C i))) (m : Nat) (hm : m ≤ n) :
    ∀ j u, (flat m (chCells D P A C))[j]? = some u → w.cell? ((⟨b, off, none⟩ : Addr).add j) = some u := by
  intro j u hj
  have := rdC_news (n := m) (fun i hi => hc i (by omega)) 0 j u (by simpa using hj)
  simpa using this
theorem flat_one (n : Nat) (D : Nat → Int) (P : Nat → List Int) (A : Nat → Option Addr) (C : Nat → Nat) : ∀ u ∈ flat n (chCells D P A C), u.oneCell' = true := by
  intro u hu
  unfold flat at hu
  obtain ⟨i, _, hi⟩ := List.mem_flatMap.1 hu
  simp [chCells] at hi
  rcases hi with rfl | rfl <;> rfl

theorem wpList_append_N {P : Program} {w : World} {ops : Array Oper} {rest : List Oper} {o : Oper} {a : Act} {Q : Exit → Act → World → Prop} (hgd : o.guard = none) (s x : Operand) (t : TypeId)
    (ho : o.op = .call { callee := .builtin .append, args := #[s, x], argTypes := #[t, t] })
    (base : Nat) (e : TypeId) (i : TypeInfo) (z : Value) (size bytes : Nat) (ht : P.underlying t = some (.slice e)) (hi : P.info? e = some i) (hz : i.zero = some z)
    (hsize : i.size = size) (hby : i.bytes = bytes) (hzs : z.cells.size = size) (hsz : 0 < size)
    (v : Value) (n : Nat) (xs : List Value) (hs : a.eval s = v) (hown : w.ownsRow base e size v n xs)
    (ad : Addr) (m c : Nat) (news : List Value) (hx : a.eval x = .slice (some ad) m c) (hl : news.length = m * size) (hnews : ∀ j u, news[j]? = some u → w.cell? (ad.add j) = some u) (h1 : ∀ u ∈ news, u.oneCell' = true)
    (N : Nat) (hN : n + m = N) (h63 : n + m ≤ maxLen) (hbytes : (n + m) * bytes ≤ 140737488355328) (hbase : base ≤ w.heap.size)
    (h : ∀ av cv w', w'.ownsRow base e size (.slice av N cv) N (xs ++ news) → Kept (fun b => v.ownBlock = some b) w w' → wpList P ops Q rest (a.put o.dst (.slice av N cv)) w') :
    wpList P ops Q (o :: rest) a w := by
  refine wpList_append_own w hgd s x t ho base e i z size bytes ht hi hz hsize hby hzs hsz v n xs hs hown ad m c news hx hl hnews h1 h63 hbytes hbase fun v' w' h2 h3 _ => ?_
  rw [hN] at h2
  obtain ⟨av, cv, rfl⟩ := ownsRow_shape h2
  exact h av cv w' h2 ⟨h3.os, h3.tape, h3.output, h3.size, fun q hq hn => h3.block q hq (fun e => hn e.symm)⟩

set_option maxRecDepth 100000 in
set_option maxHeartbeats 800000 in
theorem l2Put_there_at (a : Option Addr) (c n : Nat) (D : Nat → Int) (P : Nat → List Int) (d : Int) (a2 : Option Addr) (n2 c2 : Nat) (w : World) (h : RdC w a D P n) (hn : n ≤ 1048576) (hP : ∀ i, i < n → 0 < (P i).length ∧ (P i).length ≤ 1048576) (hd : ∃ i, i < n ∧ D i = d) :
    Calls Tryz.prog 84 #[.slice a n c, .int .i64 d, .slice a2 n2 c2] w fun e w' => ∃ g cv, e = .returned (.tuple #[.slice (some ⟨g, 0, none⟩) n cv, .bool true]) ∧ n ≤ cv ∧ GC w.heap.size w'.heap.size w' (.slice (some ⟨g, 0, none⟩) n cv) D P n ∧ Below w.heap.size w w' := by
  obtain ⟨i, hi, hdi, hf⟩ : ∃ i, i < n ∧ D i = d ∧ ∀ j, j < i → D j ≠ d := by
    clear h hP
    induction n with
    | zero => obtain ⟨i, hi, _⟩ := hd; omega
    | succ n ih =>
      by_cases h : ∃ i, i < n ∧ D i = d
      · obtain ⟨j, h1, h2, h3⟩ := ih (by omega) h
        exact ⟨j, by omega, h2, h3⟩
      · obtain ⟨i, hi, e⟩ := hd
        have hin : i = n := by
          rcases Nat.lt_or_ge i n with h' | h'
          · exact absurd ⟨i, h', e⟩ h
          · omega
        subst hin
        exact ⟨i, by omega, e, fun j hj ej => h ⟨j, hj, ej⟩⟩
  have hi0 : (0 : Int) ≤ (i : Int) := by omega
  have HY := hide (l2At_yes a c n i d D P w h hn hi hdi hf)
  have HC := hide (l2Copy_at a c n D P w h hn hP)
  clear h hP hd hdi hf
  go_enter Tryz.func84, Tryz.ntmps84
  go_wp2_with fail
  refine HY.out.mono ?_
  rintro e w1 ⟨rfl, rfl⟩
  go_wp2_with fail
  refine HC.out.mono ?_
  rintro e w2 ⟨g, cv, rfl, hcv, hG, hb⟩
  have HG := hide hG
  have HB := hide hb
  clear hG hb
  go_wp2_with fail
  exact bodyPost_ret (v := .tuple #[.slice (some ⟨g, 0, none⟩) n cv, .bool true]) (by simp [results, Tryz.results84, go_sem]) rfl ⟨g, cv, rfl, hcv, HG.out, HB.out⟩

set_option maxRecDepth 100000 in
set_option maxHeartbeats 800000 in
theorem l2Put_full (a : Option Addr) (c n : Nat) (D : Nat → Int) (P : Nat → List Int) (d : Int) (a2 : Option Addr) (n2 c2 : Nat) (w : World) (h : RdC w a D P n) (hn : n ≤ 1048576) (hd : ∀ i, i < n → D i ≠ d) (hf : 40 ≤ n) :
    Calls Tryz.prog 84 #[.slice a n c, .int .i64 d, .slice a2 n2 c2] w fun e w' => e = .returned (.tuple #[.slice none 0 0, .bool false]) ∧ Below w.heap.size w w' := by
  have HY := hide (l2At_no a c n d D P w h hn hd)
  have hf' : (40 : Int) ≤ (n : Int) := by omega
  clear h hd
  go_enter Tryz.func84, Tryz.ntmps84
  go_wp2_with fail
  refine HY.out.mono ?_
  rintro e w1 ⟨rfl, rfl⟩
  go_wp2_with fail
  exact bodyPost_ret (v := .tuple #[.slice none 0 0, .bool false]) (by simp [results, Tryz.results84, go_sem]) rfl ⟨rfl, Below.refl _ _⟩

set_option maxRecDepth 100000 in
set_option maxHeartbeats 3200000 in
theorem l2Put_new (b off c n m : Nat) (D : Nat → Int) (P : Nat → List Int) (d : Int) (a2 : Option Addr) (c2 : Nat) (zs : List Int) (w : World) (h : RdC w (some ⟨b, off, none⟩) D P n) (hcap : n ≤ c) (hn : n < 40) (hP : ∀ i, i < n → 0 < (P i).length ∧ (P i).length ≤ 1048576) (h2 : Reads .u8 w a2 zs) (hz : 0 < zs.length ∧ zs.length ≤ 1048576)
    (hd : ∀ i, i < n → D i ≠ d) (hm : m ≤ n) (hlow : ∀ i, i < m → D i < d) (hhigh : m < n → ¬ D m < d) :
    Calls Tryz.prog 84 #[.slice (some ⟨b, off, none⟩) n c, .int .i64 d, .slice a2 zs.length c2] w fun e w' => ∃ av cv, e = .returned (.tuple #[.slice av (n + 1) cv, .bool true]) ∧ GC w.heap.size w'.heap.size w' (.slice av (n + 1) cv) (ins D m d) (ins P m zs) (n + 1) ∧ Below w.heap.size w w' := by
  obtain ⟨i1, ki, kz0, kz1, kz2⟩ := info_parts Tryz.infoCh
  have HY := hide (l2At_no (some ⟨b, off, none⟩) c n d D P w h (by omega) hd)
  obtain ⟨A, C, hAC⟩ : ∃ (A : Nat → Option Addr) (C : Nat → Nat), ∀ i, i < n → (w.cell? ⟨b, off + i * 2, none⟩ = some (.int .i64 (D i)) ∧ w.cell? ⟨b, off + i * 2 + 1, none⟩ = some (.slice (A i) (P i).length (C i))) ∧ Reads .u8 w (A i) (P i) ∧ b < w.heap.size := by
    by_cases h0 : 0 < n
    · obtain ⟨b', off', A, C, e, hb, hc⟩ := h h0
      simp only [Option.some.injEq, Addr.mk.injEq, and_true] at e
      obtain ⟨rfl, rfl⟩ := e
      exact ⟨A, C, fun i hi => ⟨⟨(hc i hi).1, (hc i hi).2.1⟩, (hc i hi).2.2, hb⟩⟩
    · exact ⟨fun _ => none, fun _ => 0, fun i hi => absurd hi (by omega)⟩
  have hc40 : ¬ (40 : Int) ≤ (n : Int) := by omega
  have HA := hide hAC
  have HP := hide hP
  have HR := hide h2
  have HL := hide hlow
  have HHi := hide hhigh
  clear h hP h2 hAC hd hlow hhigh
  go_enter Tryz.func84, Tryz.ntmps84
  go_wp2_with fail
  refine HY.out.mono ?_
  rintro e w1 ⟨rfl, rfl⟩
  go_wp2
  go_loop [8] (fun q => ∃ k : Nat, k ≤ m ∧ q = .int .i64 k) (fun q => n - (intOf q).toNat)
  case atStart => exact ⟨0, Nat.zero_le _, rfl⟩
  case round =>
    obtain ⟨k, hk, rfl⟩ := hrel
    by_cases hkm : k < m
    · have hkn : (k : Int) < (n : Int) := by omega
      obtain ⟨⟨c1, _⟩, _, _⟩ := HA.out k (by omega)
      have hdk := HL.out k hkm
      generalize D k = dd at c1 hdk
      go_wp2
      go_round
      case rel => exact ⟨k + 1, by omega, by go_num⟩
      case measure => simp [intOf]; omega
    · have hke : k = m := by omega
      subst hke
      have HFl := flat_length (n := k) (k := 2) (F := chCells D P A C) (fun i _ => rfl)
      have HFn := flat_length (n := n) (k := 2) (F := chCells D P A C) (fun i _ => rfl)
      have OWN0 : Hid ((w1.alloc (.cells #[] 65)).ownsRow w1.heap.size 65 2 (.slice (some ⟨w1.heap.size, 0, none⟩) 0 0) 0 []) := World.ownsRow_made w1 #[] 0 (Nat.le_refl _) (Nat.zero_le _) rfl
      have NEWS0 : Hid (∀ j u, (flat k (chCells D P A C))[j]? = some u → (w1.alloc (.cells #[] 65)).cell? ((⟨b, off, none⟩ : Addr).add j) = some u) := rdC_news0 (n := n) (fun i hi => ⟨((below_alloc w1 (.cells #[] 65)).cell (p := ⟨b, off + i * 2, none⟩) (HA.out i hi).2.2).trans (HA.out i hi).1.1, ((below_alloc w1 (.cells #[] 65)).cell (p := ⟨b, off + i * 2 + 1, none⟩) (HA.out i hi).2.2).trans (HA.out i hi).1.2⟩) k hm
      have hm0 : 0 + k ≤ maxLen := by unfold maxLen; omega
      have hm0' : (0 + k) * 32 ≤ 140737488355328 := by omega
      have hkc : (k : Int) ≤ (c : Int) := by omega
      have hkn' : (k : Int) ≤ (n : Int) := by omega
      have hnc' : (n : Int) ≤ (c : Int) := by omega
      by_cases hkn : k < n
      · have hkn2 : (k : Int) < (n : Int) := by omega
        obtain ⟨⟨c1, _⟩, _, _⟩ := HA.out k hkn
        have hdk := HHi.out hkn
        have HDD := hide c1
        generalize D k = dd at c1 hdk
        go_wp2_with (first | (at_builtin; refine wpList_append_N rfl (.tmp 34) (.tmp 37) 26 rfl w1.heap.size 65 i1 (.agg #[.int .i64 0, .slice none 0 0]) 2 32 Tryz.underlying26 ki kz0 kz1 kz2 rfl (by decide) (.slice (some ⟨w1.heap.size, 0, none⟩) 0 0) 0 [] rfl OWN0.out ⟨b, off, none⟩ k c (flat k (chCells D P A C)) rfl HFl NEWS0.out (flat_one _ _ _ _ _) k (by simp) hm0 hm0' (by simp) ?_; intro av cv w2 hown2 hk2; have O2 := hide hown2; have K2 := hide hk2; clear hown2 hk2) | fail)
        have hckf : ¬ c = k := by omega
        have BB2 := hide ((below_alloc w1 (.cells #[] 65)).trans (K2.out.below (by simp) (fun q hq hS => by simp [Value.ownBlock] at hS; omega)))
        have OWN1 : Hid ((w2.alloc (.cells #[.int .i64 d, .slice a2 zs.length c2] 65)).drew.ownsRow w1.heap.size 65 2 (.slice av k cv) k ([] ++ flat k (chCells D P A C))) := ownsRow_below O2.out (below_alloc _ _).drew
        have NEWS1 : Hid (∀ j u, [Value.int .i64 d, .slice a2 zs.length c2][j]? = some u → (w2.alloc (.cells #[.int .i64 d, .slice a2 zs.length c2] 65)).drew.cell? ((⟨w2.heap.size, 0, none⟩ : Addr).add j) = some u) := news_two (t := 65) rfl
        have NEWS2 : Hid (∀ w3 : World, Below w1.heap.size w1 w3 → ∀ j u, ((flat n (chCells D P A C)).drop (k * 2))[j]? = some u → w3.cell? ((⟨b, off + k * 2, none⟩ : Addr).add j) = some u) := fun w3 hb3 => rdC_news (n := n) (fun i hi => ⟨(hb3.cell (p := ⟨b, off + i * 2, none⟩) (HA.out i hi).2.2).trans (HA.out i hi).1.1, (hb3.cell (p := ⟨b, off + i * 2 + 1, none⟩) (HA.out i hi).2.2).trans (HA.out i hi).1.2⟩) k
        have hs2 := BB2.out.size
        have hnl : ((flat n (chCells D P A C)).drop (k * 2)).length = (n - k) * 2 := by rw [List.length_drop, HFn]; omega
        have hk1' : k + 1 + (n - k) = n + 1 := by omega
        have hm1 : k + 1 ≤ maxLen := by unfold maxLen; omega
        have hm1' : (k + 1) * 32 ≤ 140737488355328 := by omega
        have hm2 : k + 1 + (n - k) ≤ maxLen := by unfold maxLen; omega
        have hm2' : (k + 1 + (n - k)) * 32 ≤ 140737488355328 := by omega
        have hk0 : (0 : Int) ≤ (k : Int) := by omega
        have HON := hide (fun u (hu : u ∈ (flat n (chCells D P A C)).drop (k * 2)) => flat_one n D P A C u (List.mem_of_mem_drop hu))
        go_region_held3 (fun _ => True) (trivial)
          ((first
            | (refine step_append_own (by rfl) (.tmp 39) (.tmp 43) 26 (by rfl) w1.heap.size 65 i1 (.agg #[.int .i64 0, .slice none 0 0]) 2 32 Tryz.underlying26 ki kz0 kz1 kz2 rfl (by decide) (.slice av k cv) k ([] ++ flat k (chCells D P A C)) (by rfl) OWN1.out ⟨w2.heap.size, 0, none⟩ 1 1 [.int .i64 d, .slice a2 zs.length c2] (by rfl) (by rfl) NEWS1.out (by intro u hu; simp at hu; rcases hu with rfl | rfl <;> rfl) (k + 1) rfl hm1 hm1' (by simp; omega) ?_; intro av2 cv2 w3 hown3 hk3; have O3 := hide hown3; have BB3 := hide (BB2.out.trans ((((Kept.refl (fun x => (Value.slice av k cv).ownBlock = some x) w2).alloc _).drew.trans hk3).below hs2 (fun q hq hS => by have := (O2.out.lt q hS).1; omega))); clear hown3 hk3)
            | (refine step_append_own (by rfl) (.tmp 44) (.tmp 47) 26 (by rfl) w1.heap.size 65 i1 (.agg #[.int .i64 0, .slice none 0 0]) 2 32 Tryz.underlying26 ki kz0 kz1 kz2 rfl (by decide) (.slice av2 (k + 1) cv2) (k + 1) (([] ++ flat k (chCells D P A C)) ++ [.int .i64 d, .slice a2 zs.length c2]) (by rfl) O3.out ⟨b, off + k * 2, none⟩ (n - k) (c - k) ((flat n (chCells D P A C)).drop (k * 2)) (by rfl) hnl (NEWS2.out w3 BB3.out) HON.out (n + 1) hk1' hm2 hm2' BB3.out.size ?_; intro av3 cv3 w4 hown4 hk4; have O4 := hide hown4; have BB4 := hide (BB3.out.trans (hk4.below BB3.out.size (fun q hq hS => by have := (O3.out.lt q hS).1; omega))); clear hown4 hk4)))
        have O5 : Hid (w4.ownsRow w1.heap.size 65 2 (.slice av3 (n + 1) cv3) (n + 1) (flat (n + 1) (chCells (ins D k d) (ins P k zs) (ins A k a2) (ins C k c2)))) := by rw [ins_flat D P A C hm d zs a2 c2]; exact O4.out
        have RD5 : Hid (RdC w4 av3 (ins D k d) (ins P k zs) (n + 1)) := RdC.of_rows O5.out (fun i hi => by
          by_cases e1 : i < k
          · simp only [ins, if_pos e1]; exact (HA.out i (by omega)).2.1.below BB4.out
          · by_cases e2 : i = k
            · simp only [ins, if_neg e1, if_pos e2]; exact HR.out.below BB4.out
            · simp only [ins, if_neg e1, if_neg e2]; exact (HA.out (i - 1) (by omega)).2.1.below BB4.out)
        have HP5 : Hid (∀ i, i < n + 1 → 0 < (ins P k zs i).length ∧ (ins P k zs i).length ≤ 1048576) := fun i hi => by
          by_cases e1 : i < k
          · simp only [ins, if_pos e1]; exact HP.out i (by omega)
          · by_cases e2 : i = k
            · simp only [ins, if_neg e1, if_pos e2]; exact hz
            · simp only [ins, if_neg e1, if_neg e2]; exact HP.out (i - 1) (by omega)
        clear O5 O4 O3 BB3 BB2 OWN1 NEWS1 NEWS2
        go_wp2_with fail
        refine (l2Copy_any av3 cv3 (n + 1) _ _ w4 RD5.out (by omega) HP5.out).mono ?_
        rintro e w5 ⟨av5, cv5, rfl, hG, hb⟩
        have HG := hide (hG.mono BB4.out.size)
        have HB := hide (below_next BB4.out hb)
        clear hG hb
        go_wp2_with fail
        exact bodyPost_ret (v := .tuple #[.slice av5 (n + 1) cv5, .bool true]) (by simp [results, Tryz.results84, go_sem]) rfl ⟨av5, cv5, rfl, HG.out, HB.out⟩
      · have hkn2 : ¬ (k : Int) < (n : Int) := by omega
        by_cases hck : c = k
        · obtain rfl : k = c := hck.symm
          go_wp2_with (first | (at_builtin; refine wpList_append_N rfl (.tmp 34) (.tmp 37) 26 rfl w1.heap.size 65 i1 (.agg #[.int .i64 0, .slice none 0 0]) 2 32 Tryz.underlying26 ki kz0 kz1 kz2 rfl (by decide) (.slice (some ⟨w1.heap.size, 0, none⟩) 0 0) 0 [] rfl OWN0.out ⟨b, off, none⟩ k k (flat k (chCells D P A C)) rfl HFl NEWS0.out (flat_one _ _ _ _ _) k (by simp) hm0 hm0' (by simp) ?_; intro av cv w2 hown2 hk2; have O2 := hide hown2; have K2 := hide hk2; clear hown2 hk2) | fail)
          have BB2 := hide ((below_alloc w1 (.cells #[] 65)).trans (K2.out.below (by simp) (fun q hq hS => by simp [Value.ownBlock] at hS; omega)))
          have OWN1 : Hid ((w2.alloc (.cells #[.int .i64 d, .slice a2 zs.length c2] 65)).drew.ownsRow w1.heap.size 65 2 (.slice av k cv) k ([] ++ flat k (chCells D P A C))) := ownsRow_below O2.out (below_alloc _ _).drew
          have NEWS1 : Hid (∀ j u, [Value.int .i64 d, .slice a2 zs.length c2][j]? = some u → (w2.alloc (.cells #[.int .i64 d, .slice a2 zs.length c2] 65)).drew.cell? ((⟨w2.heap.size, 0, none⟩ : Addr).add j) = some u) := news_two (t := 65) rfl
          have NEWS2 : Hid (∀ w3 : World, Below w1.heap.size w1 w3 → ∀ j u, ((flat n (chCells D P A C)).drop (k * 2))[j]? = some u → w3.cell? ((⟨b, off, none⟩ : Addr).add j) = some u) := fun w3 hb3 => fun j u hj => by rw [List.drop_eq_nil_of_le (by rw [HFn]; omega)] at hj; simp at hj
          have hs2 := BB2.out.size
          have hnl : ((flat n (chCells D P A C)).drop (k * 2)).length = 0 * 2 := by rw [List.length_drop, HFn]; omega
          have hk1' : k + 1 + 0 = n + 1 := by omega
          have hm1 : k + 1 ≤ maxLen := by unfold maxLen; omega
          have hm1' : (k + 1) * 32 ≤ 140737488355328 := by omega
          have hm2 : k + 1 + 0 ≤ maxLen := by unfold maxLen; omega
          have hm2' : (k + 1 + 0) * 32 ≤ 140737488355328 := by omega
          have hk0 : (0 : Int) ≤ (k : Int) := by omega
          have HON := hide (fun u (hu : u ∈ (flat n (chCells D P A C)).drop (k * 2)) => flat_one n D P A C u (List.mem_of_mem_drop hu))
          go_region_held3 (fun _ => True) (trivial)
            ((first
              | (refine step_append_own (by rfl) (.tmp 39) (.tmp 43) 26 (by rfl) w1.heap.size 65 i1 (.agg #[.int .i64 0, .slice none 0 0]) 2 32 Tryz.underlying26 ki kz0 kz1 kz2 rfl (by decide) (.slice av k cv) k ([] ++ flat k (chCells D P A C)) (by rfl) OWN1.out ⟨w2.heap.size, 0, none⟩ 1 1 [.int .i64 d, .slice a2 zs.length c2] (by rfl) (by rfl) NEWS1.out (by intro u hu; simp at hu; rcases hu with rfl | rfl <;> rfl) (k + 1) rfl hm1 hm1' (by simp; omega) ?_; intro av2 cv2 w3 hown3 hk3; have O3 := hide hown3; have BB3 := hide (BB2.out.trans ((((Kept.refl (fun x => (Value.slice av k cv).ownBlock = some x) w2).alloc _).drew.trans hk3).below hs2 (fun q hq hS => by have := (O2.out.lt q hS).1; omega))); clear hown3 hk3)
              | (refine step_append_own (by rfl) (.tmp 44) (.tmp 47) 26 (by rfl) w1.heap.size 65 i1 (.agg #[.int .i64 0, .slice none 0 0]) 2 32 Tryz.underlying26 ki kz0 kz1 kz2 rfl (by decide) (.slice av2 (k + 1) cv2) (k + 1) (([] ++ flat k (chCells D P A C)) ++ [.int .i64 d, .slice a2 zs.length c2]) (by rfl) O3.out ⟨b, off, none⟩ 0 0 ((flat n (chCells D P A C)).drop (k * 2)) (by rfl) hnl (NEWS2.out w3 BB3.out) HON.out (n + 1) hk1' hm2 hm2' BB3.out.size ?_; intro av3 cv3 w4 hown4 hk4; have O4 := hide hown4; have BB4 := hide (BB3.out.trans (hk4.below BB3.out.size (fun q hq hS => by have := (O3.out.lt q hS).1; omega))); clear hown4 hk4)))
          have O5 : Hid (w4.ownsRow w1.heap.size 65 2 (.slice av3 (n + 1) cv3) (n + 1) (flat (n + 1) (chCells (ins D k d) (ins P k zs) (ins A k a2) (ins C k c2)))) := by rw [ins_flat D P A C hm d zs a2 c2]; exact O4.out
          have RD5 : Hid (RdC w4 av3 (ins D k d) (ins P k zs) (n + 1)) := RdC.of_rows O5.out (fun i hi => by
            by_cases e1 : i < k
            · simp only [ins, if_pos e1]; exact (HA.out i (by omega)).2.1.below BB4.out
            · by_cases e2 : i = k
              · simp only [ins, if_neg e1, if_pos e2]; exact HR.out.below BB4.out
              · simp only [ins, if_neg e1, if_neg e2]; exact (HA.out (i - 1) (by omega)).2.1.below BB4.out)
          have HP5 : Hid (∀ i, i < n + 1 → 0 < (ins P k zs i).length ∧ (ins P k zs i).length ≤ 1048576) := fun i hi => by
            by_cases e1 : i < k
            · simp only [ins, if_pos e1]; exact HP.out i (by omega)
            · by_cases e2 : i = k
              · simp only [ins, if_neg e1, if_pos e2]; exact hz
              · simp only [ins, if_neg e1, if_neg e2]; exact HP.out (i - 1) (by omega)
          clear O5 O4 O3 BB3 BB2 OWN1 NEWS1 NEWS2
          go_wp2_with fail
          refine (l2Copy_any av3 cv3 (n + 1) _ _ w4 RD5.out (by omega) HP5.out).mono ?_
          rintro e w5 ⟨av5, cv5, rfl, hG, hb⟩
          have HG := hide (hG.mono BB4.out.size)
          have HB := hide (below_next BB4.out hb)
          clear hG hb
          go_wp2_with fail
          exact bodyPost_ret (v := .tuple #[.slice av5 (n + 1) cv5, .bool true]) (by simp [results, Tryz.results84, go_sem]) rfl ⟨av5, cv5, rfl, HG.out, HB.out⟩
        · have hckf : ¬ c = k := hck
          go_wp2_with (first | (at_builtin; refine wpList_append_N rfl (.tmp 34) (.tmp 37) 26 rfl w1.heap.size 65 i1 (.agg #[.int .i64 0, .slice none 0 0]) 2 32 Tryz.underlying26 ki kz0 kz1 kz2 rfl (by decide) (.slice (some ⟨w1.heap.size, 0, none⟩) 0 0) 0 [] rfl OWN0.out ⟨b, off, none⟩ k c (flat k (chCells D P A C)) rfl HFl NEWS0.out (flat_one _ _ _ _ _) k (by simp) hm0 hm0' (by simp) ?_; intro av cv w2 hown2 hk2; have O2 := hide hown2; have K2 := hide hk2; clear hown2 hk2) | fail)
          have BB2 := hide ((below_alloc w1 (.cells #[] 65)).trans (K2.out.below (by simp) (fun q hq hS => by simp [Value.ownBlock] at hS; omega)))
          have OWN1 : Hid ((w2.alloc (.cells #[.int .i64 d, .slice a2 zs.length c2] 65)).drew.ownsRow w1.heap.size 65 2 (.slice av k cv) k ([] ++ flat k (chCells D P A C))) := ownsRow_below O2.out (below_alloc _ _).drew
          have NEWS1 : Hid (∀ j u, [Value.int .i64 d, .slice a2 zs.length c2][j]? = some u → (w2.alloc (.cells #[.int .i64 d, .slice a2 zs.length c2] 65)).drew.cell? ((⟨w2.heap.size, 0, none⟩ : Addr).add j) = some u) := news_two (t := 65) rfl
          have NEWS2 : Hid (∀ w3 : World, Below w1.heap.size w1 w3 → ∀ j u, ((flat n (chCells D P A C)).drop (k * 2))[j]? = some u → w3.cell? ((⟨b, off + k * 2, none⟩ : Addr).add j) = some u) := fun w3 hb3 => rdC_news (n := n) (fun i hi => ⟨(hb3.cell (p := ⟨b, off + i * 2, none⟩) (HA.out i hi).2.2).trans (HA.out i hi).1.1, (hb3.cell (p := ⟨b, off + i * 2 + 1, none⟩) (HA.out i hi).2.2).trans (HA.out i hi).1.2⟩) k
          have hs2 := BB2.out.size
          have hnl : ((flat n (chCells D P A C)).drop (k * 2)).length = (n - k) * 2 := by rw [List.length_drop, HFn]; omega
          have hk1' : k + 1 + (n - k) = n + 1 := by omega
          have hm1 : k + 1 ≤ maxLen := by unfold maxLen; omega
          have hm1' : (k + 1) * 32 ≤ 140737488355328 := by omega
          have hm2 : k + 1 + (n - k) ≤ maxLen := by unfold maxLen; omega
          have hm2' : (k + 1 + (n - k)) * 32 ≤ 140737488355328 := by omega
          have hk0 : (0 : Int) ≤ (k : Int) := by omega
          have HON := hide (fun u (hu : u ∈ (flat n (chCells D P A C)).drop (k * 2)) => flat_one n D P A C u (List.mem_of_mem_drop hu))
          go_region_held3 (fun _ => True) (trivial)
            ((first
              | (refine step_append_own (by rfl) (.tmp 39) (.tmp 43) 26 (by rfl) w1.heap.size 65 i1 (.agg #[.int .i64 0, .slice none 0 0]) 2 32 Tryz.underlying26 ki kz0 kz1 kz2 rfl (by decide) (.slice av k cv) k ([] ++ flat k (chCells D P A C)) (by rfl) OWN1.out ⟨w2.heap.size, 0, none⟩ 1 1 [.int .i64 d, .slice a2 zs.length c2] (by rfl) (by rfl) NEWS1.out (by intro u hu; simp at hu; rcases hu with rfl | rfl <;> rfl) (k + 1) rfl hm1 hm1' (by simp; omega) ?_; intro av2 cv2 w3 hown3 hk3; have O3 := hide hown3; have BB3 := hide (BB2.out.trans ((((Kept.refl (fun x => (Value.slice av k cv).ownBlock = some x) w2).alloc _).drew.trans hk3).below hs2 (fun q hq hS => by have := (O2.out.lt q hS).1; omega))); clear hown3 hk3)
              | (refine step_append_own (by rfl) (.tmp 44) (.tmp 47) 26 (by rfl) w1.heap.size 65 i1 (.agg #[.int .i64 0, .slice none 0 0]) 2 32 Tryz.underlying26 ki kz0 kz1 kz2 rfl (by decide) (.slice av2 (k + 1) cv2) (k + 1) (([] ++ flat k (chCells D P A C)) ++ [.int .i64 d, .slice a2 zs.length c2]) (by rfl) O3.out ⟨b, off + k * 2, none⟩ (n - k) (c - k) ((flat n (chCells D P A C)).drop (k * 2)) (by rfl) hnl (NEWS2.out w3 BB3.out) HON.out (n + 1) hk1' hm2 hm2' BB3.out.size ?_; intro av3 cv3 w4 hown4 hk4; have O4 := hide hown4; have BB4 := hide (BB3.out.trans (hk4.below BB3.out.size (fun q hq hS => by have := (O3.out.lt q hS).1; omega))); clear hown4 hk4)))
          have O5 : Hid (w4.ownsRow w1.heap.size 65 2 (.slice av3 (n + 1) cv3) (n + 1) (flat (n + 1) (chCells (ins D k d) (ins P k zs) (ins A k a2) (ins C k c2)))) := by rw [ins_flat D P A C hm d zs a2 c2]; exact O4.out
          have RD5 : Hid (RdC w4 av3 (ins D k d) (ins P k zs) (n + 1)) := RdC.of_rows O5.out (fun i hi => by
            by_cases e1 : i < k
            · simp only [ins, if_pos e1]; exact (HA.out i (by omega)).2.1.below BB4.out
            · by_cases e2 : i = k
              · simp only [ins, if_neg e1, if_pos e2]; exact HR.out.below BB4.out
              · simp only [ins, if_neg e1, if_neg e2]; exact (HA.out (i - 1) (by omega)).2.1.below BB4.out)
          have HP5 : Hid (∀ i, i < n + 1 → 0 < (ins P k zs i).length ∧ (ins P k zs i).length ≤ 1048576) := fun i hi => by
            by_cases e1 : i < k
            · simp only [ins, if_pos e1]; exact HP.out i (by omega)
            · by_cases e2 : i = k
              · simp only [ins, if_neg e1, if_pos e2]; exact hz
              · simp only [ins, if_neg e1, if_neg e2]; exact HP.out (i - 1) (by omega)
          clear O5 O4 O3 BB3 BB2 OWN1 NEWS1 NEWS2
          go_wp2_with fail
          refine (l2Copy_any av3 cv3 (n + 1) _ _ w4 RD5.out (by omega) HP5.out).mono ?_
          rintro e w5 ⟨av5, cv5, rfl, hG, hb⟩
          have HG := hide (hG.mono BB4.out.size)
          have HB := hide (below_next BB4.out hb)
          clear hG hb
          go_wp2_with fail
          exact bodyPost_ret (v := .tuple #[.slice av5 (n + 1) cv5, .bool true]) (by simp [results, Tryz.results84, go_sem]) rfl ⟨av5, cv5, rfl, HG.out, HB.out⟩

end Go.Proofs.YtejfcapocikjmaaGreatDoor

namespace Go.Proofs.YtejfcapocikjmaaGreatDoor
open Go.RowKit Go.Maps
set_option linter.unusedVariables false


theorem pairwise_lst {D : Nat → Int} {P : Nat → List Int} {n : Nat} (h : ∀ i j, i < j → j < n → D i < D j) : (lst D P n).Pairwise (fun p q => p.1 < q.1) := by
  unfold lst
  refine List.pairwise_map.2 ((List.pairwise_lt_range (n := n)).imp_of_mem fun {i j} hi hj hij => h i j hij (List.mem_range.1 hj))
theorem ins_up {D : Nat → Int} {P : Nat → List Int} {n m : Nat} (hR : RightC D P n) (hm : m ≤ n) {d : Int} (hlow : ∀ i, i < m → D i < d) (hhigh : m < n → ¬ D m < d) (hd : ∀ i, i < n → D i ≠ d) : ∀ i j, i < j → j < n + 1 → ins D m d i < ins D m d j := by
  have hup : ∀ i, m ≤ i → i < n → d < D i := fun i h1 h2 => by
    have h3 := hhigh (by omega)
    have h4 := hd m (by omega)
    by_cases e : i = m
    · subst e; omega
    · have := hR.inj m i (by omega) h2
      omega
  intro i j hij hj
  unfold ins
  by_cases h1 : i < m
  · rw [if_pos h1]
    by_cases h2 : j < m
    · rw [if_pos h2]; exact hR.inj i j hij (by omega)
    · rw [if_neg h2]
      by_cases h3 : j = m
      · rw [if_pos h3]; exact hlow i h1
      · rw [if_neg h3]; exact hR.inj i (j - 1) (by omega) (by omega)
  · rw [if_neg h1]
    have h2 : ¬ j < m := by omega
    have h3 : ¬ j = m := by omega
    rw [if_neg h2, if_neg h3]
    by_cases h4 : i = m
    · rw [if_pos h4]; exact hup (j - 1) (by omega) (by omega)
    · rw [if_neg h4]; exact hR.inj (i - 1) (j - 1) (by omega) (by omega)
theorem dg_lst {D : Nat → Int} {P : Nat → List Int} {n i : Nat} (hi : i < n) : dg (lst D P n) i = D i := by simp [dg, lst, List.getD_eq_getElem?_getD, hi]
theorem bt_lst {D : Nat → Int} {P : Nat → List Int} {n i : Nat} (hi : i < n) : bt (lst D P n) i = P i := by simp [bt, lst, List.getD_eq_getElem?_getD, hi]
theorem place {D : Nat → Int} (d : Int) : ∀ n : Nat, ∃ m, m ≤ n ∧ (∀ i, i < m → D i < d) ∧ (m < n → ¬ D m < d)
  | 0 => ⟨0, Nat.le_refl _, fun i hi => absurd hi (by omega), fun h => absurd h (by omega)⟩
  | n + 1 => by
    obtain ⟨m, h1, h2, h3⟩ := place (D := D) d n
    by_cases e : m < n
    · exact ⟨m, by omega, h2, fun _ => h3 e⟩
    · have hmn : m = n := by omega
      subst hmn
      by_cases hp : D m < d
      · exact ⟨m + 1, Nat.le_refl _, fun j hj => by
          by_cases ej : j = m
          · subst ej; exact hp
          · exact h2 j (by omega), fun h => absurd h (by omega)⟩
      · exact ⟨m, by omega, h2, fun _ => hp⟩




end Go.Proofs.YtejfcapocikjmaaGreatDoor

namespace Go.Proofs.YtejfcapocikjmaaGreatDoor
open Go.RowKit Go.Maps
set_option linter.unusedVariables false

def ResF (q : Int) (W : List Wn) (F : List Int) (D : Nat → Int) (P : Nat → List Int) (n : Nat) (w : World) (r : Ending) (w' : World) : Prop :=
  ∃ wa wc fa fc ca cc, r = .returned (.agg #[.int .i64 q, .slice wa W.length wc, .slice fa F.length fc, .slice ca n cc]) ∧ OwnW w.heap.size w' (.slice wa W.length wc) W ∧ w'.ownsRow w.heap.size 2 1 (.slice fa F.length fc) F.length (F.map (Value.int .i64)) ∧ GC w.heap.size w'.heap.size w' (.slice ca n cc) D P n ∧ Below w.heap.size w w'
theorem ResF.bad {q : Int} {D : Nat → Int} {P : Nat → List Int} {w w' : World} (h : Below w.heap.size w w') : ResF q [] [] D P 0 w (.returned (.agg #[.int .i64 q, .slice none 0 0, .slice none 0 0, .slice none 0 0])) w' := ⟨none, 0, none, 0, none, 0, rfl, OwnW.nil _ _, World.ownsRow_nil _ _ _ _, GC.nil _ _ _ _ _, h⟩
theorem ResF.box {q : Int} {W : List Wn} {F : List Int} {D : Nat → Int} {P : Nat → List Int} {n : Nat} {w w2 : World} {B b : Nat} {wa fa ca : Option Addr} {wc fc cc : Nat} {u0 u1 u2 u3 : Value} (hW : OwnW B w2 (.slice wa W.length wc) W) (hF : w2.ownsRow B 2 1 (.slice fa F.length fc) F.length (F.map (Value.int .i64))) (hG : GC B w2.heap.size w2 (.slice ca n cc) D P n) (hb : Below w.heap.size w w2) (hw : w.heap.size ≤ b) (hB : b < B) :
    ResF q W F D P n w (.returned (.agg #[.int .i64 q, .slice wa W.length wc, .slice fa F.length fc, .slice ca n cc])) ((((w2.setCell ⟨b, 0, none⟩ u0).setCell ⟨b, 1, none⟩ u1).setCell ⟨b, 2, none⟩ u2).setCell ⟨b, 3, none⟩ u3) := by
  have hk := Kept.fourF w2 b u0 u1 u2 u3
  have hz : ((((w2.setCell ⟨b, 0, none⟩ u0).setCell ⟨b, 1, none⟩ u1).setCell ⟨b, 2, none⟩ u2).setCell ⟨b, 3, none⟩ u3).heap.size = w2.heap.size := by simp [World.setCell]
  refine ⟨wa, wc, fa, fc, ca, cc, rfl, (hW.kept hk (fun x hx e => by omega)).mono (by omega), ownsRow_mono (ownsRow_kept hF hk (fun x hx e => by have := (hF.lt x hx).1; omega)) (by omega), ?_, hb.trans (hk.below (B := w.heap.size) hb.size (fun k hk e => by omega))⟩
  rw [hz]
  exact (hG.kept hk (fun x h1 h2 e => by omega)).mono (by omega)
theorem up_right {D : Nat → Int} {P : Nat → List Int} {n : Nat} (h : RightC D P n) : up (lst D P n) = lst D P n := by
  have hp := pairwise_lst (P := P) h.inj
  have hnd : ((lst D P n).map Prod.fst).Nodup := by
    rw [List.nodup_iff_pairwise_ne, List.pairwise_map]
    exact hp.imp (fun h e => by omega)
  exact up_unique (up_perm hnd) (up_up hnd) hp
theorem gc_right {D : Nat → Int} {P : Nat → List Int} {n B T : Nat} {w : World} {v : Value} (h : RightC D P n) (hG : GC B T w v (dg (up (lst D P n))) (bt (up (lst D P n))) n) : GC B T w v D P n := by
  rw [up_right h] at hG
  exact hG.congr (fun i hi => (dg_lst hi).symm) (fun i hi => (bt_lst hi).symm)
theorem lst_small {D : Nat → Int} {P : Nat → List Int} {n : Nat} (h : RightC D P n) : ∀ p ∈ lst D P n, 0 < p.2.length ∧ p.2.length ≤ 1048576 := by
  intro p hp
  obtain ⟨i, hi, rfl⟩ := lst_mem.1 hp
  exact h.u8len hi
end Go.Proofs.YtejfcapocikjmaaGreatDoor

namespace Go.Proofs.YtejfcapocikjmaaGreatDoor
open Go.RowKit Go.Maps
set_option linter.unusedVariables false

structure NowF (B fb : Nat) (w : World) (W : List Wn) (F : List Int) (L : List Ch) (wa : Option Addr) (wk : Nat) (ps : List Nat) (fa : Option Addr) (fc bm N : Nat) : Prop where
  box : Bx3 w fb (.slice wa W.length wk) (.slice fa F.length fc) (.map (some bm))
  wants : OwnP (fb + 1) w (.slice wa W.length wk) ps W
  failed : w.ownsRow B 2 1 (.slice fa F.length fc) F.length (F.map (Value.int .i64))
  ahead : ∀ b, (Value.slice fa F.length fc).ownBlock = some b → b < fb
  held : Holds w bm N L B
  low : B ≤ bm
  high : bm < fb
  room : N ≤ 1048576
theorem NowF.below {B fb : Nat} {w w' : World} {W : List Wn} {F : List Int} {L : List Ch} {wa : Option Addr} {wk : Nat} {ps : List Nat} {fa : Option Addr} {fc bm N : Nat} (h : NowF B fb w W F L wa wk ps fa fc bm N) (hb : Below w.heap.size w w') : NowF B fb w' W F L wa wk ps fa fc bm N :=
  ⟨h.box.below hb, h.wants.below hb, ownsRow_below h.failed hb, h.ahead, h.held.below hb, h.low, h.high, h.room⟩
set_option maxRecDepth 100000 in
set_option maxHeartbeats 1600000 in
theorem ask_failed (B fb : Nat) (W : List Wn) (F : List Int) (L : List Ch) (wa : Option Addr) (wk : Nat) (ps : List Nat) (fa : Option Addr) (fc bm N : Nat) (d : Int) (w : World) (h : NowF B fb w W F L wa wk ps fa fc bm N) (hFl : F.length ≤ 1048576) (hd : d ∈ F) :
    Calls Tryz.prog 31 #[.pointer (some ⟨fb, 0, none⟩), .int .i64 d] w fun e w' => e = .returned (.iface 97 (.agg #[.int .i64 d])) ∧ w' = w := by
  have HCn := hide (slContains_any fa fc F d w (ownsRow_own h.failed rfl).reads hFl)
  rw [show F.contains d = true by simpa using hd] at HCn
  obtain ⟨⟨x0, x1, x2⟩, x3, x4, x5⟩ := h.box
  clear h hd
  go_enter Tryz.func31, Tryz.ntmps31
  go_wp2_with fail
  refine HCn.out.mono ?_
  rintro e w ⟨rfl, rfl⟩
  go_wp2_with fail
  go_ret
  exact ⟨rfl, rfl⟩
set_option maxRecDepth 100000 in
set_option maxHeartbeats 1600000 in
theorem ask_known (B fb : Nat) (W : List Wn) (F : List Int) (L : List Ch) (wa : Option Addr) (wk : Nat) (ps : List Nat) (fa : Option Addr) (fc bm N : Nat) (d : Int) (w : World) (h : NowF B fb w W F L wa wk ps fa fc bm N) (hWl : W.length ≤ 1048576) (hFl : F.length ≤ 1048576) (hok : okD d) (hd : d ∉ F) (hk : d ∈ L.map Prod.fst ∨ d ∈ W.map Prod.fst) :
    Calls Tryz.prog 31 #[.pointer (some ⟨fb, 0, none⟩), .int .i64 d] w fun e w' => e = .returned .nilIface ∧ Below w.heap.size w w' := by
  have HCn := hide (slContains_any fa fc F d w (ownsRow_own h.failed rfl).reads hFl)
  rw [show F.contains d = false by simpa using hd] at HCn
  have HKn := hide (knows_any fb wa wk ps W fa fc F bm N B L d w h.box.1.1 h.box.1.2.1 h.box.1.2.2 h.wants.rd (ownsRow_own h.failed rfl).reads h.held hWl hFl (okD_wf hok))
  rw [decide_eq_true (show d ∈ L.map Prod.fst ∨ d ∈ F ∨ d ∈ W.map Prod.fst from hk.elim Or.inl (fun h => Or.inr (Or.inr h)))] at HKn
  obtain ⟨⟨x0, x1, x2⟩, x3, x4, x5⟩ := h.box
  clear h hd hk hok
  go_enter Tryz.func31, Tryz.ntmps31
  go_wp2_with fail
  refine HCn.out.mono ?_
  rintro e w ⟨rfl, rfl⟩
  go_wp2_with fail
  refine HKn.out.mono ?_
  rintro e w1 ⟨rfl, hb1⟩
  have B1 := hide hb1
  clear hb1
  go_wp2_with fail
  go_ret
  exact ⟨rfl, B1.out⟩
set_option maxRecDepth 100000 in
set_option maxHeartbeats 1600000 in
theorem ask_full (B fb : Nat) (W : List Wn) (F : List Int) (L : List Ch) (wa : Option Addr) (wk : Nat) (ps : List Nat) (fa : Option Addr) (fc bm N : Nat) (d : Int) (a0 a1 : Addr) (w : World) (hg : Ge w a0 a1) (h : NowF B fb w W F L wa wk ps fa fc bm N) (hWl : W.length ≤ 1048576) (hFl : F.length ≤ 1048576) (hok : okD d) (hd : d ∉ F) (hk : ¬ (d ∈ L.map Prod.fst ∨ d ∈ W.map Prod.fst)) (hfull : 12 ≤ W.length) :
    Calls Tryz.prog 31 #[.pointer (some ⟨fb, 0, none⟩), .int .i64 d] w fun e w' => e = .returned (.iface 221 (.pointer (some a1))) ∧ Below w.heap.size w w' := by
  have HCn := hide (slContains_any fa fc F d w (ownsRow_own h.failed rfl).reads hFl)
  rw [show F.contains d = false by simpa using hd] at HCn
  have HKn := hide (knows_any fb wa wk ps W fa fc F bm N B L d w h.box.1.1 h.box.1.2.1 h.box.1.2.2 h.wants.rd (ownsRow_own h.failed rfl).reads h.held hWl hFl (okD_wf hok))
  rw [decide_eq_false (show ¬ (d ∈ L.map Prod.fst ∨ d ∈ F ∨ d ∈ W.map Prod.fst) from fun h => h.elim (fun h => hk (Or.inl h)) (fun h => h.elim hd (fun h => hk (Or.inr h))))] at HKn
  have HG := hide hg
  have HB := hide h.box
  obtain ⟨⟨x0, x1, x2⟩, x3, x4, x5⟩ := h.box
  have h12 : (12 : Int) ≤ (W.length : Int) := by omega
  clear h hd hk hok hg
  go_enter Tryz.func31, Tryz.ntmps31
  go_wp2_with fail
  refine HCn.out.mono ?_
  rintro e w ⟨rfl, rfl⟩
  go_wp2_with fail
  clear x0 x1 x2 x3 x4 x5
  refine HKn.out.mono ?_
  rintro e w1 ⟨rfl, hb1⟩
  have B1 := hide hb1
  have g1 := (HG.out.below hb1).e1
  obtain ⟨⟨x0, x1, x2⟩, x3, x4, x5⟩ := HB.out.below hb1
  clear hb1
  go_wp2_with fail
  go_ret
  exact ⟨rfl, B1.out⟩
set_option maxRecDepth 100000 in
set_option maxHeartbeats 3200000 in
theorem ask_new (B fb : Nat) (W : List Wn) (F : List Int) (L : List Ch) (wa : Option Addr) (wk : Nat) (ps : List Nat) (fa : Option Addr) (fc bm N : Nat) (d : Int) (w : World) (h : NowF B fb w W F L wa wk ps fa fc bm N) (hB : B ≤ fb) (hFl : F.length ≤ 1048576) (hok : okD d) (hd : d ∉ F) (hk : ¬ (d ∈ L.map Prod.fst ∨ d ∈ W.map Prod.fst)) (hfull : ¬ 12 ≤ W.length) :
    Calls Tryz.prog 31 #[.pointer (some ⟨fb, 0, none⟩), .int .i64 d] w fun e w' => e = .returned .nilIface ∧ (∃ wa' wk' p, NowF B fb w' (W ++ [(d, 0)]) F L wa' wk' (ps ++ [p]) fa fc bm N) ∧ Below fb w w' := by
  obtain ⟨i1, ki, kz0, kz1, kz2⟩ := info_parts Tryz.infoPW
  have HCn := hide (slContains_any fa fc F d w (ownsRow_own h.failed rfl).reads hFl)
  rw [show F.contains d = false by simpa using hd] at HCn
  have HKn := hide (knows_any fb wa wk ps W fa fc F bm N B L d w h.box.1.1 h.box.1.2.1 h.box.1.2.2 h.wants.rd (ownsRow_own h.failed rfl).reads h.held (by omega) hFl (okD_wf hok))
  rw [decide_eq_false (show ¬ (d ∈ L.map Prod.fst ∨ d ∈ F ∨ d ∈ W.map Prod.fst) from fun h => h.elim (fun h => hk (Or.inl h)) (fun h => h.elim hd (fun h => hk (Or.inr h))))] at HKn
  have HN := hide h
  obtain ⟨⟨x0, x1, x2⟩, x3, x4, x5⟩ := h.box
  have h12 : ¬ (12 : Int) ≤ (W.length : Int) := by omega
  have hm1 : W.length + 1 ≤ maxLen := by unfold maxLen; omega
  have hm2 : (W.length + 1) * 8 ≤ 140737488355328 := by omega
  clear h hd hk hok
  go_enter Tryz.func31, Tryz.ntmps31
  go_wp2_with fail
  refine HCn.out.mono ?_
  rintro e w ⟨rfl, rfl⟩
  go_wp2_with fail
  clear x0 x1 x2 x3 x4 x5
  refine HKn.out.mono ?_
  rintro e w1 ⟨rfl, hb1⟩
  have B1 := hide hb1
  have N1 := hide (HN.out.below hb1)
  have hfl := HN.out.box.lt
  have hz1 := hb1.size
  clear hb1 HKn HCn HN
  have A1 := hide (below_alloc w1 (.cells #[.int .i64 d, .int .i64 0] 78))
  have P1 := hide (Box.new w1 (.int .i64 d) (.int .i64 0) 78)
  have N2 := hide (N1.out.below A1.out)
  have R2 := hide N2.out.wants.row
  obtain ⟨⟨x0, x1, x2⟩, x3, x4, x5⟩ := N1.out.box
  obtain ⟨⟨z0, z1, z2⟩, z3, z4, z5⟩ := N2.out.box
  have hsz : fb + 1 ≤ (w1.alloc (.cells #[.int .i64 d, .int .i64 0] 78)).heap.size := by simp; omega
  go_wp2_with (at_builtin; refine wpList_append_at rfl (.tmp 28) (.tmp 32) 82 rfl (fb + 1) 85 i1 (.pointer none) 1 8 Tryz.underlying82 ki kz0 kz1 kz2 rfl (by decide) _ _ _ rfl R2.out (w1.heap.size + 1) (by simp) rfl rfl (by intro u hu; simp at hu; subst hu; rfl) hm1 hm2 hsz ?_; intro v' w3 hrow3 hk3; obtain ⟨a', c', rfl⟩ := ownsRow_shape hrow3; have O3 := hide hrow3; have K3 := hide hk3; have X3 := hide (N2.out.box.kept hk3 (fun e => by have := (R2.out.lt _ e).1; omega)); clear hrow3 hk3; obtain ⟨⟨y0, y1, y2⟩, y3, y4, y5⟩ := X3.out)
  go_ret
  have hown : ∀ b, (Value.slice wa W.length wk).ownBlock = some b → fb + 1 ≤ b ∧ b < w1.heap.size := fun b hb => N1.out.wants.row.lt b hb
  have OP3 := N2.out.wants.push (p := w1.heap.size) P1.out (by omega) (fun i hi e => by
    have h1 := (N1.out.wants.box i hi).2.1.lt
    omega) O3.out K3.out (fun b hb e => by have := hown b hb; omega)
  have hk4 := Kept.one w3 fb 0 (.slice a' (W.length + 1) c')
  refine ⟨rfl, ⟨a', c', w1.heap.size, ?_, ?_, ?_, N1.out.ahead, ?_, N1.out.low, N1.out.high, N1.out.room⟩, ?_⟩
  · have := X3.out.set0 (.slice a' (W.length + 1) c')
    simpa using this
  · have := OP3.kept hk4 (fun b hb e => by omega)
    simpa using this
  · refine ownsRow_kept (ownsRow_kept N2.out.failed K3.out (fun b hb e => ?_)) hk4 (fun b hb e => ?_)
    · have h1 := N1.out.ahead b hb
      have h2 := hown b e
      omega
    · have h1 := N1.out.ahead b hb
      omega
  · refine (N2.out.held.kept K3.out (fun e => ?_) (fun x hx => ?_)).kept hk4 (fun e => ?_) (fun x hx => ?_)
    · have h1 := hown _ e
      have h2 := N1.out.high
      omega
    · have h1 := hown _ hx
      omega
    · have h2 := N1.out.high
      omega
    · omega
  · have hb2 : Below fb w (w1.alloc (.cells #[.int .i64 d, .int .i64 0] 78)) := (below_next B1.out A1.out).mono (by omega)
    exact (hb2.trans (K3.out.below (B := fb) (by simp; omega) (fun j hj e => by have := hown _ e; omega))).setCell (Nat.le_refl _) _
end Go.Proofs.YtejfcapocikjmaaGreatDoor

namespace Go.Proofs.YtejfcapocikjmaaGreatDoor
open Go.RowKit Go.Maps
set_option linter.unusedVariables false

theorem below_drewN {B : Nat} {w w' : World} (h : Below B w w') : ∀ n, Below B w (w'.drewN n)
  | 0 => h
  | n + 1 => (below_drewN h n).drew
end Go.Proofs.YtejfcapocikjmaaGreatDoor

namespace Go.Proofs.YtejfcapocikjmaaGreatDoor
open Go.RowKit Go.Maps
set_option linter.unusedVariables false

theorem getD_set {α : Type} (l : List α) (z x : α) {i j : Nat} (hi : i < l.length) : (l.set i x).getD j z = if j = i then x else l.getD j z := by
  rw [List.getD_eq_getElem?_getD, List.getElem?_set, List.getD_eq_getElem?_getD]
  by_cases h : i = j
  · subst h; simp [hi]
  · rw [if_neg h, if_neg (fun e => h e.symm)]
end Go.Proofs.YtejfcapocikjmaaGreatDoor

