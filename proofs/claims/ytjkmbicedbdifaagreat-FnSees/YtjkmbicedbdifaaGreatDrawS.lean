/-
  The model's source of draws, of which at most so many have been taken; names.
-/
import Derived.Test.YtjkmbicedbdifaaGreatDrawP
namespace Go.Proofs.YtjkmbicedbdifaaGreat
open Go.RowKit Go.Maps
set_option linter.unusedVariables false

/-- Block p is a source over the bytes zs, of which T have been read at most. -/
def SrcX (w : World) (p : Nat) (zs : List Int) (T : Int) : Prop := ∃ t, 0 ≤ t ∧ t ≤ T ∧ Src w p zs t
theorem SrcX.kept {S : Nat → Prop} {w w' : World} {p : Nat} {zs : List Int} {T : Int} (h : SrcX w p zs T) (hk : Kept S w w') (hS : ∀ b, b ≤ p → ¬ S b) : SrcX w' p zs T := by
  obtain ⟨t, h0, h1, hs⟩ := h
  exact ⟨t, h0, h1, hs.kept hk hS⟩
theorem SrcX.below {w w' : World} {p : Nat} {zs : List Int} {T : Int} (h : SrcX w p zs T) (hk : Below w.heap.size w w') : SrcX w' p zs T := by
  obtain ⟨t, h0, h1, hs⟩ := h
  exact ⟨t, h0, h1, hs.below hk⟩
theorem SrcX.lt {w : World} {p : Nat} {zs : List Int} {T : Int} (h : SrcX w p zs T) : p < w.heap.size := by
  obtain ⟨t, _, _, hs⟩ := h
  exact hs.lt
theorem SrcX.mono {w : World} {p : Nat} {zs : List Int} {T T' : Int} (h : SrcX w p zs T) (hT : T ≤ T') : SrcX w p zs T' := by
  obtain ⟨t, h0, h1, hs⟩ := h
  exact ⟨t, h0, by omega, hs⟩
/-- What the source's steps turn. -/
def KeptP (p : Nat) (w w' : World) : Prop := Kept (fun b => b = p) w w'

theorem next_e (p : Nat) (zs : List Int) (T n : Int) (w : World) (h : SrcX w p zs T) (hu : U8 zs) (hT : T ≤ 1000000) (hn0 : 1 ≤ n) (hn1 : n ≤ 1000) (hl : zs.length ≤ 2097152) :
    Calls Tryz.prog 58 #[.pointer (some ⟨p, 0, none⟩), .int .i64 n] w fun e w' => ∃ r : Nat, e = .returned (.int .i64 r) ∧ (r : Int) < n ∧ SrcX w' p zs (T + 1) ∧ Kept (fun b => b = p) w w' := by
  obtain ⟨t, h0, h1, hs⟩ := h
  refine (l1Next_big p zs t n w hs hu h0 (by omega) hn0 (by omega) hl).mono ?_
  rintro e w' ⟨r, rfl, r0, r1, s1, k1⟩
  exact ⟨r.toNat, by rw [Int.toNat_of_nonneg r0], by omega, ⟨t + 1, by omega, by omega, s1⟩, k1⟩
theorem pick_e (p g c m : Nat) (vs : List Int) (zs : List Int) (T : Int) (w : World) (h : SrcX w p zs T) (hu : U8 zs) (hT : T ≤ 1000000) (hl : zs.length ≤ 2097152)
    (hm0 : 0 < m) (hm1 : m ≤ 1000) (hm : m = vs.length) (hg : g ≠ p) (hgl : g < w.heap.size) (hc : ∀ i, i < m → w.cell? ⟨g, i, none⟩ = some (.int .i64 (vs.getD i 0))) :
    Calls Tryz.prog 56 #[.pointer (some ⟨p, 0, none⟩), .slice (some ⟨g, 0, none⟩) m c] w fun e w' => ∃ v, v ∈ vs ∧ e = .returned (.int .i64 v) ∧ SrcX w' p zs (T + 1) ∧ Kept (fun b => b = p) w w' := by
  obtain ⟨t, h0, h1, hs⟩ := h
  refine (l1Pick_big p g c m vs zs t w hs hu h0 (by omega) hl hm0 hm1 hm hg hgl hc).mono ?_
  rintro e w' ⟨v, hv, rfl, s1, k1⟩
  exact ⟨v, hv, rfl, ⟨t + 1, by omega, by omega, s1⟩, k1⟩
theorem some_e (p : Nat) (n : Nat) (zs : List Int) (T : Int) (w : World) (h : SrcX w p zs T) (hu : U8 zs) (hT : T ≤ 1000000) (hl : zs.length ≤ 2097152) (hn : n ≤ 1000) :
    Calls Tryz.prog 128 #[.pointer (some ⟨p, 0, none⟩), .int .i64 n] w fun e w' => ∃ a c ds, e = .returned (.slice a n c) ∧ ds.length = n ∧ U8 ds ∧ w'.ownsRow w.heap.size 5 1 (.slice a n c) n (ds.map (Value.int .u8)) ∧ SrcX w' p zs (T + n) ∧ Kept (fun b => b = p) w w' := by
  have hp := h.lt
  obtain ⟨t, h0, h1, hs⟩ := h
  refine (l1Some_big p n zs t w hs hu h0 (by omega) hl (by omega) hp).mono ?_
  rintro e w' ⟨a, c, ds, rfl, hd, hu, ho, s1, k1⟩
  exact ⟨a, c, ds, rfl, hd, hu, ho, ⟨t + n, by omega, by omega, s1⟩, k1⟩
set_option maxHeartbeats 800000 in
theorem chance_e (p : Nat) (zs : List Int) (T n : Int) (w : World) (h : SrcX w p zs T) (hu : U8 zs) (hT : T ≤ 1000000) (hn0 : 1 ≤ n) (hn1 : n ≤ 1000) (hl : zs.length ≤ 2097152) :
    Calls Tryz.prog 82 #[.pointer (some ⟨p, 0, none⟩), .int .i64 n] w fun e w' => ∃ r : Bool, e = .returned (.bool r) ∧ SrcX w' p zs (T + 1) ∧ Kept (fun b => b = p) w w' := by
  have HS := hide h
  have HU := hide hu
  clear h hu
  go_enter Tryz.func82, Tryz.ntmps82
  go_wp2_with fail
  refine (next_e p zs T n _ HS.out HU.out hT hn0 hn1 hl).mono ?_
  rintro e w1 ⟨r, rfl, r1, s1, k1⟩
  have S1 := hide s1
  have K1 := hide k1
  clear s1 k1
  go_wp2_with fail
  go_ret
  exact ⟨_, rfl, S1.out, K1.out⟩

/-- A block of texts of which each is of Q. -/
def TextsQ (Q : Bs → Prop) (w : World) (g n : Nat) : Prop := g < w.heap.size ∧ ∀ i, i < n → ∃ x : Bs, w.cell? ⟨g, i, none⟩ = some (.string (str x)) ∧ Q x
theorem TextsQ.new {Q : Bs → Prop} {w : World} {t : TypeId} {vs : List Bs} (h : ∀ x ∈ vs, Q x) : TextsQ Q (w.alloc (.cells (vs.map vS).toArray t)) w.heap.size vs.length := by
  refine ⟨by simp, fun i hi => ⟨vs[i], ?_, h _ (List.getElem_mem hi)⟩⟩
  rw [cell_of_row _ w.heap.size i (vs.map vS).toArray t (0, 0) (heap_alloc_new w _)]
  simp [hi, vS]
theorem TextsQ.kept {Q : Bs → Prop} {S : Nat → Prop} {w w' : World} {g n : Nat} (h : TextsQ Q w g n) (hk : Kept S w w') (hn : ¬ S g) : TextsQ Q w' g n :=
  ⟨Nat.lt_of_lt_of_le h.1 hk.size, fun i hi => by obtain ⟨x, hx, hl⟩ := h.2 i hi; exact ⟨x, (hk.cell (p := ⟨g, i, none⟩) h.1 hn).trans hx, hl⟩⟩

set_option maxRecDepth 100000 in
set_option maxHeartbeats 800000 in
theorem name_e (p : Nat) (zs : List Int) (T : Int) (w : World) (h : SrcX w p zs T) (hu : U8 zs) (hT : T ≤ 1000000) (hl : zs.length ≤ 2097152) :
    Calls Tryz.prog 150 #[.pointer (some ⟨p, 0, none⟩)] w fun e w' => ∃ x : Bs, e = .returned (.string (str x)) ∧ (plain x = true ∧ x.length ≤ 2) ∧ SrcX w' p zs (T + 1) ∧ Kept (fun b => b = p) w w' := by
  have hp := h.lt
  have T0 := hide (TextsQ.new (Q := fun x => plain x = true ∧ x.length ≤ 2) (w := w) (t := 9) (vs := [[97], [98], [99], [97, 98]]) (by decide))
  have HS := hide (h.below (below_alloc w (.cells ([[97], [98], [99], [97, 98]].map vS).toArray 9)))
  have HU := hide hu
  clear h hu
  go_enter Tryz.func150, Tryz.ntmps150
  go_wp2_with fail
  refine (next_e p zs T 4 _ HS.out HU.out hT (by decide) (by decide) hl).mono ?_
  rintro e w1 ⟨i, rfl, r1, s1, k1⟩
  have T1 := hide (T0.out.kept k1 (by omega))
  have S1 := hide s1
  have K1 := hide (((Kept.refl (fun b => b = p) w).alloc (.cells ([[97], [98], [99], [97, 98]].map vS).toArray 9)).trans k1)
  clear s1 k1 T0 HS
  obtain ⟨x, hx, hxl⟩ := T1.out.2 i (by simp; omega)
  have hb := T1.out.1
  have HX := hide hxl
  clear hxl
  go_wp2_with fail
  go_ret
  exact ⟨x, rfl, HX.out, S1.out, K1.out⟩

end Go.Proofs.YtjkmbicedbdifaaGreat
