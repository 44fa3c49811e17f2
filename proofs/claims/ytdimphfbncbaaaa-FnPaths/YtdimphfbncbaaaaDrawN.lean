/-
  The model's draw of a text for NormPath: some text of a bounded length.
-/
import Derived.Test.YtdimphfbncbaaaaDrawP
import Derived.Test.YtdimphfbncbaaaaAnyInv
namespace Go.Proofs.Ytdimphfbncbaaaa
open Go.RowKit
set_option linter.unusedVariables false

/-- What operation i of the round leaves. -/
def FN (x : Bs) (p : Nat) (w : World) : Nat → Value → Prop
  | 0, v => v = .string (str x)
  | 1, v => ∃ g, v = .slice (some ⟨g, 0, none⟩) 4 4 ∧ p < g ∧ Texts w g 4 5
  | 2, v => v = .pointer (some ⟨p, 0, none⟩)
  | 3, v => ∃ k : Nat, v = .int .i64 k ∧ k < 4
  | 4, v => ∃ g j, v = .pointer (some ⟨g, j, none⟩) ∧ p < g ∧ g < w.heap.size ∧ ∃ y : Bs, w.cell? ⟨g, j, none⟩ = some (.string (str y)) ∧ y.length ≤ 5
  | 5, v => ∃ y : Bs, v = .string (str y) ∧ y.length ≤ 5
  | 6, v => ∃ y : Bs, v = .string (str y) ∧ y.length ≤ x.length + 5
  | 7, v => ∃ g, v = .slice (some ⟨g, 0, none⟩) 6 6 ∧ p < g ∧ Texts w g 6 5
  | 8, v => v = .pointer (some ⟨p, 0, none⟩)
  | 9, v => ∃ g, v = .slice (some ⟨g, 0, none⟩) 8 8 ∧ p < g ∧ g < w.heap.size ∧ ∀ i, i < 8 → w.cell? ⟨g, i, none⟩ = some (.int .i64 (([0, 1, 0, 1, 2, 3, 4, 5] : List Int).getD i 0))
  | 10, v => ∃ k : Nat, v = .int .i64 k ∧ k < 6
  | 11, v => ∃ g j, v = .pointer (some ⟨g, j, none⟩) ∧ p < g ∧ g < w.heap.size ∧ ∃ y : Bs, w.cell? ⟨g, j, none⟩ = some (.string (str y)) ∧ y.length ≤ 5
  | 12, v => ∃ y : Bs, v = .string (str y) ∧ y.length ≤ 5
  | _, v => ∃ y : Bs, v = .string (str y) ∧ y.length ≤ x.length + 10

theorem FN.kept {x : Bs} {p : Nat} {w w' : World} (hk : Kept (fun b => b = p) w w') : ∀ (i : Nat) (v : Value), FN x p w i v → FN x p w' i v
  | 0, v, h | 2, v, h | 3, v, h | 5, v, h | 6, v, h | 8, v, h | 10, v, h | 12, v, h | _ + 13, v, h => h
  | 1, v, h | 7, v, h => by obtain ⟨g, e, hp, ht⟩ := h; exact ⟨g, e, hp, ht.kept hk (by omega)⟩
  | 4, v, h | 11, v, h => by
    obtain ⟨g, j, e, hp, hg, y, hy, hl⟩ := h
    exact ⟨g, j, e, hp, Nat.lt_of_lt_of_le hg hk.size, y, (hk.cell (p := ⟨g, j, none⟩) hg (by show ¬ g = p; omega)).trans hy, hl⟩
  | 9, v, h => by
    obtain ⟨g, e, hp, hg, hc⟩ := h
    exact ⟨g, e, hp, Nat.lt_of_lt_of_le hg hk.size, fun i hi => (hk.cell (p := ⟨g, i, none⟩) hg (by show ¬ g = p; omega)).trans (hc i hi)⟩

def upd {α : Type} (f : Nat → α) (i : Nat) (v : α) : Nat → α := fun j => if j = i then v else f j
theorem upd_same {α : Type} (f : Nat → α) (i : Nat) (v : α) : upd f i v i = v := by simp [upd]
theorem upd_other {α : Type} (f : Nat → α) {i j : Nat} (v : α) (h : j ≠ i) : upd f i v j = f j := by simp [upd, h]

/-- The slots. -/
def TN (C : Nat → Value) (z : Value) (u : Nat → Value) : Array Value :=
  #[C 0, C 1, C 2, C 3, z, C 5, C 6, C 7, C 8, C 9, C 10, C 11, C 12, C 13, u 0, u 1, u 2, u 3, u 4, u 5, u 6, u 7, u 8, u 9, u 10, u 11, u 12, u 13, C 28, C 29, C 30, C 31, C 32]
def LN (b : Nat → Bool) : Array Bool := #[b 0, b 1, b 2, b 3, b 4, b 5, b 6, b 7, b 8, b 9, b 10, b 11, b 12, b 13, b 14]

theorem LN_getD (b : Nat → Bool) {i : Nat} {d : Bool} (h : i < 15) : (LN b).getD i d = b i := by
  rcases (show i = 0 ∨ i = 1 ∨ i = 2 ∨ i = 3 ∨ i = 4 ∨ i = 5 ∨ i = 6 ∨ i = 7 ∨ i = 8 ∨ i = 9 ∨ i = 10 ∨ i = 11 ∨ i = 12 ∨ i = 13 ∨ i = 14 by omega) with rfl | rfl | rfl | rfl | rfl | rfl | rfl | rfl | rfl | rfl | rfl | rfl | rfl | rfl | rfl <;> rfl
theorem cells8 (w : World) (a b c d e f g h : Int) (t : TypeId) : ∀ i, i < 8 → (w.alloc (.cells #[.int .i64 a, .int .i64 b, .int .i64 c, .int .i64 d, .int .i64 e, .int .i64 f, .int .i64 g, .int .i64 h] t)).cell? ⟨w.heap.size, i, none⟩ = some (.int .i64 ([a, b, c, d, e, f, g, h].getD i 0)) := by
  intro i hi
  match i, hi with
  | 0, _ | 1, _ | 2, _ | 3, _ | 4, _ | 5, _ | 6, _ | 7, _ => simp

/-- What holds between two operations. -/
structure IN (x : Bs) (p : Nat) (zs : List Int) (t : Int) (wr : World) (b : Nat → Bool) (u : Nat → Value) (w : World) : Prop where
  done : ∀ i, i < 14 → b i = true → FN x p w i (u i)
  src : ∃ s, 0 ≤ s ∧ s ≤ t + (if b 3 then 1 else 0) + (if b 10 then 1 else 0) ∧ Src w p zs s
  kept : Kept (fun q => q = p) wr w

theorem IN.next {x : Bs} {p : Nat} {zs : List Int} {t : Int} {wr w w' : World} {b : Nat → Bool} {u : Nat → Value} (h : IN x p zs t wr b u w) (i : Nat) (v : Value) (hk : Kept (fun q => q = p) w w') (hF : FN x p w' i v)
    (hs : ∃ s, 0 ≤ s ∧ s ≤ t + (if upd b i true 3 then 1 else 0) + (if upd b i true 10 then 1 else 0) ∧ Src w' p zs s) : IN x p zs t wr (upd b i true) (upd u i v) w' := by
  refine ⟨fun j hj hb => ?_, hs, h.kept.trans hk⟩
  by_cases e : j = i
  · subst e; rw [upd_same]; exact hF
  · rw [upd_other _ _ e] at hb ⊢; exact FN.kept hk j _ (h.done j hj hb)
/-- A step that draws nothing from the source. -/
theorem IN.step {x : Bs} {p : Nat} {zs : List Int} {t : Int} {wr w w' : World} {b : Nat → Bool} {u : Nat → Value} (h : IN x p zs t wr b u w) (i : Nat) (v : Value) (hk : Below w.heap.size w w') (hF : FN x p w' i v) (h3 : i ≠ 3) (h10 : i ≠ 10) : IN x p zs t wr (upd b i true) (upd u i v) w' := by
  refine h.next i v (Kept.of_below hk) hF ?_
  obtain ⟨s, s0, s1, hS⟩ := h.src
  rw [upd_other _ _ (Ne.symm h3), upd_other _ _ (Ne.symm h10)]
  exact ⟨s, s0, s1, hS.below hk⟩

set_option maxRecDepth 100000 in
set_option maxHeartbeats 1600000 in
theorem drawNormPath_any (a : Option Addr) (cap : Nat) (zs : List Int) (w : World) (h : Reads .u8 w a zs) (hu : U8 zs) (hl : zs.length ≤ 1048576) :
    Calls Try.prog 31 #[.slice a zs.length cap] w fun e w' => ∃ x : Bs, e = .returned (.string (str x)) ∧ x.length ≤ 100 ∧ Below w.heap.size w w' := by
  have HR := hide h
  have HU := hide hu
  clear h hu
  go_enter Try.func31, Try.ntmps31
  go_wp2_with fail
  refine (l1Source_any a cap zs _ HR.out).mono ?_
  rintro e w1 ⟨rfl, s1, z1, b1⟩
  have S1 := hide s1
  have B1 := hide b1
  clear s1 b1 z1
  go_wp2_with fail
  refine (l1Next_any w.heap.size zs _ 6 _ S1.out HU.out (by decide) (by decide) (by decide) (by decide) hl).mono ?_
  rintro e w2 ⟨r, rfl, r0, r1, s2, k2⟩
  have S2 := hide s2
  have B2 := hide (B1.out.trans (k2.below (B := w.heap.size) B1.out.size (fun b hb e => by omega)))
  clear s2 k2 S1 B1
  obtain ⟨k0, rfl⟩ : ∃ k : Nat, r = k := ⟨r.toNat, by omega⟩
  go_wp2_with fail
  go_loopw [4, 5] (fun o k wr => ∃ (x : Bs) (m : Nat) (t : Int), o = .string (str x) ∧ k = .int .i64 m ∧ m ≤ 5 ∧ x.length + 10 * m ≤ 50 ∧ 0 ≤ t ∧ t + 2 * m ≤ 11 ∧ Hid (Src wr w.heap.size zs t) ∧ Hid (Below w.heap.size w wr)) (fun _ k _ => (intOf k).toNat)
  case atStart => exact ⟨[], k0, 1, rfl, rfl, by omega, by simp; omega, by decide, by omega, S2, B2⟩
  case round =>
    obtain ⟨x, m, t, rfl, rfl, hm5, hxl, ht0, ht1, HS, HB⟩ := hrel
    by_cases hm : 0 < m
    · have hm' : (0 : Int) < (m : Int) := by omega
      go_wp2_with fail
      obtain ⟨C, hC⟩ : ∃ C : Nat → Value, C = fun j => ([.slice a zs.length cap, undef, .string ⟨#[]⟩, .pointer (some ⟨w.heap.size, 0, none⟩), undef, .int .i64 m, .slice a zs.length cap, .pointer (some ⟨w.heap.size, 0, none⟩), .pointer (some ⟨w.heap.size, 0, none⟩), .int .i64 k0, .int .i64 m, .bool true, u12, u13, undef, undef, undef, undef, undef, undef, undef, undef, undef, undef, undef, undef, undef, undef, undef, undef, undef, undef, undef] : List Value).getD j undef := ⟨_, rfl⟩
      obtain ⟨u0, hu0⟩ : ∃ u : Nat → Value, u = fun j => ([u14, u15, u16, u17, u18, u19, u20, u21, u22, u23, u24, u25, u26, u27] : List Value).getD j undef := ⟨_, rfl⟩
      have hC3 : C 3 = .pointer (some ⟨w.heap.size, 0, none⟩) := by rw [hC]; rfl
      refine wp_region_any (by kernel_rfl) ?_
      refine wpAny_inv (fun l a' w' => ∃ (b : Nat → Bool) (u : Nat → Value) (z : Value), l = LN b ∧ a' = { tmps := TN C z u, defers := [] } ∧ IN x w.heap.size zs t wr b u w' ∧ ((b 14 = false ∧ z = .string (str x)) ∨ ((∀ j, j < 15 → b j = true) ∧ ∃ y : Bs, z = .string (str y) ∧ y.length ≤ x.length + 10))) ?step ?endd _ _ _ _ ⟨fun _ => false, u0, .string (str x), rfl, by rw [hC, hu0]; rfl, ⟨fun i _ hb => (by cases hb), ⟨t, ht0, by simp, HS.out⟩, (Kept.refl _ _).drew⟩, .inl ⟨rfl, rfl⟩⟩ (by decide)
      case step =>
        have HC := hide hC
        have HU0 := hide hu0
        clear hC hu0
        rintro l a' w' i ⟨b, u, z, rfl, rfl, hI, hz⟩ hi
        obtain ⟨h0, o, ho, he⟩ := mem_ready.1 hi
        clear hi
        have hi15 : i < 15 := (Array.getElem?_eq_some_iff.1 ho).1
        have hb : b i = false := by rw [LN_getD b hi15] at h0; exact h0
        have hz' : b 14 = false ∧ z = .string (str x) := by
          rcases hz with hz | ⟨hall, _⟩
          · exact hz
          · rw [hall i hi15] at hb; cases hb
        obtain ⟨h14, rfl⟩ := hz'
        clear hz h0
        have hpl : w.heap.size < w'.heap.size := by obtain ⟨s, _, _, hS⟩ := hI.src; exact hS.lt
        rcases (show i = 0 ∨ i = 1 ∨ i = 2 ∨ i = 3 ∨ i = 4 ∨ i = 5 ∨ i = 6 ∨ i = 7 ∨ i = 8 ∨ i = 9 ∨ i = 10 ∨ i = 11 ∨ i = 12 ∨ i = 13 ∨ i = 14 by omega) with rfl | rfl | rfl | rfl | rfl | rfl | rfl | rfl | rfl | rfl | rfl | rfl | rfl | rfl | rfl
        · injection ho with ho
          subst ho
          refine wpOp_of rfl rfl ?_
          intro K hK
          simp only [TN]
          go_simp
          exact hK _ _ ⟨upd b 0 true, upd u 0 (.string (str x)), _, rfl, (by simp [TN, upd, hC3]), hI.step 0 _ (Below.refl _ _) rfl (by decide) (by decide), .inl ⟨h14, rfl⟩⟩
        · injection ho with ho
          subst ho
          refine wpOp_of rfl rfl ?_
          intro K hK
          simp only [TN]
          go_simp
          exact hK _ _ ⟨upd b 1 true, upd u 1 (.slice (some ⟨w'.heap.size, 0, none⟩) 4 4), _, rfl, (by simp [TN, upd, hC3]), hI.step 1 _ (below_alloc _ _) ⟨_, rfl, hpl, Texts.new (vs := [[47], [], [47, 47], [47, 46, 47]]) (by decide)⟩ (by decide) (by decide), .inl ⟨h14, rfl⟩⟩
        · injection ho with ho
          subst ho
          refine wpOp_of rfl rfl ?_
          intro K hK
          simp only [TN]
          go_simp
          exact hK _ _ ⟨upd b 2 true, upd u 2 (.pointer (some ⟨w.heap.size, 0, none⟩)), _, rfl, (by simp [TN, upd, hC3]), hI.step 2 _ (Below.refl _ _) rfl (by decide) (by decide), .inl ⟨h14, rfl⟩⟩
        · injection ho with ho
          subst ho
          have e2 : b 2 = true := he ⟨2, .data⟩ (by simp) rfl
          refine wpOp_of rfl rfl ?_
          intro K hK
          have hu2 : u 2 = .pointer (some ⟨w.heap.size, 0, none⟩) := hI.done 2 (by decide) e2
          obtain ⟨s, s0, s1, hS⟩ := hI.src
          have hb3 : b 3 = false := hb
          rw [hb3] at s1
          simp only [TN]
          go_simp
          refine (l1Next_any w.heap.size zs s 4 _ hS HU.out s0 (by have : (if b 10 = true then (1 : Int) else 0) ≤ 1 := (by split <;> decide); simp at s1; omega) (by decide) (by decide) hl).mono ?_
          rintro e w2 ⟨r, rfl, r0, r1, hs2, k2⟩
          exact hK _ _ ⟨upd b 3 true, upd u 3 (.int .i64 r), _, rfl, (by simp [TN, upd, hC3, hu2]), hI.next 3 _ k2 ⟨r.toNat, by rw [Int.toNat_of_nonneg r0], by omega⟩ ⟨s + 1, by omega, by show s + 1 ≤ t + 1 + (if b 10 = true then (1 : Int) else 0); simp at s1; omega, hs2⟩, .inl ⟨h14, rfl⟩⟩
        · injection ho with ho
          subst ho
          have e1 : b 1 = true := he ⟨1, .data⟩ (by simp) rfl
          have e3 : b 3 = true := he ⟨3, .data⟩ (by simp) rfl
          refine wpOp_of rfl rfl ?_
          intro K hK
          obtain ⟨g, hu1, hg, hT⟩ := hI.done 1 (by decide) e1
          obtain ⟨k, hu3, hk4⟩ := hI.done 3 (by decide) e3
          have hk0 : (0 : Int) ≤ (k : Int) := by omega
          have hk1 : (k : Int) < 4 := by omega
          simp only [TN]
          go_simp
          exact hK _ _ ⟨upd b 4 true, upd u 4 (.pointer (some ⟨g, k, none⟩)), _, rfl, (by simp [TN, upd, hC3, hu1, hu3]), hI.step 4 _ (Below.refl _ _) ⟨g, k, rfl, hg, hT.1, hT.2 k hk4⟩ (by decide) (by decide), .inl ⟨h14, rfl⟩⟩
        · injection ho with ho
          subst ho
          have e4 : b 4 = true := he ⟨4, .data⟩ (by simp) rfl
          refine wpOp_of rfl rfl ?_
          intro K hK
          obtain ⟨g, j, hu4, hp, hg, y, hy, hyl⟩ := hI.done 4 (by decide) e4
          simp only [TN]
          go_simp
          exact hK _ _ ⟨upd b 5 true, upd u 5 (.string (str y)), _, rfl, (by simp [TN, upd, hC3, hu4]), hI.step 5 _ (Below.refl _ _) ⟨y, rfl, hyl⟩ (by decide) (by decide), .inl ⟨h14, rfl⟩⟩
        · injection ho with ho
          subst ho
          have e0 : b 0 = true := he ⟨0, .data⟩ (by simp) rfl
          have e5 : b 5 = true := he ⟨5, .data⟩ (by simp) rfl
          refine wpOp_of rfl rfl ?_
          intro K hK
          have hu0 : u 0 = .string (str x) := hI.done 0 (by decide) e0
          obtain ⟨y, hu5, hyl⟩ := hI.done 5 (by decide) e5
          have hzz : ¬ 9223372036854775807 < (str x).size + (str y).size := by rw [str_size, str_size]; omega
          simp only [TN]
          go_simp
          exact hK _ _ ⟨upd b 6 true, upd u 6 (.string (str x ++ str y)), _, rfl, (by simp [TN, upd, hC3, hu0, hu5]), hI.step 6 _ (Below.refl _ _) ⟨x ++ y, by rw [str_append], by simp; omega⟩ (by decide) (by decide), .inl ⟨h14, rfl⟩⟩
        · injection ho with ho
          subst ho
          refine wpOp_of rfl rfl ?_
          intro K hK
          simp only [TN]
          go_simp
          exact hK _ _ ⟨upd b 7 true, upd u 7 (.slice (some ⟨w'.heap.size, 0, none⟩) 6 6), _, rfl, (by simp [TN, upd, hC3]), hI.step 7 _ (below_alloc _ _) ⟨_, rfl, hpl, Texts.new (vs := [[97], [98], [46, 46], [46], [97, 98, 99, 100, 101], [65]]) (by decide)⟩ (by decide) (by decide), .inl ⟨h14, rfl⟩⟩
        · injection ho with ho
          subst ho
          refine wpOp_of rfl rfl ?_
          intro K hK
          simp only [TN]
          go_simp
          exact hK _ _ ⟨upd b 8 true, upd u 8 (.pointer (some ⟨w.heap.size, 0, none⟩)), _, rfl, (by simp [TN, upd, hC3]), hI.step 8 _ (Below.refl _ _) rfl (by decide) (by decide), .inl ⟨h14, rfl⟩⟩
        · injection ho with ho
          subst ho
          refine wpOp_of rfl rfl ?_
          intro K hK
          simp only [TN]
          go_simp
          exact hK _ _ ⟨upd b 9 true, upd u 9 (.slice (some ⟨w'.heap.size, 0, none⟩) 8 8), _, rfl, (by simp [TN, upd, hC3]), hI.step 9 _ (below_alloc _ _) ⟨_, rfl, hpl, by simp, cells8 w' _ _ _ _ _ _ _ _ _⟩ (by decide) (by decide), .inl ⟨h14, rfl⟩⟩
        · injection ho with ho
          subst ho
          have e3 : b 3 = true := he ⟨3, .chain⟩ (by simp) rfl
          have e8 : b 8 = true := he ⟨8, .data⟩ (by simp) rfl
          have e9 : b 9 = true := he ⟨9, .data⟩ (by simp) rfl
          refine wpOp_of rfl rfl ?_
          intro K hK
          have hu8 : u 8 = .pointer (some ⟨w.heap.size, 0, none⟩) := hI.done 8 (by decide) e8
          obtain ⟨g, hu9, hg, hgl, hc8⟩ := hI.done 9 (by decide) e9
          obtain ⟨s, s0, s1, hS⟩ := hI.src
          have hb10 : b 10 = false := hb
          rw [hb10] at s1
          have HC8 := hide hc8
          clear hc8
          simp only [TN]
          go_simp
          refine (l1Pick_any w.heap.size g 8 8 [0, 1, 0, 1, 2, 3, 4, 5] zs s _ hS HU.out s0 (by have : (if b 3 = true then (1 : Int) else 0) ≤ 1 := (by split <;> decide); simp at s1; omega) hl (by decide) (by decide) rfl (by omega) hgl HC8.out).mono ?_
          rintro e w2 ⟨r, hr, rfl, hs2, k2⟩
          have hr6 : 0 ≤ r ∧ r < 6 := by simp at hr; omega
          exact hK _ _ ⟨upd b 10 true, upd u 10 (.int .i64 r), _, rfl, (by simp [TN, upd, hC3, hu8, hu9]), hI.next 10 _ k2 ⟨r.toNat, by rw [Int.toNat_of_nonneg hr6.1], by omega⟩ ⟨s + 1, by omega, by show s + 1 ≤ t + (if b 3 = true then (1 : Int) else 0) + 1; simp at s1; omega, hs2⟩, .inl ⟨h14, rfl⟩⟩
        · injection ho with ho
          subst ho
          have e7 : b 7 = true := he ⟨7, .data⟩ (by simp) rfl
          have e10 : b 10 = true := he ⟨10, .data⟩ (by simp) rfl
          refine wpOp_of rfl rfl ?_
          intro K hK
          obtain ⟨g, hu7, hg, hT⟩ := hI.done 7 (by decide) e7
          obtain ⟨k, hu10, hk6⟩ := hI.done 10 (by decide) e10
          have hk0 : (0 : Int) ≤ (k : Int) := by omega
          have hk1 : (k : Int) < 6 := by omega
          simp only [TN]
          go_simp
          exact hK _ _ ⟨upd b 11 true, upd u 11 (.pointer (some ⟨g, k, none⟩)), _, rfl, (by simp [TN, upd, hC3, hu7, hu10]), hI.step 11 _ (Below.refl _ _) ⟨g, k, rfl, hg, hT.1, hT.2 k hk6⟩ (by decide) (by decide), .inl ⟨h14, rfl⟩⟩
        · injection ho with ho
          subst ho
          have e11 : b 11 = true := he ⟨11, .data⟩ (by simp) rfl
          refine wpOp_of rfl rfl ?_
          intro K hK
          obtain ⟨g, j, hu11, hp, hg, y, hy, hyl⟩ := hI.done 11 (by decide) e11
          simp only [TN]
          go_simp
          exact hK _ _ ⟨upd b 12 true, upd u 12 (.string (str y)), _, rfl, (by simp [TN, upd, hC3, hu11]), hI.step 12 _ (Below.refl _ _) ⟨y, rfl, hyl⟩ (by decide) (by decide), .inl ⟨h14, rfl⟩⟩
        · injection ho with ho
          subst ho
          have e6 : b 6 = true := he ⟨6, .data⟩ (by simp) rfl
          have e12 : b 12 = true := he ⟨12, .data⟩ (by simp) rfl
          refine wpOp_of rfl rfl ?_
          intro K hK
          obtain ⟨y6, hu6, hyl6⟩ := hI.done 6 (by decide) e6
          obtain ⟨y, hu12, hyl⟩ := hI.done 12 (by decide) e12
          have hzz : ¬ 9223372036854775807 < (str y6).size + (str y).size := by rw [str_size, str_size]; omega
          simp only [TN]
          go_simp
          exact hK _ _ ⟨upd b 13 true, upd u 13 (.string (str y6 ++ str y)), _, rfl, (by simp [TN, upd, hC3, hu6, hu12]), hI.step 13 _ (Below.refl _ _) ⟨y6 ++ y, by rw [str_append], by simp; omega⟩ (by decide) (by decide), .inl ⟨h14, rfl⟩⟩
        · injection ho with ho
          subst ho
          have e0 : b 0 = true := he ⟨0, .phase⟩ (by simp) rfl
          have e1 : b 1 = true := he ⟨1, .phase⟩ (by simp) rfl
          have e2 : b 2 = true := he ⟨2, .phase⟩ (by simp) rfl
          have e3 : b 3 = true := he ⟨3, .phase⟩ (by simp) rfl
          have e4 : b 4 = true := he ⟨4, .phase⟩ (by simp) rfl
          have e5 : b 5 = true := he ⟨5, .phase⟩ (by simp) rfl
          have e6 : b 6 = true := he ⟨6, .phase⟩ (by simp) rfl
          have e7 : b 7 = true := he ⟨7, .phase⟩ (by simp) rfl
          have e8 : b 8 = true := he ⟨8, .phase⟩ (by simp) rfl
          have e9 : b 9 = true := he ⟨9, .phase⟩ (by simp) rfl
          have e10 : b 10 = true := he ⟨10, .phase⟩ (by simp) rfl
          have e11 : b 11 = true := he ⟨11, .phase⟩ (by simp) rfl
          have e12 : b 12 = true := he ⟨12, .phase⟩ (by simp) rfl
          have e13 : b 13 = true := he ⟨13, .phase⟩ (by simp) rfl
          refine wpOp_of rfl rfl ?_
          intro K hK
          obtain ⟨y, hu13, hyl⟩ := hI.done 13 (by decide) e13
          simp only [TN]
          go_simp
          exact hK _ _ ⟨upd b 14 true, u, .string (str y), rfl, (by simp [TN, hC3, hu13]), ⟨fun j hj hbj => hI.done j hj (by rwa [upd_other _ _ (by omega)] at hbj), hI.src, hI.kept⟩, .inr ⟨fun j hj => by rcases (show j = 0 ∨ j = 1 ∨ j = 2 ∨ j = 3 ∨ j = 4 ∨ j = 5 ∨ j = 6 ∨ j = 7 ∨ j = 8 ∨ j = 9 ∨ j = 10 ∨ j = 11 ∨ j = 12 ∨ j = 13 ∨ j = 14 by omega) with rfl | rfl | rfl | rfl | rfl | rfl | rfl | rfl | rfl | rfl | rfl | rfl | rfl | rfl | rfl <;> first | exact e0 | exact e1 | exact e2 | exact e3 | exact e4 | exact e5 | exact e6 | exact e7 | exact e8 | exact e9 | exact e10 | exact e11 | exact e12 | exact e13 | rfl, y, rfl, hyl⟩⟩
      case endd =>
        rintro l a' w' ⟨b, u, z, rfl, rfl, hI, hz⟩ hr
        have hno : ∀ i, i ∉ Region.ready .any _ (LN b) := fun i hi => by rw [hr] at hi; simp at hi
        have r0 : b 0 = true := by
          cases hk : b 0
          · refine absurd ?_ (hno 0)
            refine mem_ready.2 ?_
            exact ⟨hk, _, rfl, fun e he _ => by simp at he⟩
          · rfl
        have r1 : b 1 = true := by
          cases hk : b 1
          · refine absurd ?_ (hno 1)
            refine mem_ready.2 ?_
            exact ⟨hk, _, rfl, fun e he _ => by simp at he⟩
          · rfl
        have r2 : b 2 = true := by
          cases hk : b 2
          · refine absurd ?_ (hno 2)
            refine mem_ready.2 ?_
            exact ⟨hk, _, rfl, fun e he _ => by simp at he⟩
          · rfl
        have r3 : b 3 = true := by
          cases hk : b 3
          · refine absurd ?_ (hno 3)
            refine mem_ready.2 ?_
            exact ⟨hk, _, rfl, fun e he _ => by simp at he; subst he; exact r2⟩
          · rfl
        have r4 : b 4 = true := by
          cases hk : b 4
          · refine absurd ?_ (hno 4)
            refine mem_ready.2 ?_
            exact ⟨hk, _, rfl, fun e he _ => by simp at he; rcases he with rfl | rfl <;> first | exact r1 | exact r3⟩
          · rfl
        have r5 : b 5 = true := by
          cases hk : b 5
          · refine absurd ?_ (hno 5)
            refine mem_ready.2 ?_
            exact ⟨hk, _, rfl, fun e he _ => by simp at he; subst he; exact r4⟩
          · rfl
        have r6 : b 6 = true := by
          cases hk : b 6
          · refine absurd ?_ (hno 6)
            refine mem_ready.2 ?_
            exact ⟨hk, _, rfl, fun e he _ => by simp at he; rcases he with rfl | rfl <;> first | exact r0 | exact r5⟩
          · rfl
        have r7 : b 7 = true := by
          cases hk : b 7
          · refine absurd ?_ (hno 7)
            refine mem_ready.2 ?_
            exact ⟨hk, _, rfl, fun e he _ => by simp at he⟩
          · rfl
        have r8 : b 8 = true := by
          cases hk : b 8
          · refine absurd ?_ (hno 8)
            refine mem_ready.2 ?_
            exact ⟨hk, _, rfl, fun e he _ => by simp at he⟩
          · rfl
        have r9 : b 9 = true := by
          cases hk : b 9
          · refine absurd ?_ (hno 9)
            refine mem_ready.2 ?_
            exact ⟨hk, _, rfl, fun e he _ => by simp at he⟩
          · rfl
        have r10 : b 10 = true := by
          cases hk : b 10
          · refine absurd ?_ (hno 10)
            refine mem_ready.2 ?_
            exact ⟨hk, _, rfl, fun e he _ => by simp at he; rcases he with rfl | rfl | rfl <;> first | exact r3 | exact r8 | exact r9⟩
          · rfl
        have r11 : b 11 = true := by
          cases hk : b 11
          · refine absurd ?_ (hno 11)
            refine mem_ready.2 ?_
            exact ⟨hk, _, rfl, fun e he _ => by simp at he; rcases he with rfl | rfl <;> first | exact r7 | exact r10⟩
          · rfl
        have r12 : b 12 = true := by
          cases hk : b 12
          · refine absurd ?_ (hno 12)
            refine mem_ready.2 ?_
            exact ⟨hk, _, rfl, fun e he _ => by simp at he; subst he; exact r11⟩
          · rfl
        have r13 : b 13 = true := by
          cases hk : b 13
          · refine absurd ?_ (hno 13)
            refine mem_ready.2 ?_
            exact ⟨hk, _, rfl, fun e he _ => by simp at he; rcases he with rfl | rfl <;> first | exact r6 | exact r12⟩
          · rfl
        have r14 : b 14 = true := by
          cases hk : b 14
          · refine absurd ?_ (hno 14)
            refine mem_ready.2 ?_
            exact ⟨hk, _, rfl, fun e he _ => by simp at he; rcases he with rfl | rfl | rfl | rfl | rfl | rfl | rfl | rfl | rfl | rfl | rfl | rfl | rfl | rfl | rfl | rfl <;> first | exact r0 | exact r1 | exact r2 | exact r3 | exact r4 | exact r5 | exact r6 | exact r7 | exact r8 | exact r9 | exact r10 | exact r11 | exact r12 | exact r13⟩
          · rfl
        have hzz : ∃ y : Bs, z = .string (str y) ∧ y.length ≤ x.length + 10 := by
          rcases hz with ⟨h14, _⟩ | ⟨_, hz⟩
          · rw [r14] at h14; cases h14
          · exact hz
        obtain ⟨y, rfl, hyl⟩ := hzz
        obtain ⟨s, s0, s1, hS⟩ := hI.src
        have s2 : s ≤ t + 2 := by rw [r3, r10] at s1; simp at s1; omega
        have HS2 := hide hS
        have HB2 := hide (HB.out.trans (hI.kept.below (B := w.heap.size) HB.out.size (fun b hb e => by omega)))
        have e : TN C (.string (str y)) u = #[.slice a zs.length cap, undef, .string ⟨#[]⟩, .pointer (some ⟨w.heap.size, 0, none⟩), .string (str y), .int .i64 m, .slice a zs.length cap, .pointer (some ⟨w.heap.size, 0, none⟩), .pointer (some ⟨w.heap.size, 0, none⟩), .int .i64 k0, .int .i64 m, .bool true, u12, u13, u 0, u 1, u 2, u 3, u 4, u 5, u 6, u 7, u 8, u 9, u 10, u 11, u 12, u 13, undef, undef, undef, undef, undef] := by rw [hC]; rfl
        rw [e]
        clear e hno hr r0 r1 r2 r3 r4 r5 r6 r7 r8 r9 r10 r11 r12 r13 r14 s1 hS hI hz hC3 hC hu0
        go_wp2_with fail
        go_roundw
        case rel => exact ⟨y, m - 1, s, rfl, by go_num, by omega, by omega, s0, by omega, HS2, HB2⟩
        case measure => simp [intOf]; omega
    · have hm' : ¬ (0 : Int) < (m : Int) := by omega
      go_wp2_with fail
      refine (l1Chance_p w.heap.size zs t 30 _ HS.out HU.out ht0 (by omega) (by decide) (by decide) hl).mono ?_
      rintro e w3 ⟨r, rfl, s3, k3⟩
      have B3 := hide (HB.out.trans (k3.below (B := w.heap.size) HB.out.size (fun b hb e => by omega)))
      clear s3 k3
      cases r
      · go_wp2_with fail
        go_ret
        exact ⟨x, rfl, by omega, B3.out⟩
      · have hz : ¬ 9223372036854775807 < (str x).size + 45 := by rw [str_size]; omega
        go_wp2_with fail
        go_ret
        exact ⟨x ++ [47, 97, 97, 97, 97, 47, 97, 97, 97, 97, 47, 97, 97, 97, 97, 47, 97, 97, 97, 97, 47, 97, 97, 97, 97, 47, 97, 97, 97, 97, 47, 97, 97, 97, 97, 47, 97, 97, 97, 97, 47, 97, 97, 97, 97], by rw [← str_append]; rfl, by simp; omega, B3.out⟩

end Go.Proofs.Ytdimphfbncbaaaa
