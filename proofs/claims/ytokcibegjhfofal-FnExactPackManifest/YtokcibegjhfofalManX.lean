/-
  Contracts of the laws' helpers on a manifest; a manifest that came in is read.
-/
import Derived.Test.YtokcibegjhfofalManW
import Derived.Test.YtokcibegjhfofalInts
import Derived.Deep.SlicePairs
import Derived.ProofKit
import Derived.ChangeOld
namespace Go.Proofs.Ytokcibegjhfofal
open Go.ChangeShapes Go.WideShapes Go.ChangeAt Go.RowKit
set_option linter.unusedVariables false
set_option maxRecDepth 100000

theorem ownInts_readsM {w : World} {B : Nat} {e : TypeId} {k : IntKind} {a : Option Addr} {n c : Nat} {zs : List Int} (h : w.ownsRow B e 1 (.slice a n c) n (zs.map (Value.int k))) (hn : n = zs.length) : Reads k w a zs := by
  intro hz
  have h0 : 0 < n := by rw [hn]; exact List.length_pos_iff.2 hz
  obtain ⟨g, cap, hv, hg, hgl, hc, hf⟩ := ownsRow_ints h hn h0
  simp only [Value.slice.injEq, true_and] at hv
  exact ⟨g, 0, hv.1, hgl, fun i hi => by rw [Nat.zero_add]; exact hc i (by omega)⟩

set_option maxHeartbeats 400000 in
theorem szIntsM_fits (a : Option Addr) (n c : Nat) (left : Int) (w : World) (h0 : left ≤ 1048576) (hn : (n : Int) ≤ left) :
    Calls Try.prog 10 #[.slice a n c, .int .i64 left] w fun e w' => e = .returned (.int .i64 (left - n)) ∧ w' = w := by
  have hb : ¬ (left - (n : Int)) < 0 := by omega
  go_enter Try.func10, Try.ntmps10
  go_wp2
  go_ret
  exact ⟨rfl, rfl⟩
set_option maxHeartbeats 400000 in
theorem szIntsM_not (a : Option Addr) (n c : Nat) (left : Int) (w : World) (h0 : 0 ≤ left) (hl : left ≤ 1048576) (hm : (n : Int) ≤ 9223372036854775807) (hn : left < (n : Int)) :
    Calls Try.prog 10 #[.slice a n c, .int .i64 left] w fun e w' => e = .returned (.int .i64 (-1)) ∧ w' = w := by
  have hb : (left - (n : Int)) < 0 := by omega
  go_enter Try.func10, Try.ntmps10
  go_wp2
  go_ret
  exact ⟨rfl, rfl⟩

set_option maxHeartbeats 400000 in
theorem szManifest_fits (s : ByteArray) (a : Option Addr) (n c : Nat) (left : Int) (w : World) (h0 : left ≤ 1048576) (hn : (s.size : Int) + (n : Int) ≤ left) :
    Calls Try.prog 4 #[.agg #[.string s, .slice a n c], .int .i64 left] w fun e w' => e = .returned (.int .i64 (left - s.size - n)) ∧ Below w.heap.size w w' := by
  have hb1 : ¬ (left - (s.size : Int)) < 0 := by omega
  have hb : ¬ (left - (s.size : Int) - (n : Int)) < 0 := by omega
  go_enter Try.func4, Try.ntmps4
  go_wp2_with fail
  refine (szIntsM_fits a n c _ _ (by omega) (by omega)).mono ?_
  rintro e w1 ⟨rfl, rfl⟩
  go_wp2_with fail
  go_ret
  exact ⟨rfl, below_alloc _ _⟩
set_option maxHeartbeats 400000 in
theorem szManifest_not (s : ByteArray) (a : Option Addr) (n c : Nat) (left : Int) (w : World) (h0 : 0 ≤ left) (hl : left ≤ 1048576) (hs : (s.size : Int) ≤ 9223372036854775807) (hm : (n : Int) ≤ 9223372036854775807) (hn : left < (s.size : Int) + (n : Int)) :
    Calls Try.prog 4 #[.agg #[.string s, .slice a n c], .int .i64 left] w fun e w' => e = .returned (.int .i64 (-1)) ∧ Below w.heap.size w w' := by
  by_cases h1 : left < (s.size : Int)
  · have hb1 : (left - (s.size : Int)) < 0 := by omega
    go_enter Try.func4, Try.ntmps4
    go_wp2_with fail
    go_ret
    exact ⟨rfl, below_alloc _ _⟩
  · have hb1 : ¬ (left - (s.size : Int)) < 0 := by omega
    go_enter Try.func4, Try.ntmps4
    go_wp2_with fail
    refine (szIntsM_not a n c _ _ (by omega) (by omega) hm (by omega)).mono ?_
    rintro e w1 ⟨rfl, rfl⟩
    go_wp2_with fail
    go_ret
    exact ⟨rfl, below_alloc _ _⟩

set_option maxHeartbeats 800000 in
theorem toManifest_any (s : ByteArray) (a : Option Addr) (c : Nat) (zs : List Int) (w : World) (h : Reads .i64 w a zs) (hl : zs.length ≤ 1048576) :
    Calls Try.prog 6 #[.agg #[.string s, .slice a zs.length c]] w fun e w' => ∃ g, e = .returned (.agg #[.string s, .slice (some ⟨g, 0, none⟩) zs.length zs.length]) ∧ w.heap.size ≤ g ∧ Reads .i64 w' (some ⟨g, 0, none⟩) zs ∧ Below w.heap.size w w' := by
  have HR := hide h
  clear h
  have h1 : (w.alloc (.cells #[.string s, .slice a zs.length c] 24)).heap.size = w.heap.size + 1 := by simp
  have h2 : ((w.alloc (.cells #[.string s, .slice a zs.length c] 24)).alloc (.cells #[.string ⟨#[]⟩, .slice none 0 0] 29)).heap.size = w.heap.size + 1 + 1 := by simp
  have hsz : (((w.alloc (.cells #[.string s, .slice a zs.length c] 24)).alloc (.cells #[.string ⟨#[]⟩, .slice none 0 0] 29)).alloc (.cells #[.string s, .slice none 0 0] 29)).heap.size = w.heap.size + 3 := by simp
  have X1 := hide ((Box.new (w.alloc (.cells #[.string s, .slice a zs.length c] 24)) (.string ⟨#[]⟩) (.slice none 0 0) 29).below (below_alloc _ (.cells #[.string s, .slice none 0 0] 29)))
  have X2 := hide (Box.new ((w.alloc (.cells #[.string s, .slice a zs.length c] 24)).alloc (.cells #[.string ⟨#[]⟩, .slice none 0 0] 29)) (.string s) (.slice none 0 0) 29)
  have B0 := hide (below_next (below_next (below_alloc w (.cells #[.string s, .slice a zs.length c] 24)) (below_alloc _ (.cells #[.string ⟨#[]⟩, .slice none 0 0] 29))) (below_alloc _ (.cells #[.string s, .slice none 0 0] 29)))
  rw [h1] at X1
  rw [h2] at X2
  clear h1 h2
  go_enter Try.func6, Try.ntmps6
  go_wp2_with fail
  generalize ((w.alloc (.cells #[.string s, .slice a zs.length c] 24)).alloc (.cells #[.string ⟨#[]⟩, .slice none 0 0] 29)).alloc (.cells #[.string s, .slice none 0 0] 29) = W at *
  have HZ := hide hsz
  clear hsz
  refine (toInt64S_any a c zs _ (HR.out.below B0.out) hl).mono ?_
  rintro e w1 ⟨rfl, hr, b1⟩
  obtain ⟨⟨q0, q1⟩, qf0, qf1⟩ := X1.out.below b1
  obtain ⟨⟨r0, r1⟩, rf0, rf1⟩ := X2.out.below b1
  have HO := hide (ownsRow_of_row (B := W.heap.size) hr (Nat.le_refl _) (by unfold maxLen; omega))
  have HB := hide (below_next B0.out b1)
  have hWs : W.heap.size = w.heap.size + 3 := HZ.out
  generalize W.heap.size = g at *
  have hg2 : w.heap.size + 3 ≤ g := by omega
  clear hr b1 X1 X2 B0 HZ hWs
  go_wp2_with fail
  have hk : Kept (fun b => b = w.heap.size + 1 ∨ b = w.heap.size + 1 + 1) w1 (((w1.setCell ⟨w.heap.size + 1 + 1, 1, none⟩ (.slice (some ⟨g, 0, none⟩) zs.length zs.length)).setCell ⟨w.heap.size + 1, 0, none⟩ (.string s)).setCell ⟨w.heap.size + 1, 1, none⟩ (.slice (some ⟨g, 0, none⟩) zs.length zs.length)) :=
    Kept.setCell (p := ⟨w.heap.size + 1, 1, none⟩) (Kept.setCell (p := ⟨w.heap.size + 1, 0, none⟩) (Kept.setCell (p := ⟨w.heap.size + 1 + 1, 1, none⟩) (Kept.refl _ _) (fun _ => .inr rfl) _) (fun _ => .inl rfl) _) (fun _ => .inl rfl) _
  refine bodyPost_ret (v := .agg #[.string s, (.slice (some ⟨g, 0, none⟩) zs.length zs.length)]) (by simp [results, Try.results6, go_sem, q0, q1]) rfl ⟨g, rfl, by omega, ?_, HB.out.trans (hk.below HB.out.size (fun k hk hS => by omega))⟩
  exact ownInts_readsM (ownsRow_kept HO.out hk (fun b hb hS => by simp only [Value.ownBlock, Option.some.injEq] at hb; omega)) rfl

set_option maxHeartbeats 400000 in
theorem eqManifest_same (s : ByteArray) (a b : Option Addr) (ca cb : Nat) (zs : List Int) (w : World) (ha : Reads .i64 w a zs) (hb : Reads .i64 w b zs) (hl : zs.length ≤ 1048576) :
    Calls Try.prog 9 #[.agg #[.string s, .slice a zs.length ca], .agg #[.string s, .slice b zs.length cb]] w fun e w' => e = .returned (.bool true) ∧ Below w.heap.size w w' := by
  have HA := hide ha
  have HB := hide hb
  clear ha hb
  have B1 := hide (below_next (below_alloc w (.cells #[.string s, .slice a zs.length ca] 29)) (below_alloc _ (.cells #[.string s, .slice b zs.length cb] 29)))
  go_enter Try.func9, Try.ntmps9
  go_wp2_with fail
  refine (eqInt64S_b a b ca cb zs _ (HA.out.below B1.out) (HB.out.below B1.out) hl).mono ?_
  rintro e w1 ⟨rfl, b1⟩
  have B2 := hide (below_next B1.out b1)
  clear b1 B1
  go_wp2_with fail
  go_ret
  exact ⟨rfl, B2.out⟩

theorem trod_two {H : Type} {enc : TypeId × Value → H} {P : Program} {w : World} {base : Nat} {spare : Nat → Bool} {held : Bool} {t : TypeId} {f0 f1 : Field} {fuel : Nat} {cs : List Value} {x : DataW H × List MemPlace}
    (he : P.underlying t = some (.struct #[f0, f1])) (ce : P.cellsOf t = 2) (o0 : f0.offset = 0) (o1 : f1.offset = 1)
    (c0 : P.cellsOf f0.type = 1) (c1 : P.cellsOf f1.type = 1) (h : DataW.trod enc P w base spare held fuel t cs = some x) :
    ∃ (v0 v1 : Value) (n : Nat) (y0 y1 : DataW H × List MemPlace), cs = [v0, v1] ∧ DataW.trod enc P w base spare held n f0.type [v0] = some y0 ∧ DataW.trod enc P w base spare held n f1.type [v1] = some y1 := by
  obtain ⟨xs, k, hk, hxy, hlen, hxl, hf⟩ := DataW.trod_struct he h
  rw [ce] at hlen
  match xs, hxl, cs, hlen with
  | [y0, y1], _, [v0, v1], _ =>
    have g0 := hf 0 f0 rfl
    have g1 := hf 1 f1 rfl
    simp [o0, o1, c0, c1] at g0 g1
    exact ⟨v0, v1, k, y0, y1, rfl, g0, g1⟩
theorem reads_of_rowM {W : World} {x : Addr} {l c : Nat} {zs : List Int} (hz : zs.length = c) (hl : l ≤ c) (hm : c ≤ maxLen) (hcell : ∀ i, i < zs.length → W.cell? (x.add i) = some (.int .i64 (zs.getD i 0))) (hwz : ∀ n ∈ zs, (Lit.int .i64 n).wf = true) :
    ∃ ys : List Int, ys.length = l ∧ Reads .i64 W (some x) ys ∧ (∀ z ∈ ys, (Lit.int .i64 z).wf = true) ∧ ys.length ≤ maxLen := by
  have hlen : (zs.take l).length = l := by simp; omega
  refine ⟨zs.take l, hlen, ?_, fun z hz' => hwz z (List.mem_of_mem_take hz'), by omega⟩
  intro hne
  have h0 : 0 < l := by
    rcases Nat.eq_zero_or_pos l with h | h
    · subst h; exact absurd rfl hne
    · exact h
  obtain ⟨b, off, spot⟩ := x
  have hc := hcell 0 (by omega)
  have hspot : spot = none := by simpa [Addr.add] using World.cell?_spot hc
  subst hspot
  refine ⟨b, off, rfl, World.block_lt_of_cell? W _ (by simpa [Addr.add] using hc), fun i hi => ?_⟩
  have := hcell i (by omega)
  have e : (zs.take l).getD i 0 = zs.getD i 0 := by
    have h2 : i < l := by omega
    simp [List.getD_eq_getElem?_getD, h2]
  rw [e]
  have ea : (⟨b, off, none⟩ : Addr).add i = ⟨b, off + i, none⟩ := by unfold Addr.add; split <;> simp_all
  rw [ea] at this
  exact this

theorem ints_of_trodM {H : Type} {enc : TypeId × Value → H} {W : World} {a : Option Addr} {n c fuel : Nat} {x : DataW H × List MemPlace}
    (h : DataW.trod enc Try.prog W 0 (fun _ => true) true fuel 22 [.slice a n c] = some x) : ∃ zs : List Int, zs.length = n ∧ Reads .i64 W a zs ∧ (∀ z ∈ zs, (Lit.int .i64 z).wf = true) ∧ zs.length ≤ maxLen := by
  rcases open_ints Try.underlying22 Try.underlying2 (by kernel_rfl) h with ⟨hcs, _⟩ | ⟨x, l, c, zs, hcs, _, hl, hm, hz, _, hcell, hwz⟩
  · simp at hcs
    obtain ⟨rfl, rfl, rfl⟩ := hcs
    exact ⟨[], rfl, fun h => absurd rfl h, fun z hz => by simp at hz, Nat.zero_le _⟩
  · simp at hcs
    obtain ⟨rfl, rfl, rfl⟩ := hcs
    exact reads_of_rowM (by simpa using hz) hl hm hcell hwz
theorem man_of_trod {H : Type} {enc : TypeId × Value → H} {W : World} {fuel : Nat} {cs : List Value} {x : DataW H × List MemPlace}
    (h : DataW.trod enc Try.prog W 0 (fun _ => true) true fuel 24 cs = some x) : ∃ (n : Bs) (ds : List Int) (a : Option Addr) (c : Nat), cs = [.string (str n), .slice a ds.length c] ∧ Reads .i64 W a ds ∧ n.length ≤ maxLen ∧ ds.length ≤ maxLen := by
  obtain ⟨v0, v1, n, y0, y1, rfl, g0, g1⟩ := trod_two Try.underlying24 (by kernel_rfl) rfl rfl (by kernel_rfl) (by kernel_rfl) h
  obtain ⟨s, hs, _, hsl⟩ := DataW.trod_string Try.underlying9 g0
  obtain ⟨a1, n1, k1, e1⟩ : ∃ a1 n1 k1, v1 = .slice a1 n1 k1 := by
    rcases open_ints Try.underlying22 Try.underlying2 (by kernel_rfl) g1 with ⟨hcs, _⟩ | ⟨x, l, c, zs, hcs, _⟩
    · simp at hcs; exact ⟨_, _, _, hcs⟩
    · simp at hcs; exact ⟨_, _, _, hcs⟩
  rw [e1] at g1
  obtain ⟨zs, rfl, hr, hu, hml⟩ := ints_of_trodM g1
  simp only [List.cons.injEq, and_true] at hs
  subst hs e1
  exact ⟨s.data.toList, zs, a1, k1, by simp [str_of], hr, by rw [← Lib.size_eq]; exact hsl, hml⟩

theorem eqTextM_same (c : Int) (s : ByteArray) (w : World) :
    Calls Try.prog 8 #[.agg #[.int .i64 c, .string s], .agg #[.int .i64 c, .string s]] w fun e w' => e = .returned (.bool true) ∧ Below w.heap.size w w' := by
  go_enter Try.func8, Try.ntmps8
  go_wp2
  go_ret
  exact ⟨rfl, ((Below.refl _ _).alloc (Nat.le_refl _) _).alloc (by simp) _⟩

end Go.Proofs.Ytokcibegjhfofal
