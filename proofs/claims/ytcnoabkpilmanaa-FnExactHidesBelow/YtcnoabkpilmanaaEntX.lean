/-
  Contracts of the laws' helpers on an entry; an entry that came in is read.
-/
import Derived.Test.YtcnoabkpilmanaaEntS
import Derived.Test.YtcnoabkpilmanaaEntG
import Derived.Test.YtcnoabkpilmanaaIteA
import Derived.Deep.SlicePairs
import Derived.ProofKit
import Derived.ChangeOld
namespace Go.Proofs.Ytcnoabkpilmanaa
open Go.ChangeShapes Go.WideShapes Go.ChangeAt Go.RowKit
set_option linter.unusedVariables false

/-- A block of four cells that may be written. -/
def Box4 (w : World) (b : Nat) (u0 u1 u2 u3 : Value) : Prop := Four w b u0 u1 u2 u3 ∧ ∀ i, w.frozen? ⟨b, i, none⟩ = false
theorem Box4.new (w : World) (u0 u1 u2 u3 : Value) (t : TypeId) : Box4 (w.alloc (.cells #[u0, u1, u2, u3] t)) w.heap.size u0 u1 u2 u3 := ⟨Four.new w u0 u1 u2 u3 t, fun i => by simp⟩
theorem Box4.below {w w' : World} {b : Nat} {u0 u1 u2 u3 : Value} (h : Box4 w b u0 u1 u2 u3) (hk : Below w.heap.size w w') : Box4 w' b u0 u1 u2 u3 :=
  ⟨h.1.below hk, fun i => (hk.frozen (p := ⟨b, i, none⟩) h.1.lt).trans (h.2 i)⟩

set_option maxHeartbeats 400000 in
theorem szInt64S_fits (a : Option Addr) (n c : Nat) (left : Int) (w : World) (h0 : left ≤ 1048576) (hn : (n : Int) ≤ left) :
    Calls Try.prog 19 #[.slice a n c, .int .i64 left] w fun e w' => e = .returned (.int .i64 (left - n)) ∧ w' = w := by
  have hb : ¬ (left - (n : Int)) < 0 := by omega
  go_enter Try.func19, Try.ntmps19
  go_wp2
  go_ret
  exact ⟨rfl, rfl⟩
set_option maxHeartbeats 400000 in
theorem szInt64S_not (a : Option Addr) (n c : Nat) (left : Int) (w : World) (h0 : 0 ≤ left) (hl : left ≤ 1048576) (hm : (n : Int) ≤ 9223372036854775807) (hn : left < (n : Int)) :
    Calls Try.prog 19 #[.slice a n c, .int .i64 left] w fun e w' => e = .returned (.int .i64 (-1)) ∧ w' = w := by
  have hb : (left - (n : Int)) < 0 := by omega
  go_enter Try.func19, Try.ntmps19
  go_wp2
  go_ret
  exact ⟨rfl, rfl⟩

set_option maxHeartbeats 400000 in
theorem szEntry_fits (s : ByteArray) (k z : Int) (a : Option Addr) (n c : Nat) (left : Int) (w : World) (h0 : left ≤ 1048576) (hn : (s.size : Int) + (n : Int) ≤ left) :
    Calls Try.prog 9 #[.agg #[.string s, .int .i64 k, .int .i64 z, .slice a n c], .int .i64 left] w fun e w' => e = .returned (.int .i64 (left - s.size - n)) ∧ Below w.heap.size w w' := by
  have hb1 : ¬ (left - (s.size : Int)) < 0 := by omega
  have hb : ¬ (left - (s.size : Int) - (n : Int)) < 0 := by omega
  go_enter Try.func9, Try.ntmps9
  go_wp2_with fail
  refine (szInt64S_fits a n c _ _ (by omega) (by omega)).mono ?_
  rintro e w1 ⟨rfl, rfl⟩
  go_wp2_with fail
  go_ret
  exact ⟨rfl, below_alloc _ _⟩
set_option maxHeartbeats 400000 in
theorem szEntry_not (s : ByteArray) (k z : Int) (a : Option Addr) (n c : Nat) (left : Int) (w : World) (h0 : 0 ≤ left) (hl : left ≤ 1048576) (hs : (s.size : Int) ≤ 9223372036854775807) (hm : (n : Int) ≤ 9223372036854775807) (hn : left < (s.size : Int) + (n : Int)) :
    Calls Try.prog 9 #[.agg #[.string s, .int .i64 k, .int .i64 z, .slice a n c], .int .i64 left] w fun e w' => e = .returned (.int .i64 (-1)) ∧ Below w.heap.size w w' := by
  by_cases h1 : left < (s.size : Int)
  · have hb1 : (left - (s.size : Int)) < 0 := by omega
    go_enter Try.func9, Try.ntmps9
    go_wp2_with fail
    go_ret
    exact ⟨rfl, below_alloc _ _⟩
  · have hb1 : ¬ (left - (s.size : Int)) < 0 := by omega
    go_enter Try.func9, Try.ntmps9
    go_wp2_with fail
    refine (szInt64S_not a n c _ _ (by omega) (by omega) hm (by omega)).mono ?_
    rintro e w1 ⟨rfl, rfl⟩
    go_wp2_with fail
    go_ret
    exact ⟨rfl, below_alloc _ _⟩

theorem toInt64S_own (a : Option Addr) (cap : Nat) (zs : List Int) (w : World) (h : Reads .i64 w a zs) (hl : zs.length ≤ 1048576) :
    Calls Try.prog 27 #[.slice a zs.length cap] w fun e w' => ∃ g, e = .returned (.slice (some ⟨g, 0, none⟩) zs.length zs.length) ∧ w.heap.size ≤ g ∧ w'.ownsRow w.heap.size 2 1 (.slice (some ⟨g, 0, none⟩) zs.length zs.length) zs.length (zs.map (Value.int .i64)) ∧ Below w.heap.size w w' := by
  refine (toInt64S_any a cap zs w h hl).mono ?_
  rintro e w' ⟨rfl, hr, hb⟩
  exact ⟨_, rfl, Nat.le_refl _, ownsRow_of_row hr (Nat.le_refl _) (by unfold maxLen; omega), hb⟩
set_option maxHeartbeats 800000 in
theorem toEntry_any (s : ByteArray) (k z : Int) (a : Option Addr) (c : Nat) (zs : List Int) (w : World) (h : Reads .i64 w a zs) (hl : zs.length ≤ 1048576) :
    Calls Try.prog 13 #[.agg #[.string s, .int .i64 k, .int .i64 z, .slice a zs.length c]] w fun e w' => ∃ g, e = .returned (.agg #[.string s, .int .i64 k, .int .i64 z, .slice (some ⟨g, 0, none⟩) zs.length zs.length]) ∧ w.heap.size ≤ g ∧ w'.ownsRow w.heap.size 2 1 (.slice (some ⟨g, 0, none⟩) zs.length zs.length) zs.length (zs.map (Value.int .i64)) ∧ Below w.heap.size w w' := by
  have HR := hide h
  clear h
  go_enter Try.func13, Try.ntmps13
  go_wp2_with fail
  have X1 := hide ((Box4.new (w.alloc (.cells #[.string s, .int .i64 k, .int .i64 z, .slice a zs.length c] 32)) (.string ⟨#[]⟩) (.int .i64 0) (.int .i64 0) (.slice none 0 0) 36).below (below_alloc _ (.cells #[.string s, .int .i64 k, .int .i64 z, .slice none 0 0] 36)))
  have X2 := hide (Box4.new ((w.alloc (.cells #[.string s, .int .i64 k, .int .i64 z, .slice a zs.length c] 32)).alloc (.cells #[.string ⟨#[]⟩, .int .i64 0, .int .i64 0, .slice none 0 0] 36)) (.string s) (.int .i64 k) (.int .i64 z) (.slice none 0 0) 36)
  have B0 := hide (below_next (below_next (below_alloc w (.cells #[.string s, .int .i64 k, .int .i64 z, .slice a zs.length c] 32)) (below_alloc _ (.cells #[.string ⟨#[]⟩, .int .i64 0, .int .i64 0, .slice none 0 0] 36))) (below_alloc _ (.cells #[.string s, .int .i64 k, .int .i64 z, .slice none 0 0] 36)))
  have hsz : (((w.alloc (.cells #[.string s, .int .i64 k, .int .i64 z, .slice a zs.length c] 32)).alloc (.cells #[.string ⟨#[]⟩, .int .i64 0, .int .i64 0, .slice none 0 0] 36)).alloc (.cells #[.string s, .int .i64 k, .int .i64 z, .slice none 0 0] 36)).heap.size = w.heap.size + 3 := by simp
  have h1 : (w.alloc (.cells #[.string s, .int .i64 k, .int .i64 z, .slice a zs.length c] 32)).heap.size = w.heap.size + 1 := by simp
  have h2 : ((w.alloc (.cells #[.string s, .int .i64 k, .int .i64 z, .slice a zs.length c] 32)).alloc (.cells #[.string ⟨#[]⟩, .int .i64 0, .int .i64 0, .slice none 0 0] 36)).heap.size = w.heap.size + 1 + 1 := by simp
  rw [h1] at X1
  rw [h2] at X2
  clear h1 h2
  generalize ((w.alloc (.cells #[.string s, .int .i64 k, .int .i64 z, .slice a zs.length c] 32)).alloc (.cells #[.string ⟨#[]⟩, .int .i64 0, .int .i64 0, .slice none 0 0] 36)).alloc (.cells #[.string s, .int .i64 k, .int .i64 z, .slice none 0 0] 36) = W at *
  have HZ := hide hsz
  clear hsz
  refine (toInt64S_own a c zs _ (HR.out.below B0.out) hl).mono ?_
  rintro e w1 ⟨g, rfl, hg, ho, b1⟩
  obtain ⟨⟨q0, q1, q2, q3⟩, qf⟩ := X1.out.below b1
  obtain ⟨⟨r0, r1, r2, r3⟩, rf⟩ := X2.out.below b1
  have qf0 := qf 0
  have qf1 := qf 1
  have qf2 := qf 2
  have qf3 := qf 3
  have rf3 := rf 3
  have hg2 : w.heap.size + 3 ≤ g := by have := HZ.out; omega
  have HO := hide ho
  have HB := hide (below_next B0.out b1)
  clear ho b1 X1 X2 B0 hg qf rf
  go_wp2_with fail
  have hk : Kept (fun b => b = w.heap.size + 1 ∨ b = w.heap.size + 1 + 1) w1 (((((w1.setCell ⟨w.heap.size + 1 + 1, 3, none⟩ (.slice (some ⟨g, 0, none⟩) zs.length zs.length)).setCell ⟨w.heap.size + 1, 0, none⟩ (.string s)).setCell ⟨w.heap.size + 1, 1, none⟩ (.int .i64 k)).setCell ⟨w.heap.size + 1, 2, none⟩ (.int .i64 z)).setCell ⟨w.heap.size + 1, 3, none⟩ (.slice (some ⟨g, 0, none⟩) zs.length zs.length)) :=
    Kept.setCell (p := ⟨w.heap.size + 1, 3, none⟩) (Kept.setCell (p := ⟨w.heap.size + 1, 2, none⟩) (Kept.setCell (p := ⟨w.heap.size + 1, 1, none⟩) (Kept.setCell (p := ⟨w.heap.size + 1, 0, none⟩) (Kept.setCell (p := ⟨w.heap.size + 1 + 1, 3, none⟩) (Kept.refl _ _) (fun _ => .inr rfl) _) (fun _ => .inl rfl) _) (fun _ => .inl rfl) _) (fun _ => .inl rfl) _) (fun _ => .inl rfl) _
  refine bodyPost_ret (v := .agg #[.string s, .int .i64 k, .int .i64 z, (.slice (some ⟨g, 0, none⟩) zs.length zs.length)]) (by simp [results, Try.results13, go_sem, q0, q1, q2, q3]) rfl ⟨g, rfl, by omega, ?_, HB.out.trans (hk.below HB.out.size (fun k hk hS => by omega))⟩
  exact ownsRow_mono (ownsRow_kept HO.out hk (fun b hb hS => by simp only [Value.ownBlock, Option.some.injEq] at hb; omega)) (by have := HZ.out; omega)

set_option maxHeartbeats 400000 in
theorem eqEntry_same (s : ByteArray) (k z : Int) (a b : Option Addr) (ca cb : Nat) (zs : List Int) (w : World) (ha : Reads .i64 w a zs) (hb : Reads .i64 w b zs) (hl : zs.length ≤ 1048576) :
    Calls Try.prog 18 #[.agg #[.string s, .int .i64 k, .int .i64 z, .slice a zs.length ca], .agg #[.string s, .int .i64 k, .int .i64 z, .slice b zs.length cb]] w fun e w' => e = .returned (.bool true) ∧ Below w.heap.size w w' := by
  have HA := hide ha
  have HB := hide hb
  clear ha hb
  have B1 := hide (below_next (below_alloc w (.cells #[.string s, .int .i64 k, .int .i64 z, .slice a zs.length ca] 36)) (below_alloc _ (.cells #[.string s, .int .i64 k, .int .i64 z, .slice b zs.length cb] 36)))
  go_enter Try.func18, Try.ntmps18
  go_wp2_with fail
  refine (eqInt64S_b a b ca cb zs _ (HA.out.below B1.out) (HB.out.below B1.out) hl).mono ?_
  rintro e w1 ⟨rfl, b1⟩
  have B2 := hide (below_next B1.out b1)
  clear b1 B1
  go_wp2_with fail
  go_ret
  exact ⟨rfl, B2.out⟩

theorem trod_four {H : Type} {enc : TypeId × Value → H} {P : Program} {w : World} {base : Nat} {spare : Nat → Bool} {held : Bool} {t : TypeId} {f0 f1 f2 f3 : Field} {fuel : Nat} {cs : List Value} {x : DataW H × List MemPlace}
    (he : P.underlying t = some (.struct #[f0, f1, f2, f3])) (ce : P.cellsOf t = 4) (o0 : f0.offset = 0) (o1 : f1.offset = 1) (o2 : f2.offset = 2) (o3 : f3.offset = 3)
    (c0 : P.cellsOf f0.type = 1) (c1 : P.cellsOf f1.type = 1) (c2 : P.cellsOf f2.type = 1) (c3 : P.cellsOf f3.type = 1) (h : DataW.trod enc P w base spare held fuel t cs = some x) :
    ∃ (v0 v1 v2 v3 : Value) (n : Nat) (y0 y1 y2 y3 : DataW H × List MemPlace), cs = [v0, v1, v2, v3] ∧ DataW.trod enc P w base spare held n f0.type [v0] = some y0 ∧ DataW.trod enc P w base spare held n f1.type [v1] = some y1 ∧
      DataW.trod enc P w base spare held n f2.type [v2] = some y2 ∧ DataW.trod enc P w base spare held n f3.type [v3] = some y3 := by
  obtain ⟨xs, k, hk, hxy, hlen, hxl, hf⟩ := DataW.trod_struct he h
  rw [ce] at hlen
  match xs, hxl, cs, hlen with
  | [y0, y1, y2, y3], _, [v0, v1, v2, v3], _ =>
    have g0 := hf 0 f0 rfl
    have g1 := hf 1 f1 rfl
    have g2 := hf 2 f2 rfl
    have g3 := hf 3 f3 rfl
    simp [o0, o1, o2, o3, c0, c1, c2, c3] at g0 g1 g2 g3
    exact ⟨v0, v1, v2, v3, k, y0, y1, y2, y3, rfl, g0, g1, g2, g3⟩
theorem reads_of_rowE {W : World} {x : Addr} {l c : Nat} {zs : List Int} (hz : zs.length = c) (hl : l ≤ c) (hm : c ≤ maxLen) (hcell : ∀ i, i < zs.length → W.cell? (x.add i) = some (.int .i64 (zs.getD i 0))) (hwz : ∀ n ∈ zs, (Lit.int .i64 n).wf = true) :
    ∃ ys : List Int, ys.length = l ∧ Reads .i64 W (some x) ys ∧ (∀ z ∈ ys, (Lit.int .i64 z).wf = true) ∧ ys.length ≤ maxLen := by
  have hlen : (zs.take l).length = l := by simp; omega
  refine ⟨zs.take l, hlen, ?_, fun z hz' => hwz z (List.mem_of_mem_take hz'), by omega⟩
  intro hne
  have h0 : 0 < l := by
    rcases Nat.eq_zero_or_pos l with h | h
    · subst h; exact absurd rfl hne
    · exact h
  obtain ⟨b, off, spot⟩ := x
  have hc := hcell 0 (by omega)
  have hspot : spot = none := by simpa [Addr.add] using World.cell?_spot hc
  subst hspot
  refine ⟨b, off, rfl, World.block_lt_of_cell? W _ (by simpa [Addr.add] using hc), fun i hi => ?_⟩
  have := hcell i (by omega)
  have e : (zs.take l).getD i 0 = zs.getD i 0 := by
    have h2 : i < l := by omega
    simp [List.getD_eq_getElem?_getD, h2]
  rw [e]
  have ea : (⟨b, off, none⟩ : Addr).add i = ⟨b, off + i, none⟩ := by unfold Addr.add; split <;> simp_all
  rw [ea] at this
  exact this

theorem ints_of_trodE {H : Type} {enc : TypeId × Value → H} {W : World} {a : Option Addr} {n c fuel : Nat} {x : DataW H × List MemPlace}
    (h : DataW.trod enc Try.prog W 0 (fun _ => true) true fuel 30 [.slice a n c] = some x) : ∃ zs : List Int, zs.length = n ∧ Reads .i64 W a zs ∧ (∀ z ∈ zs, (Lit.int .i64 z).wf = true) ∧ zs.length ≤ maxLen := by
  rcases open_ints Try.underlying30 Try.underlying2 (by kernel_rfl) h with ⟨hcs, _⟩ | ⟨x, l, c, zs, hcs, _, hl, hm, hz, _, hcell, hwz⟩
  · simp at hcs
    obtain ⟨rfl, rfl, rfl⟩ := hcs
    exact ⟨[], rfl, fun h => absurd rfl h, fun z hz => by simp at hz, Nat.zero_le _⟩
  · simp at hcs
    obtain ⟨rfl, rfl, rfl⟩ := hcs
    exact reads_of_rowE (by simpa using hz) hl hm hcell hwz
/-- What an entry's four cells that came in hold. -/
structure InE (W : World) (e : En) (a : Option Addr) : Prop where
  rd : Reads .i64 W a e.chunks
  kd : (Lit.int .i64 e.kind).wf = true
  sz : (Lit.int .i64 e.size).wf = true
  ch : ∀ z ∈ e.chunks, (Lit.int .i64 z).wf = true
  pl : e.path.length ≤ maxLen
  cl : e.chunks.length ≤ maxLen
theorem entry_of_trod {H : Type} {enc : TypeId × Value → H} {W : World} {fuel : Nat} {cs : List Value} {x : DataW H × List MemPlace}
    (h : DataW.trod enc Try.prog W 0 (fun _ => true) true fuel 32 cs = some x) : ∃ (e : En) (a : Option Addr) (c : Nat), cs = [.string (str e.path), .int .i64 e.kind, .int .i64 e.size, .slice a e.chunks.length c] ∧ InE W e a := by
  obtain ⟨v0, v1, v2, v3, n, y0, y1, y2, y3, rfl, g0, g1, g2, g3⟩ := trod_four Try.underlying32 (by kernel_rfl) rfl rfl rfl rfl (by kernel_rfl) (by kernel_rfl) (by kernel_rfl) (by kernel_rfl) h
  obtain ⟨s, hs, _, hsl⟩ := DataW.trod_string Try.underlying9 g0
  obtain ⟨k, hk, _, hkw⟩ := DataW.trod_int Try.underlying2 g1
  obtain ⟨z, hz, _, hzw⟩ := DataW.trod_int Try.underlying2 g2
  obtain ⟨a1, n1, k1, e1⟩ : ∃ a1 n1 k1, v3 = .slice a1 n1 k1 := by
    rcases open_ints Try.underlying30 Try.underlying2 (by kernel_rfl) g3 with ⟨hcs, _⟩ | ⟨x, l, c, zs, hcs, _⟩
    · simp at hcs; exact ⟨_, _, _, hcs⟩
    · simp at hcs; exact ⟨_, _, _, hcs⟩
  rw [e1] at g3
  obtain ⟨zs, rfl, hr, hu, hml⟩ := ints_of_trodE g3
  simp only [List.cons.injEq, and_true] at hs hk hz
  subst hs hk hz e1
  exact ⟨⟨s.data.toList, k, z, zs⟩, a1, k1, by simp [str_of], ⟨hr, hkw, hzw, hu, by rw [← Lib.size_eq]; exact hsl, hml⟩⟩

end Go.Proofs.Ytcnoabkpilmanaa
