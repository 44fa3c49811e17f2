/-
  Texts put together: EntX EntY EntP EntT Flat.
-/
import Derived.Test.YtfamojijgjmcmaaKSameSt1
import Derived.Deep.SlicePairs
import Derived.ProofKit
import Derived.ChangeOld
namespace Go.Proofs.Ytfamojijgjmcmaa
open Go.ChangeShapes Go.WideShapes Go.ChangeAt Go.RowKit
set_option linter.unusedVariables false

def Box4 (w : World) (b : Nat) (u0 u1 u2 u3 : Value) : Prop := Four w b u0 u1 u2 u3 ∧ ∀ i, w.frozen? ⟨b, i, none⟩ = false
theorem Box4.new (w : World) (u0 u1 u2 u3 : Value) (t : TypeId) : Box4 (w.alloc (.cells #[u0, u1, u2, u3] t)) w.heap.size u0 u1 u2 u3 := ⟨Four.new w u0 u1 u2 u3 t, fun i => by simp⟩
theorem Box4.below {w w' : World} {b : Nat} {u0 u1 u2 u3 : Value} (h : Box4 w b u0 u1 u2 u3) (hk : Below w.heap.size w w') : Box4 w' b u0 u1 u2 u3 :=
  ⟨h.1.below hk, fun i => (hk.frozen (p := ⟨b, i, none⟩) h.1.lt).trans (h.2 i)⟩

set_option maxHeartbeats 400000 in
theorem szInt64S_fits (a : Option Addr) (n c : Nat) (left : Int) (w : World) (h0 : left ≤ 1048576) (hn : (n : Int) ≤ left) :
    Calls Try.prog 25 #[.slice a n c, .int .i64 left] w fun e w' => e = .returned (.int .i64 (left - n)) ∧ w' = w := by
  have hb : ¬ (left - (n : Int)) < 0 := by omega
  go_enter Try.func25, Try.ntmps25
  go_wp2
  go_ret
  exact ⟨rfl, rfl⟩
set_option maxHeartbeats 400000 in
theorem szInt64S_not (a : Option Addr) (n c : Nat) (left : Int) (w : World) (h0 : 0 ≤ left) (hl : left ≤ 1048576) (hm : (n : Int) ≤ 9223372036854775807) (hn : left < (n : Int)) :
    Calls Try.prog 25 #[.slice a n c, .int .i64 left] w fun e w' => e = .returned (.int .i64 (-1)) ∧ w' = w := by
  have hb : (left - (n : Int)) < 0 := by omega
  go_enter Try.func25, Try.ntmps25
  go_wp2
  go_ret
  exact ⟨rfl, rfl⟩

set_option maxHeartbeats 400000 in
theorem szEntry_fits (s : ByteArray) (k z : Int) (a : Option Addr) (n c : Nat) (left : Int) (w : World) (h0 : left ≤ 1048576) (hn : (s.size : Int) + (n : Int) ≤ left) :
    Calls Try.prog 58 #[.agg #[.string s, .int .i64 k, .int .i64 z, .slice a n c], .int .i64 left] w fun e w' => e = .returned (.int .i64 (left - s.size - n)) ∧ Below w.heap.size w w' := by
  have hb1 : ¬ (left - (s.size : Int)) < 0 := by omega
  have hb : ¬ (left - (s.size : Int) - (n : Int)) < 0 := by omega
  go_enter Try.func58, Try.ntmps58
  go_wp2_with fail
  refine (szInt64S_fits a n c _ _ (by omega) (by omega)).mono ?_
  rintro e w1 ⟨rfl, rfl⟩
  go_wp2_with fail
  go_ret
  exact ⟨rfl, below_alloc _ _⟩
set_option maxHeartbeats 400000 in
theorem szEntry_not (s : ByteArray) (k z : Int) (a : Option Addr) (n c : Nat) (left : Int) (w : World) (h0 : 0 ≤ left) (hl : left ≤ 1048576) (hs : (s.size : Int) ≤ 9223372036854775807) (hm : (n : Int) ≤ 9223372036854775807) (hn : left < (s.size : Int) + (n : Int)) :
    Calls Try.prog 58 #[.agg #[.string s, .int .i64 k, .int .i64 z, .slice a n c], .int .i64 left] w fun e w' => e = .returned (.int .i64 (-1)) ∧ Below w.heap.size w w' := by
  by_cases h1 : left < (s.size : Int)
  · have hb1 : (left - (s.size : Int)) < 0 := by omega
    go_enter Try.func58, Try.ntmps58
    go_wp2_with fail
    go_ret
    exact ⟨rfl, below_alloc _ _⟩
  · have hb1 : ¬ (left - (s.size : Int)) < 0 := by omega
    go_enter Try.func58, Try.ntmps58
    go_wp2_with fail
    refine (szInt64S_not a n c _ _ (by omega) (by omega) hm (by omega)).mono ?_
    rintro e w1 ⟨rfl, rfl⟩
    go_wp2_with fail
    go_ret
    exact ⟨rfl, below_alloc _ _⟩

theorem toInt64S_own (a : Option Addr) (cap : Nat) (zs : List Int) (w : World) (h : Reads .i64 w a zs) (hl : zs.length ≤ 1048576) :
    Calls Try.prog 31 #[.slice a zs.length cap] w fun e w' => ∃ g, e = .returned (.slice (some ⟨g, 0, none⟩) zs.length zs.length) ∧ w.heap.size ≤ g ∧ w'.ownsRow w.heap.size 2 1 (.slice (some ⟨g, 0, none⟩) zs.length zs.length) zs.length (zs.map (Value.int .i64)) ∧ Below w.heap.size w w' := by
  refine (toInt64S_any a cap zs w h hl).mono ?_
  rintro e w' ⟨rfl, hr, hb⟩
  exact ⟨_, rfl, Nat.le_refl _, ownsRow_of_row hr (Nat.le_refl _) (by unfold maxLen; omega), hb⟩
set_option maxHeartbeats 800000 in
theorem toEntry_any (s : ByteArray) (k z : Int) (a : Option Addr) (c : Nat) (zs : List Int) (w : World) (h : Reads .i64 w a zs) (hl : zs.length ≤ 1048576) :
    Calls Try.prog 59 #[.agg #[.string s, .int .i64 k, .int .i64 z, .slice a zs.length c]] w fun e w' => ∃ g, e = .returned (.agg #[.string s, .int .i64 k, .int .i64 z, .slice (some ⟨g, 0, none⟩) zs.length zs.length]) ∧ w.heap.size ≤ g ∧ w'.ownsRow w.heap.size 2 1 (.slice (some ⟨g, 0, none⟩) zs.length zs.length) zs.length (zs.map (Value.int .i64)) ∧ Below w.heap.size w w' := by
  have HR := hide h
  clear h
  go_enter Try.func59, Try.ntmps59
  go_wp2_with fail
  have X1 := hide ((Box4.new (w.alloc (.cells #[.string s, .int .i64 k, .int .i64 z, .slice a zs.length c] 106)) (.string ⟨#[]⟩) (.int .i64 0) (.int .i64 0) (.slice none 0 0) 91).below (below_alloc _ (.cells #[.string s, .int .i64 k, .int .i64 z, .slice none 0 0] 91)))
  have X2 := hide (Box4.new ((w.alloc (.cells #[.string s, .int .i64 k, .int .i64 z, .slice a zs.length c] 106)).alloc (.cells #[.string ⟨#[]⟩, .int .i64 0, .int .i64 0, .slice none 0 0] 91)) (.string s) (.int .i64 k) (.int .i64 z) (.slice none 0 0) 91)
  have B0 := hide (below_next (below_next (below_alloc w (.cells #[.string s, .int .i64 k, .int .i64 z, .slice a zs.length c] 106)) (below_alloc _ (.cells #[.string ⟨#[]⟩, .int .i64 0, .int .i64 0, .slice none 0 0] 91))) (below_alloc _ (.cells #[.string s, .int .i64 k, .int .i64 z, .slice none 0 0] 91)))
  have hsz : (((w.alloc (.cells #[.string s, .int .i64 k, .int .i64 z, .slice a zs.length c] 106)).alloc (.cells #[.string ⟨#[]⟩, .int .i64 0, .int .i64 0, .slice none 0 0] 91)).alloc (.cells #[.string s, .int .i64 k, .int .i64 z, .slice none 0 0] 91)).heap.size = w.heap.size + 3 := by simp
  have h1 : (w.alloc (.cells #[.string s, .int .i64 k, .int .i64 z, .slice a zs.length c] 106)).heap.size = w.heap.size + 1 := by simp
  have h2 : ((w.alloc (.cells #[.string s, .int .i64 k, .int .i64 z, .slice a zs.length c] 106)).alloc (.cells #[.string ⟨#[]⟩, .int .i64 0, .int .i64 0, .slice none 0 0] 91)).heap.size = w.heap.size + 1 + 1 := by simp
  rw [h1] at X1
  rw [h2] at X2
  clear h1 h2
  generalize ((w.alloc (.cells #[.string s, .int .i64 k, .int .i64 z, .slice a zs.length c] 106)).alloc (.cells #[.string ⟨#[]⟩, .int .i64 0, .int .i64 0, .slice none 0 0] 91)).alloc (.cells #[.string s, .int .i64 k, .int .i64 z, .slice none 0 0] 91) = W at *
  have HZ := hide hsz
  clear hsz
  refine (toInt64S_own a c zs _ (HR.out.below B0.out) hl).mono ?_
  rintro e w1 ⟨g, rfl, hg, ho, b1⟩
  obtain ⟨⟨q0, q1, q2, q3⟩, qf⟩ := X1.out.below b1
  obtain ⟨⟨r0, r1, r2, r3⟩, rf⟩ := X2.out.below b1
  have qf0 := qf 0
  have qf1 := qf 1
  have qf2 := qf 2
  have qf3 := qf 3
  have rf3 := rf 3
  have hg2 : w.heap.size + 3 ≤ g := by have := HZ.out; omega
  have HO := hide ho
  have HB := hide (below_next B0.out b1)
  clear ho b1 X1 X2 B0 hg qf rf
  go_wp2_with fail
  have hk : Kept (fun b => b = w.heap.size + 1 ∨ b = w.heap.size + 1 + 1) w1 (((((w1.setCell ⟨w.heap.size + 1 + 1, 3, none⟩ (.slice (some ⟨g, 0, none⟩) zs.length zs.length)).setCell ⟨w.heap.size + 1, 0, none⟩ (.string s)).setCell ⟨w.heap.size + 1, 1, none⟩ (.int .i64 k)).setCell ⟨w.heap.size + 1, 2, none⟩ (.int .i64 z)).setCell ⟨w.heap.size + 1, 3, none⟩ (.slice (some ⟨g, 0, none⟩) zs.length zs.length)) :=
    Kept.setCell (p := ⟨w.heap.size + 1, 3, none⟩) (Kept.setCell (p := ⟨w.heap.size + 1, 2, none⟩) (Kept.setCell (p := ⟨w.heap.size + 1, 1, none⟩) (Kept.setCell (p := ⟨w.heap.size + 1, 0, none⟩) (Kept.setCell (p := ⟨w.heap.size + 1 + 1, 3, none⟩) (Kept.refl _ _) (fun _ => .inr rfl) _) (fun _ => .inl rfl) _) (fun _ => .inl rfl) _) (fun _ => .inl rfl) _) (fun _ => .inl rfl) _
  refine bodyPost_ret (v := .agg #[.string s, .int .i64 k, .int .i64 z, (.slice (some ⟨g, 0, none⟩) zs.length zs.length)]) (by simp [results, Try.results59, go_sem, q0, q1, q2, q3]) rfl ⟨g, rfl, by omega, ?_, HB.out.trans (hk.below HB.out.size (fun k hk hS => by omega))⟩
  exact ownsRow_mono (ownsRow_kept HO.out hk (fun b hb hS => by simp only [Value.ownBlock, Option.some.injEq] at hb; omega)) (by have := HZ.out; omega)

set_option maxHeartbeats 400000 in
theorem eqEntry_same (s : ByteArray) (k z : Int) (a b : Option Addr) (ca cb : Nat) (zs : List Int) (w : World) (ha : Reads .i64 w a zs) (hb : Reads .i64 w b zs) (hl : zs.length ≤ 1048576) :
    Calls Try.prog 61 #[.agg #[.string s, .int .i64 k, .int .i64 z, .slice a zs.length ca], .agg #[.string s, .int .i64 k, .int .i64 z, .slice b zs.length cb]] w fun e w' => e = .returned (.bool true) ∧ Below w.heap.size w w' := by
  have HA := hide ha
  have HB := hide hb
  clear ha hb
  have B1 := hide (below_next (below_alloc w (.cells #[.string s, .int .i64 k, .int .i64 z, .slice a zs.length ca] 91)) (below_alloc _ (.cells #[.string s, .int .i64 k, .int .i64 z, .slice b zs.length cb] 91)))
  go_enter Try.func61, Try.ntmps61
  go_wp2_with fail
  refine (eqInt64S_b a b ca cb zs _ (HA.out.below B1.out) (HB.out.below B1.out) hl).mono ?_
  rintro e w1 ⟨rfl, b1⟩
  have B2 := hide (below_next B1.out b1)
  clear b1 B1
  go_wp2_with fail
  go_ret
  exact ⟨rfl, B2.out⟩

theorem trod_four {H : Type} {enc : TypeId × Value → H} {P : Program} {w : World} {base : Nat} {spare : Nat → Bool} {held : Bool} {t : TypeId} {f0 f1 f2 f3 : Field} {fuel : Nat} {cs : List Value} {x : DataW H × List MemPlace}
    (he : P.underlying t = some (.struct #[f0, f1, f2, f3])) (ce : P.cellsOf t = 4) (o0 : f0.offset = 0) (o1 : f1.offset = 1) (o2 : f2.offset = 2) (o3 : f3.offset = 3)
    (c0 : P.cellsOf f0.type = 1) (c1 : P.cellsOf f1.type = 1) (c2 : P.cellsOf f2.type = 1) (c3 : P.cellsOf f3.type = 1) (h : DataW.trod enc P w base spare held fuel t cs = some x) :
    ∃ (v0 v1 v2 v3 : Value) (n : Nat) (y0 y1 y2 y3 : DataW H × List MemPlace), cs = [v0, v1, v2, v3] ∧ DataW.trod enc P w base spare held n f0.type [v0] = some y0 ∧ DataW.trod enc P w base spare held n f1.type [v1] = some y1 ∧
      DataW.trod enc P w base spare held n f2.type [v2] = some y2 ∧ DataW.trod enc P w base spare held n f3.type [v3] = some y3 := by
  obtain ⟨xs, k, hk, hxy, hlen, hxl, hf⟩ := DataW.trod_struct he h
  rw [ce] at hlen
  match xs, hxl, cs, hlen with
  | [y0, y1, y2, y3], _, [v0, v1, v2, v3], _ =>
    have g0 := hf 0 f0 rfl
    have g1 := hf 1 f1 rfl
    have g2 := hf 2 f2 rfl
    have g3 := hf 3 f3 rfl
    simp [o0, o1, o2, o3, c0, c1, c2, c3] at g0 g1 g2 g3
    exact ⟨v0, v1, v2, v3, k, y0, y1, y2, y3, rfl, g0, g1, g2, g3⟩
theorem reads_of_rowE {W : World} {x : Addr} {l c : Nat} {zs : List Int} (hz : zs.length = c) (hl : l ≤ c) (hm : c ≤ maxLen) (hcell : ∀ i, i < zs.length → W.cell? (x.add i) = some (.int .i64 (zs.getD i 0))) (hwz : ∀ n ∈ zs, (Lit.int .i64 n).wf = true) :
    ∃ ys : List Int, ys.length = l ∧ Reads .i64 W (some x) ys ∧ (∀ z ∈ ys, (Lit.int .i64 z).wf = true) ∧ ys.length ≤ maxLen := by
  have hlen : (zs.take l).length = l := by simp; omega
  refine ⟨zs.take l, hlen, ?_, fun z hz' => hwz z (List.mem_of_mem_take hz'), by omega⟩
  intro hne
  have h0 : 0 < l := by
    rcases Nat.eq_zero_or_pos l with h | h
    · subst h; exact absurd rfl hne
    · exact h
  obtain ⟨b, off, spot⟩ := x
  have hc := hcell 0 (by omega)
  have hspot : spot = none := by simpa [Addr.add] using World.cell?_spot hc
  subst hspot
  refine ⟨b, off, rfl, World.block_lt_of_cell? W _ (by simpa [Addr.add] using hc), fun i hi => ?_⟩
  have := hcell i (by omega)
  have e : (zs.take l).getD i 0 = zs.getD i 0 := by
    have h2 : i < l := by omega
    simp [List.getD_eq_getElem?_getD, h2]
  rw [e]
  have ea : (⟨b, off, none⟩ : Addr).add i = ⟨b, off + i, none⟩ := by unfold Addr.add; split <;> simp_all
  rw [ea] at this
  exact this

theorem ints_of_trodE {H : Type} {enc : TypeId × Value → H} {W : World} {a : Option Addr} {n c fuel : Nat} {x : DataW H × List MemPlace}
    (h : DataW.trod enc Try.prog W 0 (fun _ => true) true fuel 24 [.slice a n c] = some x) : ∃ zs : List Int, zs.length = n ∧ Reads .i64 W a zs ∧ (∀ z ∈ zs, (Lit.int .i64 z).wf = true) ∧ zs.length ≤ maxLen := by
  rcases open_ints Try.underlying24 Try.underlying2 (by kernel_rfl) h with ⟨hcs, _⟩ | ⟨x, l, c, zs, hcs, _, hl, hm, hz, _, hcell, hwz⟩
  · simp at hcs
    obtain ⟨rfl, rfl, rfl⟩ := hcs
    exact ⟨[], rfl, fun h => absurd rfl h, fun z hz => by simp at hz, Nat.zero_le _⟩
  · simp at hcs
    obtain ⟨rfl, rfl, rfl⟩ := hcs
    exact reads_of_rowE (by simpa using hz) hl hm hcell hwz
structure InE (W : World) (e : En) (a : Option Addr) : Prop where
  rd : Reads .i64 W a e.chunks
  kd : (Lit.int .i64 e.kind).wf = true
  sz : (Lit.int .i64 e.size).wf = true
  ch : ∀ z ∈ e.chunks, (Lit.int .i64 z).wf = true
  pl : e.path.length ≤ maxLen
  cl : e.chunks.length ≤ maxLen
theorem entry_of_trod {H : Type} {enc : TypeId × Value → H} {W : World} {fuel : Nat} {cs : List Value} {x : DataW H × List MemPlace}
    (h : DataW.trod enc Try.prog W 0 (fun _ => true) true fuel 106 cs = some x) : ∃ (e : En) (a : Option Addr) (c : Nat), cs = [.string (str e.path), .int .i64 e.kind, .int .i64 e.size, .slice a e.chunks.length c] ∧ InE W e a := by
  obtain ⟨v0, v1, v2, v3, n, y0, y1, y2, y3, rfl, g0, g1, g2, g3⟩ := trod_four Try.underlying106 (by kernel_rfl) rfl rfl rfl rfl (by kernel_rfl) (by kernel_rfl) (by kernel_rfl) (by kernel_rfl) h
  obtain ⟨s, hs, _, hsl⟩ := DataW.trod_string Try.underlying9 g0
  obtain ⟨k, hk, _, hkw⟩ := DataW.trod_int Try.underlying2 g1
  obtain ⟨z, hz, _, hzw⟩ := DataW.trod_int Try.underlying2 g2
  obtain ⟨a1, n1, k1, e1⟩ : ∃ a1 n1 k1, v3 = .slice a1 n1 k1 := by
    rcases open_ints Try.underlying24 Try.underlying2 (by kernel_rfl) g3 with ⟨hcs, _⟩ | ⟨x, l, c, zs, hcs, _⟩
    · simp at hcs; exact ⟨_, _, _, hcs⟩
    · simp at hcs; exact ⟨_, _, _, hcs⟩
  rw [e1] at g3
  obtain ⟨zs, rfl, hr, hu, hml⟩ := ints_of_trodE g3
  simp only [List.cons.injEq, and_true] at hs hk hz
  subst hs hk hz e1
  exact ⟨⟨s.data.toList, k, z, zs⟩, a1, k1, by simp [str_of], ⟨hr, hkw, hzw, hu, by rw [← Lib.size_eq]; exact hsl, hml⟩⟩

end Go.Proofs.Ytfamojijgjmcmaa

namespace Go.Proofs.Ytfamojijgjmcmaa
open Go.RowKit Go.Maps
set_option linter.unusedVariables false

set_option maxRecDepth 100000 in
set_option maxHeartbeats 1600000 in
theorem eqEntryS_same (a b : Option Addr) (ca cb n : Nat) (es : List En) (w : World) (ha : RdE w a es) (hb : RdE w b es) (hn : n = es.length) (hl : es.length ≤ 1048576) (hs : ∀ e ∈ es, e.chunks.length ≤ 1048576) :
    Calls Try.prog 55 #[.slice a n ca, .slice b n cb] w fun e w' => e = .returned (.bool true) ∧ Below w.heap.size w w' := by
  subst hn
  have hne : ((es.length : Int) != (es.length : Int)) = false := by simp
  have HA := hide ha
  have HB := hide hb
  have HS := hide hs
  clear ha hb hs
  go_enter Try.func55, Try.ntmps55
  go_wp2_with fail
  go_loopw [5] (fun i wr => ∃ k : Nat, k ≤ es.length ∧ i = .int .i64 k ∧ Hid (Below w.heap.size w wr)) (fun i _ => es.length - (intOf i).toNat)
  case atStart => exact ⟨0, Nat.zero_le _, rfl, hide (Below.refl _ _)⟩
  case round =>
    obtain ⟨k, hk, rfl, HW⟩ := hrel
    by_cases hlt : k < es.length
    · obtain ⟨b1, o1, e, x1, c1, rfl, hb1, he, p0, p1, p2, p3, r1⟩ := (HA.out.below HW.out).at hlt
      obtain ⟨b2, o2, e', x2, c2, rfl, hb2, he', q0, q1, q2, q3, r2⟩ := (HB.out.below HW.out).at hlt
      have : e' = e := Option.some.inj (he'.symm.trans he)
      subst this
      have hcl := HS.out e' (List.mem_of_getElem? he)
      have R1 := hide r1
      have R2 := hide r2
      clear he he' r1 r2
      have KC : Hid (∀ w' : World, Below wr.heap.size wr w' → (w'.cell? ⟨b1, o1 + k * 4, none⟩ = some (.string (str e'.path)) ∧ w'.cell? ⟨b1, o1 + k * 4 + 1, none⟩ = some (.int .i64 e'.kind) ∧ w'.cell? ⟨b1, o1 + k * 4 + 2, none⟩ = some (.int .i64 e'.size) ∧ w'.cell? ⟨b1, o1 + k * 4 + 3, none⟩ = some (.slice x1 e'.chunks.length c1)) ∧ w'.cell? ⟨b2, o2 + k * 4, none⟩ = some (.string (str e'.path)) ∧ w'.cell? ⟨b2, o2 + k * 4 + 1, none⟩ = some (.int .i64 e'.kind) ∧ w'.cell? ⟨b2, o2 + k * 4 + 2, none⟩ = some (.int .i64 e'.size) ∧ w'.cell? ⟨b2, o2 + k * 4 + 3, none⟩ = some (.slice x2 e'.chunks.length c2)) := hide (fun w' hb => ⟨⟨(hb.cell (p := ⟨b1, o1 + k * 4, none⟩) hb1).trans p0, (hb.cell (p := ⟨b1, o1 + k * 4 + 1, none⟩) hb1).trans p1, (hb.cell (p := ⟨b1, o1 + k * 4 + 2, none⟩) hb1).trans p2, (hb.cell (p := ⟨b1, o1 + k * 4 + 3, none⟩) hb1).trans p3⟩, (hb.cell (p := ⟨b2, o2 + k * 4, none⟩) hb2).trans q0, (hb.cell (p := ⟨b2, o2 + k * 4 + 1, none⟩) hb2).trans q1, (hb.cell (p := ⟨b2, o2 + k * 4 + 2, none⟩) hb2).trans q2, (hb.cell (p := ⟨b2, o2 + k * 4 + 3, none⟩) hb2).trans q3⟩)
      go_wp2_with fail
      go_region_held3 (fun w' => (w'.cell? ⟨b1, o1 + k * 4, none⟩ = some (.string (str e'.path)) ∧ w'.cell? ⟨b1, o1 + k * 4 + 1, none⟩ = some (.int .i64 e'.kind) ∧ w'.cell? ⟨b1, o1 + k * 4 + 2, none⟩ = some (.int .i64 e'.size) ∧ w'.cell? ⟨b1, o1 + k * 4 + 3, none⟩ = some (.slice x1 e'.chunks.length c1)) ∧ w'.cell? ⟨b2, o2 + k * 4, none⟩ = some (.string (str e'.path)) ∧ w'.cell? ⟨b2, o2 + k * 4 + 1, none⟩ = some (.int .i64 e'.kind) ∧ w'.cell? ⟨b2, o2 + k * 4 + 2, none⟩ = some (.int .i64 e'.size) ∧ w'.cell? ⟨b2, o2 + k * 4 + 3, none⟩ = some (.slice x2 e'.chunks.length c2)) (first | exact KC.out _ BB8.out | go_keep)
        ((first
          | (go_at_call 61; refine (eqEntry_same _ _ _ _ _ _ _ e'.chunks _ (R1.out.below (Below.refl _ _).drew) (R2.out.below (Below.refl _ _).drew) hcl).mono ?_; rintro r w8 ⟨rfl, b8⟩; have BB8 := hide ((Below.refl wr.heap.size wr).drew.trans b8); clear b8)))
      clear p0 p1 p2 p3 q0 q1 q2 q3
      go_wp2_with fail
      go_roundw
      case rel => exact ⟨k + 1, by omega, by go_num, hide (below_next HW.out BB8.out)⟩
      case measure => simp [intOf]; omega
    · go_wp2_with fail
      go_ret
      exact ⟨rfl, HW.out⟩


theorem rowR_set3 : ∀ (rs : List Rw) (j : Nat) (r : Rw) (e' : En), rs[j]? = some r → e'.chunks.length = r.e.chunks.length →
    (((rowR rs).set (j * 4) (.string (str e'.path))).set (j * 4 + 1) (.int .i64 e'.kind)).set (j * 4 + 2) (.int .i64 e'.size) = rowR (rs.set j ⟨e', r.a, r.c⟩)
  | [], j, r, e', h, _ => by simp at h
  | x :: rs, 0, r, e', h, hl => by
    simp only [List.getElem?_cons_zero, Option.some.injEq] at h
    subst h
    simp [rowR, cellsR, hl]
  | x :: rs, j + 1, r, e', h, hl => by
    have ih := rowR_set3 rs j r e' (by simpa using h) hl
    have e1 : rowR (x :: rs) = cellsR x ++ rowR rs := rfl
    have e2 : rowR ((x :: rs).set (j + 1) ⟨e', r.a, r.c⟩) = cellsR x ++ rowR (rs.set j ⟨e', r.a, r.c⟩) := rfl
    have hx : (cellsR x).length = 4 := rfl
    rw [e1, e2, ← ih, List.set_append_right _ _ (by omega), List.set_append_right _ _ (by omega), List.set_append_right _ _ (by omega), hx]
    rw [show (j + 1) * 4 - 4 = j * 4 by omega, show (j + 1) * 4 + 1 - 4 = j * 4 + 1 by omega, show (j + 1) * 4 + 2 - 4 = j * 4 + 2 by omega]

theorem GE.open {B T : Nat} {w : World} {a : Option Addr} {n c : Nat} {es : List En} {j : Nat} {e : En} (h : GE B T w (.slice a n c) es) (he : es[j]? = some e) :
    ∃ (G : Nat) (x : Option Addr) (y : Nat), a = some ⟨G, 0, none⟩ ∧ B ≤ G ∧ G < T ∧ w.cell? ⟨G, j * 4, none⟩ = some (.string (str e.path)) ∧ w.cell? ⟨G, j * 4 + 1, none⟩ = some (.int .i64 e.kind) ∧ w.cell? ⟨G, j * 4 + 2, none⟩ = some (.int .i64 e.size) ∧ w.cell? ⟨G, j * 4 + 3, none⟩ = some (.slice x e.chunks.length y) ∧
      (∀ i, w.frozen? ⟨G, i, none⟩ = false) ∧ Own .i64 w x e.chunks ∧ (∀ b, blkOf x b → B ≤ b ∧ b < T ∧ b ≠ G) ∧
      ∀ (e' : En) (w2 : World), e'.chunks.length = e.chunks.length → Own .i64 w2 x e'.chunks → Kept (blkOf x) (((w.setCell ⟨G, j * 4, none⟩ (.string (str e'.path))).setCell ⟨G, j * 4 + 1, none⟩ (.int .i64 e'.kind)).setCell ⟨G, j * 4 + 2, none⟩ (.int .i64 e'.size)) w2 →
        SameShape (((w.setCell ⟨G, j * 4, none⟩ (.string (str e'.path))).setCell ⟨G, j * 4 + 1, none⟩ (.int .i64 e'.kind)).setCell ⟨G, j * 4 + 2, none⟩ (.int .i64 e'.size)) w2 →
        GE B T w2 (.slice a n c) (es.set j e') := by
  obtain ⟨rs, hrs, h1, h2, h3, h4, h5⟩ := h
  have hj := (List.getElem?_eq_some_iff.1 he).1
  have hl : rs.length = es.length := by rw [← hrs, List.length_map]
  obtain ⟨r, hr⟩ : ∃ r, rs[j]? = some r := ⟨rs[j]'(by omega), List.getElem?_eq_getElem (by omega)⟩
  have hre : r.e = e := by
    have : (rs.map Rw.e)[j]? = some r.e := by rw [List.getElem?_map, hr]; rfl
    rw [hrs, he] at this
    exact (Option.some.inj this).symm
  rcases h1.2 with ⟨_, h0⟩ | ⟨G, cap, cur, h', hb, hh, hnc, hcm, hcs, htake⟩
  · omega
  · simp only [Value.slice.injEq] at h'
    obtain ⟨rfl, rfl, rfl⟩ := h'
    have hc := fun q hq => (h1.cellAt (j * 4 + q) (by omega)).trans (rowR_get rs j q r hr hq)
    have hm := List.mem_of_getElem? hr
    have hne : ∀ b, blkOf r.a b → b ≠ G := fun b hb e => ownsRow_apart h1 (h2 r hm) (by decide) (by subst e; rfl) (block_own hb)
    refine ⟨G, r.a, r.c, rfl, hb, h5 G rfl, ?_, ?_, ?_, ?_, fun i => h1.frozenAt i, ?_, fun b hb => ⟨((h2 r hm).lt b (block_own hb)).1, h4 r hm b hb, hne b hb⟩, ?_⟩
    · have := hc 0 (by decide); rw [← hre]; first | (simp [cellsR]; done) | (simpa [cellsR] using this)
    · have := hc 1 (by decide); rw [← hre]; first | (simp [cellsR]; done) | (simpa [cellsR] using this)
    · have := hc 2 (by decide); rw [← hre]; first | (simp [cellsR]; done) | (simpa [cellsR] using this)
    · have := hc 3 (by decide); rw [← hre]; first | (simp [cellsR]; done) | (simpa [cellsR] using this)
    · rw [← hre]; exact ownsRow_own (h2 r hm) rfl
    · intro e' w2 hlen ho hk hs
      have hlen' : e'.chunks.length = r.e.chunks.length := by rw [hre]; exact hlen
      have s1 := (((h1.stored (j * 4) (.string (str e'.path))).1.stored (j * 4 + 1) (.int .i64 e'.kind)).1.stored (j * 4 + 2) (.int .i64 e'.size)).1
      rw [rowR_set3 rs j r e' hr hlen'] at s1
      have hmapa : (rs.set j ⟨e', r.a, r.c⟩).map Rw.a = rs.map Rw.a := by
        rw [List.map_set]
        apply List.ext_getElem?
        intro i
        by_cases hi : i = j
        · subst hi; rw [List.getElem?_set_self (by simp; omega), List.getElem?_map, hr]; rfl
        · rw [List.getElem?_set_ne (fun e => hi e.symm)]
      have hk1 : Kept (fun b => b = G) w (((w.setCell ⟨G, j * 4, none⟩ (.string (str e'.path))).setCell ⟨G, j * 4 + 1, none⟩ (.int .i64 e'.kind)).setCell ⟨G, j * 4 + 2, none⟩ (.int .i64 e'.size)) :=
        Kept.setCell (S := fun b => b = G) (p := ⟨G, j * 4 + 2, none⟩) (Kept.two _ _ _ _ _ _) (fun _ => rfl) _
      refine ⟨rs.set j ⟨e', r.a, r.c⟩, by rw [List.map_set, hrs], ?_, ?_, ?_, ?_, h5⟩
      · rw [List.length_set]
        exact ownsRow_kept s1 hk (fun b hb hS => hne b hS (by simpa [Value.ownBlock, eq_comm] using hb))
      · intro r0 hr0
        obtain ⟨i, hi⟩ := List.mem_iff_getElem?.1 hr0
        by_cases e : i = j
        · subst e
          rw [List.getElem?_set_self (by omega)] at hi
          simp only [Option.some.injEq] at hi
          subst hi
          have r1 : (((w.setCell ⟨G, i * 4, none⟩ (.string (str e'.path))).setCell ⟨G, i * 4 + 1, none⟩ (.int .i64 e'.kind)).setCell ⟨G, i * 4 + 2, none⟩ (.int .i64 e'.size)).ownsRow B 2 1 (.slice r.a r.e.chunks.length r.c) r.e.chunks.length (r.e.chunks.map (Value.int .i64)) :=
            ownsRow_kept (h2 r hm) hk1 (fun b hb e => ownsRow_apart h1 (h2 r hm) (by decide) (by subst e; rfl) hb)
          show w2.ownsRow B 2 1 (.slice r.a e'.chunks.length r.c) e'.chunks.length (e'.chunks.map (Value.int .i64))
          rw [hlen']
          rcases (h2 r hm).2 with ⟨h', h0⟩ | ⟨g, cap', cur', h', _⟩
          · simp only [Value.slice.injEq] at h'
            have e1 : e'.chunks = [] := List.eq_nil_of_length_eq_zero (by omega)
            rw [h'.1, h'.2.2, h0, e1]
            exact World.ownsRow_nil _ _ _ _
          · simp only [Value.slice.injEq, true_and] at h'
            obtain ⟨hA, hC⟩ := h'
            rw [hA] at r1 ho ⊢
            refine own_back r1 hs (by simp [hlen']) (fun t ht => ?_)
            obtain ⟨b, off, e1, hb, hc⟩ := ho (by intro e; rw [e] at hlen'; simp at hlen'; omega)
            simp only [Option.some.injEq, Addr.mk.injEq, and_true] at e1
            obtain ⟨rfl, rfl⟩ := e1
            have := (hc t (by omega)).1
            rw [Nat.zero_add] at this
            rw [this]
            have ht2 : t < e'.chunks.length := by omega
            simp [List.getD_eq_getElem?_getD, ht2]
        · rw [List.getElem?_set_ne (fun x => e x.symm)] at hi
          have hm0 := List.mem_of_getElem? hi
          have r1 := ownsRow_kept (h2 r0 hm0) hk1 (fun b hb e => ownsRow_apart h1 (h2 r0 hm0) (by decide) (by subst e; rfl) hb)
          refine ownsRow_kept r1 hk (fun b hb hS => ?_)
          have hi' := (List.getElem?_eq_some_iff.1 hi)
          have hj' := (List.getElem?_eq_some_iff.1 hr)
          have hb0 := own_block hb
          rcases Nat.lt_or_gt_of_ne e with hlt | hlt
          · have := List.pairwise_iff_getElem.1 h3 i j hi'.1 hj'.1 hlt b (by rw [hi'.2]; exact hb0)
            rw [hj'.2] at this
            exact this hS
          · have := List.pairwise_iff_getElem.1 h3 j i hj'.1 hi'.1 hlt b (by rw [hj'.2]; exact hS)
            rw [hi'.2] at this
            exact this hb0
      · have : (rs.map Rw.a).Pairwise (fun x y => ∀ g, x.map Addr.block = some g → y.map Addr.block ≠ some g) := List.pairwise_map.2 h3
        rw [← hmapa] at this
        exact List.pairwise_map.1 this
      · intro r0 hr0 g hg
        have : r0.a ∈ (rs.set j ⟨e', r.a, r.c⟩).map Rw.a := List.mem_map_of_mem hr0
        rw [hmapa] at this
        obtain ⟨r2, hr2, e2⟩ := List.mem_map.1 this
        exact h4 r2 hr2 g (by rw [e2]; exact hg)

end Go.Proofs.Ytfamojijgjmcmaa

namespace Go.Proofs.Ytfamojijgjmcmaa
open Go.RowKit Go.Maps
set_option linter.unusedVariables false
attribute [local go_sem ↓] Go.wp_at_zero Go.wp_at_succ

theorem add_addr (b o j : Nat) : (⟨b, o, none⟩ : Addr).add j = ⟨b, o + j, none⟩ := by unfold Addr.add; split <;> simp_all
end Go.Proofs.Ytfamojijgjmcmaa

namespace Go.Proofs.Ytfamojijgjmcmaa
open Go.ChangeShapes Go.WideShapes Go.ChangeAt Go.RowKit
set_option linter.unusedVariables false

def szE : List En → Nat
  | [] => 0
  | e :: es => e.path.length + e.chunks.length + szE es
theorem szE_append : ∀ (a b : List En), szE (a ++ b) = szE a + szE b
  | [], b => by simp [szE]
  | x :: a, b => by simp only [List.cons_append, szE, szE_append a b]; omega
theorem szE_take {es : List En} {j : Nat} {e : En} (h : es[j]? = some e) : szE (es.take (j + 1)) = szE (es.take j) + e.path.length + e.chunks.length := by
  rw [take_snoc_at h, szE_append]; simp only [szE]; omega
theorem szE_le (es : List En) (j : Nat) : szE (es.take j) ≤ szE es := by
  have := szE_append (es.take j) (es.drop j)
  rw [List.take_append_drop] at this
  omega
theorem szE_mem {es : List En} {e : En} (h : e ∈ es) : e.path.length + e.chunks.length ≤ szE es := by
  induction es with
  | nil => simp at h
  | cons x es ih =>
    simp only [szE]
    rcases List.mem_cons.1 h with rfl | h
    · omega
    · have := ih h; omega
theorem szE_small {es : List En} (h : szE es ≤ 1048576) : SmallE es := fun e he => by have := szE_mem he; omega

set_option maxRecDepth 100000 in
set_option maxHeartbeats 800000 in
theorem szEntryS_fits (a : Option Addr) (c n : Nat) (es : List En) (left : Int) (w : World) (h : RdE w a es) (hn : n = es.length) (h0 : left ≤ 1048576) (hfit : (es.length : Int) + (szE es : Int) ≤ left) :
    Calls Try.prog 45 #[.slice a n c, .int .i64 left] w fun e w' => e = .returned (.int .i64 (left - es.length - szE es)) ∧ Below w.heap.size w w' := by
  subst hn
  have hb : ¬ (left - (es.length : Int)) < 0 := by omega
  have HA := hide h
  clear h
  go_enter Try.func45, Try.ntmps45
  go_wp2_with fail
  go_loopw [1, 5] (fun q i wr => ∃ k : Nat, k ≤ es.length ∧ i = .int .i64 k ∧ q = .int .i64 (left - es.length - szE (es.take k)) ∧ Hid (Below w.heap.size w wr)) (fun _ i _ => es.length - (intOf i).toNat)
  case atStart => exact ⟨0, Nat.zero_le _, rfl, by simp [szE], hide (Below.refl _ _)⟩
  case round =>
    obtain ⟨k, hk, rfl, rfl, HW⟩ := hrel
    by_cases hlt : k < es.length
    · obtain ⟨b, off, e, x, cc, rfl, hb1, he, c0, c1, c2, c3, hr⟩ := (HA.out.below HW.out).at hlt
      have hst := szE_take he
      have hle := szE_le es (k + 1)
      have HST := hide hst
      have hss : ((str e.path).size : Int) = (e.path.length : Int) := by rw [str_size]
      have hb2 : ¬ (left - (es.length : Int) - (szE (es.take k) : Int) - (str e.path).size - (e.chunks.length : Int)) < 0 := by omega
      clear hst hr he
      go_wp2_with fail
      refine (szEntry_fits (str e.path) _ _ _ _ _ _ _ (by omega) (by omega)).mono ?_
      rintro r w1 ⟨rfl, b1⟩
      have HB1 := hide b1
      clear b1
      go_wp2_with fail
      go_roundw
      case rel => exact ⟨k + 1, by omega, by go_num, by rw [HST.out]; go_num, hide (below_next HW.out HB1.out)⟩
      case measure => simp [intOf]; omega
    · have HE := hide (show es.take k = es from List.take_of_length_le (by omega))
      rw [HE.out]
      go_wp2_with fail
      go_ret
      exact ⟨rfl, HW.out⟩

set_option maxRecDepth 100000 in
set_option maxHeartbeats 800000 in
theorem szEntryS_not (a : Option Addr) (c n : Nat) (es : List En) (left : Int) (w : World) (h : RdE w a es) (hn : n = es.length) (h00 : 0 ≤ left) (h0 : left ≤ 1048576) (hm : (es.length : Int) ≤ 9223372036854775807) (hmE : ∀ e ∈ es, (e.path.length : Int) ≤ 9223372036854775807 ∧ (e.chunks.length : Int) ≤ 9223372036854775807) (hfit : left < (es.length : Int) + (szE es : Int)) :
    Calls Try.prog 45 #[.slice a n c, .int .i64 left] w fun e w' => e = .returned (.int .i64 (-1)) ∧ Below w.heap.size w w' := by
  subst hn
  by_cases hsm : left < (es.length : Int)
  · have hb : (left - (es.length : Int)) < 0 := by omega
    clear h
    go_enter Try.func45, Try.ntmps45
    go_wp2_with fail
    go_ret
    exact ⟨rfl, Below.refl _ _⟩
  · have hb : ¬ (left - (es.length : Int)) < 0 := by omega
    have HA := hide h
    have HM := hide hmE
    clear h hmE
    go_enter Try.func45, Try.ntmps45
    go_wp2_with fail
    go_loopw [1, 5] (fun q i wr => ∃ k : Nat, k ≤ es.length ∧ i = .int .i64 k ∧ q = .int .i64 (left - es.length - szE (es.take k)) ∧ (es.length : Int) + (szE (es.take k) : Int) ≤ left ∧ Hid (Below w.heap.size w wr)) (fun _ i _ => es.length - (intOf i).toNat)
    case atStart => exact ⟨0, Nat.zero_le _, rfl, by simp [szE], by simp [szE]; omega, hide (Below.refl _ _)⟩
    case round =>
      obtain ⟨k, hk, rfl, rfl, hft, HW⟩ := hrel
      have hlt : k < es.length := by
        rcases Nat.lt_or_ge k es.length with h1 | h1
        · exact h1
        · rw [List.take_of_length_le h1] at hft
          omega
      obtain ⟨b, off, e, x, cc, rfl, hb1, he, c0, c1, c2, c3, hr⟩ := (HA.out.below HW.out).at hlt
      have hst := szE_take he
      have hmk := HM.out e (List.mem_of_getElem? he)
      have HST := hide hst
      have hss : ((str e.path).size : Int) = (e.path.length : Int) := by rw [str_size]
      clear hst hr he
      by_cases hf : (es.length : Int) + (szE (es.take k) : Int) + (e.path.length : Int) + (e.chunks.length : Int) ≤ left
      · have hb2 : ¬ (left - (es.length : Int) - (szE (es.take k) : Int) - (str e.path).size - (e.chunks.length : Int)) < 0 := by omega
        go_wp2_with fail
        refine (szEntry_fits (str e.path) _ _ _ _ _ _ _ (by omega) (by omega)).mono ?_
        rintro r w1 ⟨rfl, b1⟩
        have HB1 := hide b1
        clear b1
        go_wp2_with fail
        go_roundw
        case rel => exact ⟨k + 1, by omega, by go_num, by rw [HST.out]; go_num, by rw [HST.out]; omega, hide (below_next HW.out HB1.out)⟩
        case measure => simp [intOf]; omega
      · go_wp2_with fail
        refine (szEntry_not (str e.path) _ _ _ _ _ _ _ (by omega) (by omega) (by omega) (by omega) (by omega)).mono ?_
        rintro r w1 ⟨rfl, b1⟩
        have HB1 := hide b1
        clear b1
        go_wp2_with fail
        go_ret
        exact ⟨rfl, below_next HW.out HB1.out⟩

def zEn : En := ⟨[], 0, 0, []⟩
theorem rowR_set4 : ∀ (rs : List Rw) (j : Nat) (r : Rw), j < rs.length →
    ((((rowR rs).set (j * 4) (.string (str r.e.path))).set (j * 4 + 1) (.int .i64 r.e.kind)).set (j * 4 + 2) (.int .i64 r.e.size)).set (j * 4 + 3) (.slice r.a r.e.chunks.length r.c) = rowR (rs.set j r)
  | [], j, r, h => by simp at h
  | x :: rs, 0, r, h => by simp [rowR, cellsR]
  | x :: rs, j + 1, r, h => by
    have ih := rowR_set4 rs j r (by simpa using h)
    have e1 : rowR (x :: rs) = cellsR x ++ rowR rs := rfl
    have e2 : rowR ((x :: rs).set (j + 1) r) = cellsR x ++ rowR (rs.set j r) := rfl
    have hx : (cellsR x).length = 4 := rfl
    rw [e1, e2, ← ih, List.set_append_right _ _ (by omega), List.set_append_right _ _ (by omega), List.set_append_right _ _ (by omega), List.set_append_right _ _ (by omega), hx]
    rw [show (j + 1) * 4 - 4 = j * 4 by omega, show (j + 1) * 4 + 1 - 4 = j * 4 + 1 by omega, show (j + 1) * 4 + 2 - 4 = j * 4 + 2 by omega, show (j + 1) * 4 + 3 - 4 = j * 4 + 3 by omega]

theorem GE.store {B : Nat} {w w1 : World} {G n c : Nat} {es : List En} {j : Nat} {e : En} {a : Option Addr} {cc : Nat} (h : GE B w.heap.size w (.slice (some ⟨G, 0, none⟩) n c) es) (hn : n = es.length) (hj : j < es.length) (hB : B ≤ w.heap.size) (hbel : Below w.heap.size w w1)
    (hown : w1.ownsRow w.heap.size 2 1 (.slice a e.chunks.length cc) e.chunks.length (e.chunks.map (Value.int .i64))) :
    GE B w1.heap.size ((((w1.setCell ⟨G, j * 4, none⟩ (.string (str e.path))).setCell ⟨G, j * 4 + 1, none⟩ (.int .i64 e.kind)).setCell ⟨G, j * 4 + 2, none⟩ (.int .i64 e.size)).setCell ⟨G, j * 4 + 3, none⟩ (.slice a e.chunks.length cc)) (.slice (some ⟨G, 0, none⟩) n c) (es.set j e) := by
  subst hn
  obtain ⟨rs, hrs, h1, h2, h3, h4, h5⟩ := h
  have hl : rs.length = es.length := by rw [← hrs, List.length_map]
  have k1 := ownsRow_below h1 hbel
  have hsz := hbel.size
  have s1 := ((((k1.stored (j * 4) (.string (str e.path))).1.stored (j * 4 + 1) (.int .i64 e.kind)).1.stored (j * 4 + 2) (.int .i64 e.size)).1.stored (j * 4 + 3) (.slice a e.chunks.length cc)).1
  rw [rowR_set4 rs j ⟨e, a, cc⟩ (by omega)] at s1
  have hkp : Kept (fun b => b = G) w1 ((((w1.setCell ⟨G, j * 4, none⟩ (.string (str e.path))).setCell ⟨G, j * 4 + 1, none⟩ (.int .i64 e.kind)).setCell ⟨G, j * 4 + 2, none⟩ (.int .i64 e.size)).setCell ⟨G, j * 4 + 3, none⟩ (.slice a e.chunks.length cc)) :=
    Kept.setCell (S := fun b => b = G) (p := ⟨G, j * 4 + 3, none⟩) (Kept.setCell (S := fun b => b = G) (p := ⟨G, j * 4 + 2, none⟩) (Kept.two _ _ _ _ _ _) (fun _ => rfl) _) (fun _ => rfl) _
  have hold : ∀ r ∈ rs, ∀ g, r.a.map Addr.block = some g → g < w.heap.size := fun r hr g hg => ((h2 r hr).lt g (block_own hg)).2
  have hnew : ∀ g, a.map Addr.block = some g → w.heap.size ≤ g ∧ g < w1.heap.size := fun g hg => hown.lt g (block_own hg)
  refine ⟨rs.set j ⟨e, a, cc⟩, by rw [List.map_set, hrs], by rw [List.length_set]; exact s1, ?_, ?_, ?_, fun b hb => by have := h5 b hb; omega⟩
  · intro r0 hr0
    rcases List.mem_or_eq_of_mem_set hr0 with hr | rfl
    · have q2 := ownsRow_below (h2 r0 hr) hbel
      exact ownsRow_kept q2 hkp (fun b hb hS => ownsRow_apart k1 q2 (by decide) (by subst hS; rfl) hb)
    · exact ownsRow_kept (ownsRow_mono hown hB) hkp (fun b hb hS => ownsRow_apart k1 hown (by decide) (by subst hS; rfl) hb)
  · rw [List.pairwise_iff_getElem]
    intro i i' hi hi' hlt g hg hg'
    rw [List.length_set] at hi hi'
    rw [List.getElem_set] at hg hg'
    by_cases e1 : j = i
    · rw [if_pos e1] at hg
      rw [if_neg (by omega)] at hg'
      have := hold _ (List.getElem_mem hi') g hg'
      have := hnew g hg
      omega
    · rw [if_neg e1] at hg
      by_cases e2 : j = i'
      · rw [if_pos e2] at hg'
        have := hold _ (List.getElem_mem hi) g hg
        have := hnew g hg'
        omega
      · rw [if_neg e2] at hg'
        exact List.pairwise_iff_getElem.1 h3 i i' hi hi' hlt g hg hg'
  · intro r0 hr0 g hg
    rcases List.mem_or_eq_of_mem_set hr0 with hr | rfl
    · have := hold r0 hr g hg; omega
    · exact (hnew g hg).2
theorem zeros_row (n : Nat) : (madeCells (Value.agg #[.string ⟨#[]⟩, .int .i64 0, .int .i64 0, .slice none 0 0]).cells (n * 4)).toList = rowR (List.replicate n ⟨zEn, none, 0⟩) := by
  have hl := rowR_length (List.replicate n ⟨zEn, none, 0⟩)
  rw [List.length_replicate] at hl
  apply List.ext_getElem?
  intro p
  by_cases hp : p < n * 4
  · have e : p = p / 4 * 4 + p % 4 := by omega
    have h1 : p / 4 < n := by omega
    have h2 : p % 4 < 4 := by omega
    rw [e, rowR_get _ (p / 4) (p % 4) ⟨zEn, none, 0⟩ (by simp [h1]) h2, ← e]
    have hm : p % 4 = 0 ∨ p % 4 = 1 ∨ p % 4 = 2 ∨ p % 4 = 3 := by omega
    rcases hm with hm | hm | hm | hm <;> simp [madeCells, hp, hm, cellsR, zEn, Value.cells, str]
  · rw [List.getElem?_eq_none (by simp [madeCells]; omega), List.getElem?_eq_none (by omega)]
theorem GE.zeros {B n T : Nat} {w : World} {v : Value} (h : w.ownsRow B 91 4 v n (madeCells (Value.agg #[.string ⟨#[]⟩, .int .i64 0, .int .i64 0, .slice none 0 0]).cells (n * 4)).toList) (hT : ∀ b, v.ownBlock = some b → b < T) : GE B T w v (List.replicate n zEn) := by
  refine ⟨List.replicate n ⟨zEn, none, 0⟩, by simp, by rw [List.length_replicate, ← zeros_row]; exact h, fun r hr => ?_, ?_, fun r hr g hg => ?_, hT⟩
  · rw [(List.mem_replicate.1 hr).2]; exact World.ownsRow_nil _ _ _ _
  · rw [List.pairwise_iff_getElem]
    intro i i' hi hi' hlt g hg
    simp at hg
  · rw [(List.mem_replicate.1 hr).2] at hg
    simp at hg

set_option maxRecDepth 100000 in
set_option maxHeartbeats 1600000 in
theorem toEntryS_any (a : Option Addr) (c n : Nat) (es : List En) (w : World) (h : RdE w a es) (hn : n = es.length) (hl : es.length ≤ 1048576) (hs : SmallE es) :
    Calls Try.prog 47 #[.slice a n c] w fun e w' => ∃ G, e = .returned (.slice (some ⟨G, 0, none⟩) n n) ∧ w.heap.size ≤ G ∧ GE w.heap.size w'.heap.size w' (.slice (some ⟨G, 0, none⟩) n n) es ∧ Below w.heap.size w w' := by
  subst hn
  obtain ⟨i1, ki, kz0, kz1, kz2⟩ := info_parts Try.infoEn
  have HA := hide h
  have HS := hide hs
  clear h hs
  have hby : i1.bytes * es.length ≤ 281474976710656 := by rw [kz2]; omega
  have hml : es.length ≤ maxLen := by unfold maxLen; omega
  go_enter Try.func47, Try.ntmps47
  go_wp2_with (at_make; refine wpList_make_full _ rfl (.tmp 6) (.tmp 6) 59 rfl w.heap.size 91 i1 (.agg #[.string ⟨#[]⟩, .int .i64 0, .int .i64 0, .slice none 0 0]) 4 Try.underlying59 ki kz0 kz1 .i64 .i64 _ _ es.length rfl rfl rfl rfl hby hml (Nat.le_refl _) ?_; intro w1 ho1 hg1; have HO1 := hide ho1; have HG1 := hide hg1; clear ho1 hg1)
  have B1 : Hid (Below w.heap.size w w1) := (Below.refl _ _).grown HG1.out (Nat.le_refl _) (fun k hk => by simp at hk)
  have G1 : Hid (GE w.heap.size w1.heap.size w1 (.slice (some ⟨w.heap.size, 0, none⟩) es.length es.length) (List.replicate es.length zEn)) := hide (GE.zeros HO1.out (fun b hb => (HO1.out.lt b hb).2))
  clear HO1 HG1
  go_loopw [4] (fun i wr => ∃ k : Nat, k ≤ es.length ∧ i = .int .i64 k ∧ Hid (GE w.heap.size wr.heap.size wr (.slice (some ⟨w.heap.size, 0, none⟩) es.length es.length) (es.take k ++ List.replicate (es.length - k) zEn)) ∧ Hid (Below w.heap.size w wr)) (fun i _ => es.length - (intOf i).toNat)
  case atStart => exact ⟨0, Nat.zero_le _, rfl, hide (by simpa using G1.out), B1⟩
  case round =>
    obtain ⟨k, hk, rfl, HG, HW⟩ := hrel
    clear G1 B1
    have hsz := HW.out.size
    by_cases hlt : k < es.length
    · obtain ⟨b, off, e, x, cc, rfl, hb1, he, c0, c1, c2, c3, hr⟩ := (HA.out.below HW.out).at hlt
      have hsm := HS.out e (List.mem_of_getElem? he)
      have HX := hide he
      have HRc := hide hr
      clear he hr
      have hlen : (es.take k ++ List.replicate (es.length - k) zEn).length = es.length := by simp; omega
      have HSTEP := hide (show (es.take k ++ List.replicate (es.length - k) zEn).set k e = es.take (k + 1) ++ List.replicate (es.length - (k + 1)) zEn from by
        rw [List.set_append_right _ _ (by rw [List.length_take]; omega), List.length_take, show k - min k es.length = 0 by omega, take_snoc_at HX.out, show es.length - k = (es.length - (k + 1)) + 1 by omega, List.replicate_succ]
        simp)
      have HZ := hide (show (es.take k ++ List.replicate (es.length - k) zEn)[k]? = some zEn from by
        rw [List.getElem?_append_right (by rw [List.length_take]; omega), List.length_take]
        rw [List.getElem?_replicate]
        rw [if_pos (by omega)])
      have HLE := hide hlen
      clear hlen
      generalize es.take k ++ List.replicate (es.length - k) zEn = L at HG HSTEP HZ HLE
      go_wp2_with fail
      refine (toEntry_any _ _ _ _ _ e.chunks _ HRc.out hsm.2).mono ?_
      rintro r w2 ⟨g, rfl, hg, ho, hb⟩
      obtain ⟨G, x', y', hGe, hg1, hg2, m0, m1, m2, m3, mf, -⟩ := (HG.out.below hb).open HZ.out
      simp only [Option.some.injEq, Addr.mk.injEq, and_true] at hGe
      subst hGe
      have mf0 := mf (k * 4)
      have mf1 := mf (k * 4 + 1)
      have mf2 := mf (k * 4 + 2)
      have mf3 := mf (k * 4 + 3)
      have HO2 := hide ho
      have HB2 := hide hb
      clear ho hb mf
      go_wp2_with fail
      go_roundw
      case rel =>
        refine ⟨k + 1, by omega, by go_num, hide ?_, hide ((((HW.out.trans (HB2.out.mono hsz)).setCell (p := ⟨w.heap.size, k * 4, none⟩) (Nat.le_refl _) _).setCell (p := ⟨w.heap.size, k * 4 + 1, none⟩) (Nat.le_refl _) _).setCell (p := ⟨w.heap.size, k * 4 + 2, none⟩) (Nat.le_refl _) _ |>.setCell (p := ⟨w.heap.size, k * 4 + 3, none⟩) (Nat.le_refl _) _)⟩
        have := GE.store HG.out (e := e) HLE.out.symm (show k < L.length by rw [HLE.out]; exact hlt) hsz HB2.out HO2.out
        rw [HSTEP.out] at this
        simpa [World.setCell] using this
      case measure => simp [intOf]; omega
    · have hke : k = es.length := by omega
      have HE := hide (show es.take k ++ List.replicate (es.length - k) zEn = es from by rw [List.take_of_length_le (by omega), show es.length - k = 0 by omega]; simp)
      clear hke
      rw [HE.out] at HG
      go_wp2_with fail
      go_ret
      exact ⟨_, rfl, Nat.le_refl _, HG.out, HW.out⟩

theorem entries_of_trod {H : Type} {enc : TypeId × Value → H} {W : World} {a : Option Addr} {n c fuel : Nat} {x : DataW H × List MemPlace}
    (h : DataW.trod enc Try.prog W 0 (fun _ => true) true fuel 66 [.slice a n c] = some x) :
    ∃ es : List En, es.length = n ∧ RdE W a es ∧ es.length ≤ maxLen ∧ ∀ e ∈ es, e.path.length ≤ maxLen ∧ e.chunks.length ≤ maxLen := by
  rcases Deep.open_slice Try.underlying66 h with ⟨hcs, _⟩ | ⟨ad, l, cp, m, fu, D, Pl, hcs, _, hl, hm, hmm, _, hx⟩
  · simp at hcs
    obtain ⟨rfl, rfl, rfl⟩ := hcs
    exact ⟨[], rfl, fun h => absurd rfl h, Nat.zero_le _, fun e he => by simp at he⟩
  · simp at hcs
    obtain ⟨rfl, rfl, rfl⟩ := hcs
    simp only [if_true] at hmm
    subst hmm
    have ce : Try.prog.cellsOf 106 = 4 := by kernel_rfl
    have each : ∀ i, i < n → ∃ q : En × Option Addr × Nat, (W.cell? (ad.add (i * 4)) = some (.string (str q.1.path)) ∧ W.cell? (ad.add (i * 4 + 1)) = some (.int .i64 q.1.kind) ∧ W.cell? (ad.add (i * 4 + 2)) = some (.int .i64 q.1.size) ∧ W.cell? (ad.add (i * 4 + 3)) = some (.slice q.2.1 q.1.chunks.length q.2.2)) ∧ InE W q.1 q.2.1 := by
      intro i hi
      obtain ⟨cs', h1, h2⟩ := hx i (by omega)
      rw [ce] at h1
      obtain ⟨e, a1, c1, rfl, hin⟩ := entry_of_trod h2
      obtain ⟨_, hlen, hcell⟩ := World.cells?_some h1
      have e0 := hcell 0 (by omega)
      have e1 := hcell 1 (by omega)
      have e2 := hcell 2 (by omega)
      have e3 := hcell 3 (by omega)
      rw [Deep.add_add] at e0 e1 e2 e3
      exact ⟨(e, a1, c1), ⟨by simpa using e0, by simpa using e1, by simpa using e2, by simpa using e3⟩, hin⟩
    haveI : Inhabited (En × Option Addr × Nat) := ⟨(zEn, none, 0)⟩
    obtain ⟨q, hq⟩ := Deep.choose_lt each
    refine ⟨(List.range n).map fun i => (q i).1, by simp, ?_, by simp; omega, ?_⟩
    · intro hz
      have hn : 0 < n := by
        rcases Nat.eq_zero_or_pos n with h0 | h0
        · subst h0; exact absurd rfl hz
        · exact h0
      obtain ⟨b, off, spot⟩ := ad
      have hspot : spot = none := by simpa [Addr.add] using World.cell?_spot (hq 0 hn).1.1
      subst hspot
      refine ⟨b, off, fun i => (q i).2.1, fun i => (q i).2.2, rfl, World.block_lt_of_cell? W _ (by simpa [Addr.add] using (hq 0 hn).1.1), fun i e he => ?_⟩
      have hi : i < n := by have := (List.getElem?_eq_some_iff.1 he).1; simpa using this
      have hee : (q i).1 = e := by simpa [hi] using he
      subst hee
      obtain ⟨⟨c0, c1, c2, c3⟩, hin⟩ := hq i hi
      rw [add_addr] at c0 c1 c2 c3
      exact ⟨c0, by rw [Nat.add_assoc]; exact c1, by rw [Nat.add_assoc]; exact c2, by rw [Nat.add_assoc]; exact c3, hin.rd⟩
    · intro e he
      obtain ⟨i, hi, rfl⟩ := List.mem_map.1 he
      have hin := (hq i (List.mem_range.1 hi)).2
      exact ⟨hin.pl, hin.cl⟩

end Go.Proofs.Ytfamojijgjmcmaa

namespace Go.Proofs.Ytfamojijgjmcmaa
open Go.RowKit
set_option linter.unusedVariables false

def flat (n : Nat) (F : Nat → List Value) : List Value := (List.range n).flatMap F

theorem flat_succ (n : Nat) (F : Nat → List Value) : flat (n + 1) F = flat n F ++ F n := by
  simp [flat, List.range_succ]
theorem flat_length {k : Nat} {F : Nat → List Value} : ∀ {n : Nat}, (∀ i, i < n → (F i).length = k) → (flat n F).length = n * k
  | 0, _ => by simp [flat]
  | n + 1, h => by
    rw [flat_succ, List.length_append, flat_length (fun i hi => h i (by omega)), h n (by omega), Nat.succ_mul]
theorem flat_get {k : Nat} {F : Nat → List Value} : ∀ {n : Nat}, (∀ i, i < n → (F i).length = k) → ∀ i r, i < n → r < k → (flat n F)[i * k + r]? = (F i)[r]?
  | 0, _, i, r, hi, _ => by omega
  | n + 1, h, i, r, hi, hr => by
    have hl := flat_length (n := n) (F := F) (k := k) (fun i hi => h i (by omega))
    rw [flat_succ]
    by_cases e : i = n
    · subst e
      rw [List.getElem?_append_right (by omega), hl]
      congr 1
      omega
    · have hlt : i * k + r < n * k := by
        have : (i + 1) * k ≤ n * k := Nat.mul_le_mul_right k (by omega)
        rw [Nat.succ_mul] at this
        omega
      rw [List.getElem?_append_left (by omega)]
      exact flat_get (fun i hi => h i (by omega)) i r (by omega) hr
theorem flat_congr {F G : Nat → List Value} {n : Nat} (h : ∀ i, i < n → F i = G i) : flat n F = flat n G := by
  unfold flat
  induction n with
  | zero => rfl
  | succ n ih =>
    rw [List.range_succ, List.flatMap_append, List.flatMap_append, ih (fun i hi => h i (by omega))]
    simp [h n (by omega)]
theorem flat_set {k : Nat} {F : Nat → List Value} {n : Nat} (h : ∀ i, i < n → (F i).length = k) (i r : Nat) (hi : i < n) (hr : r < k) (u : Value) :
    (flat n F).set (i * k + r) u = flat n (fun t => if t = i then (F t).set r u else F t) := by
  have h' : ∀ t, t < n → (if t = i then (F t).set r u else F t).length = k := fun t ht => by
    by_cases e : t = i
    · rw [if_pos e, List.length_set]; exact h t ht
    · rw [if_neg e]; exact h t ht
  have l1 := flat_length h
  have l2 := flat_length h'
  apply List.ext_getElem?
  intro p
  by_cases hp : p < n * k
  · have hk : 0 < k := by omega
    have e : p = p / k * k + p % k := by rw [Nat.mul_comm]; exact (Nat.div_add_mod p k).symm
    have h1 : p / k < n := Nat.div_lt_of_lt_mul (by rw [Nat.mul_comm]; exact hp)
    have h2 : p % k < k := Nat.mod_lt _ hk
    generalize p / k = a at e h1
    generalize p % k = b at e h2
    subst e
    rw [flat_get h' a b h1 h2]
    by_cases ea : a = i
    · subst ea
      rw [if_pos rfl]
      by_cases eb : b = r
      · subst eb
        rw [List.getElem?_set_self (by omega), List.getElem?_set_self (by rw [h a h1]; omega)]
      · rw [List.getElem?_set_ne (by omega), List.getElem?_set_ne (by omega), flat_get h a b h1 h2]
    · rw [if_neg ea]
      have hne : i * k + r ≠ a * k + b := by
        intro e
        rcases Nat.lt_or_gt_of_ne ea with hlt | hgt
        · have : (a + 1) * k ≤ i * k := Nat.mul_le_mul_right k hlt
          rw [Nat.succ_mul] at this
          omega
        · have : (i + 1) * k ≤ a * k := Nat.mul_le_mul_right k hgt
          rw [Nat.succ_mul] at this
          omega
      rw [List.getElem?_set_ne hne, flat_get h a b h1 h2]
  · rw [List.getElem?_eq_none (by rw [List.length_set]; omega), List.getElem?_eq_none (by omega)]

end Go.Proofs.Ytfamojijgjmcmaa

