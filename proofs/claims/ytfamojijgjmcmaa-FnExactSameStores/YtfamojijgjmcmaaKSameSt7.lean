/-
  Texts put together: StoG StoC.
-/
import Derived.Test.YtfamojijgjmcmaaKSameSt3
import Derived.Test.YtfamojijgjmcmaaKSameSt1
import Derived.ProofKit
import Derived.ChangeOld
import Derived.Test.YtfamojijgjmcmaaKSameSt5
import Derived.Test.YtfamojijgjmcmaaKSameSt6
namespace Go.Proofs.Ytfamojijgjmcmaa
open Go.ChangeShapes Go.WideShapes Go.ChangeAt Go.RowKit
set_option linter.unusedVariables false
def OL (w : World) (g1 g2 : Nat) (S L : List Int) : Prop := Own .u8 w (some ⟨g1, 0, none⟩) S ∧ Own .u8 w (some ⟨g2, 0, none⟩) L
theorem OL.kept {P : Nat → Prop} {w w' : World} {g1 g2 : Nat} {S L : List Int} (h : OL w g1 g2 S L) (hk : Kept P w w') (hn : ∀ b, b = g1 ∨ b = g2 → ¬ P b) : OL w' g1 g2 S L :=
  ⟨h.1.kept hk (fun b hb => hn b (.inl (by simpa [blkOf, eq_comm] using hb))), h.2.kept hk (fun b hb => hn b (.inr (by simpa [blkOf, eq_comm] using hb)))⟩
theorem szB_fits (a : Option Addr) (n c : Nat) (left : Int) (w : World) (h0 : left ≤ 1048576) (hn : (n : Int) ≤ left) :
    Calls Try.prog 27 #[.slice a n c, .int .i64 left] w fun e w' => e = .returned (.int .i64 (left - n)) ∧ w' = w := by
  have h1 : ¬ (left - n) < 0 := by omega
  go_enter Try.func27, Try.ntmps27
  go_wp2
  go_ret
  exact ⟨rfl, rfl⟩
theorem szB_not (a : Option Addr) (n c : Nat) (left : Int) (w : World) (h0 : 0 ≤ left) (hl : left ≤ 1048576) (hm : (n : Int) ≤ 9223372036854775807) (hn : left < (n : Int)) :
    Calls Try.prog 27 #[.slice a n c, .int .i64 left] w fun e w' => e = .returned (.int .i64 (-1)) ∧ w' = w := by
  have h1 : (left - n) < 0 := by omega
  go_enter Try.func27, Try.ntmps27
  go_wp2
  go_ret
  exact ⟨rfl, rfl⟩
theorem szLog_fits (left : Int) (hLa : 0 ≤ left) (hLb : left ≤ 1048576) (sa : Option Addr) (n sc : Nat) (la : Option Addr) (m lc : Nat) (w : World) (h : (n : Int) + m ≤ left) :
    Calls Try.prog 11 #[.agg #[.slice sa n sc, .slice la m lc], .int .i64 left] w fun e w' => e = .returned (.int .i64 (left - n - m)) ∧ Below w.heap.size w w' := by
  have h1 : ¬ (left - n) < 0 := by omega
  have h2 : ¬ (left - n - m) < 0 := by omega
  go_enter Try.func11, Try.ntmps11
  go_wp2_with fail
  refine (szB_fits sa n sc left _ hLb (by omega)).mono ?_
  rintro e w1 ⟨rfl, rfl⟩
  go_wp2_with fail
  refine (szB_fits la m lc (left - n) _ (by omega) (by omega)).mono ?_
  rintro e w2 ⟨rfl, rfl⟩
  go_wp2_with fail
  go_ret
  exact ⟨rfl, below_alloc _ _⟩
theorem szLog_not (left : Int) (hLa : 0 ≤ left) (hLb : left ≤ 1048576) (sa : Option Addr) (n sc : Nat) (la : Option Addr) (m lc : Nat) (w : World) (hn : (n : Int) ≤ 9223372036854775807) (hm : (m : Int) ≤ 9223372036854775807) (h : ¬ (n : Int) + m ≤ left) :
    Calls Try.prog 11 #[.agg #[.slice sa n sc, .slice la m lc], .int .i64 left] w fun e w' => e = .returned (.int .i64 (-1)) ∧ Below w.heap.size w w' := by
  by_cases h0 : (n : Int) ≤ left
  · have h1 : ¬ (left - n) < 0 := by omega
    go_enter Try.func11, Try.ntmps11
    go_wp2_with fail
    refine (szB_fits sa n sc left _ hLb (by omega)).mono ?_
    rintro e w1 ⟨rfl, rfl⟩
    go_wp2_with fail
    refine (szB_not la m lc (left - n) _ (by omega) (by omega) hm (by omega)).mono ?_
    rintro e w2 ⟨rfl, rfl⟩
    go_wp2_with fail
    go_ret
    exact ⟨rfl, below_alloc _ _⟩
  · go_enter Try.func11, Try.ntmps11
    go_wp2_with fail
    refine (szB_not sa n sc left _ hLa hLb hn (by omega)).mono ?_
    rintro e w1 ⟨rfl, rfl⟩
    go_wp2_with fail
    go_ret
    exact ⟨rfl, below_alloc _ _⟩
set_option maxRecDepth 100000 in
set_option maxHeartbeats 800000 in
theorem toLog_any (sa : Option Addr) (sc : Nat) (S : List Int) (la : Option Addr) (lc : Nat) (L : List Int) (w : World) (hs : Reads .u8 w sa S) (hl : Reads .u8 w la L) (ns : S.length ≤ 1048576) (nl : L.length ≤ 1048576) :
    Calls Try.prog 16 #[.agg #[.slice sa S.length sc, .slice la L.length lc]] w fun e w' => ∃ g1 g2, e = .returned (.agg #[.slice (some ⟨g1, 0, none⟩) S.length S.length, .slice (some ⟨g2, 0, none⟩) L.length L.length]) ∧ w.heap.size ≤ g1 ∧ g1 < g2 ∧ g2 < w'.heap.size ∧ OL w' g1 g2 S L ∧ Below w.heap.size w w' := by
  have HS := hide (fun (u : World) (hb : Below w.heap.size w u) => hs.below hb)
  have HL := hide (fun (u : World) (hb : Below w.heap.size w u) => hl.below hb)
  clear hs hl
  have A0 := hide (below_alloc w (.cells #[.slice sa S.length sc, .slice la L.length lc] 30))
  have A1 := hide (below_alloc (w.alloc (.cells #[.slice sa S.length sc, .slice la L.length lc] 30)) (.cells #[.slice none 0 0, .slice none 0 0] 40))
  have A2 := hide (below_alloc ((w.alloc (.cells #[.slice sa S.length sc, .slice la L.length lc] 30)).alloc (.cells #[.slice none 0 0, .slice none 0 0] 40)) (.cells #[.slice none 0 0, .slice none 0 0] 40))
  have B0 := hide (below_next (below_next A0.out A1.out) A2.out)
  have T0 := hide (((Two.new w (.slice sa S.length sc) (.slice la L.length lc) 30).below A1.out).below A2.out)
  have X1 := hide ((Box.new (w.alloc (.cells #[.slice sa S.length sc, .slice la L.length lc] 30)) (.slice none 0 0) (.slice none 0 0) 40).below A2.out)
  have X2 := hide (Box.new ((w.alloc (.cells #[.slice sa S.length sc, .slice la L.length lc] 30)).alloc (.cells #[.slice none 0 0, .slice none 0 0] 40)) (.slice none 0 0) (.slice none 0 0) 40)
  rw [show (w.alloc (.cells #[.slice sa S.length sc, .slice la L.length lc] 30)).heap.size = w.heap.size + 1 by simp] at X1
  rw [show ((w.alloc (.cells #[.slice sa S.length sc, .slice la L.length lc] 30)).alloc (.cells #[.slice none 0 0, .slice none 0 0] 40)).heap.size = w.heap.size + 1 + 1 by simp] at X2
  have HZ0 := hide (show (((w.alloc (.cells #[.slice sa S.length sc, .slice la L.length lc] 30)).alloc (.cells #[.slice none 0 0, .slice none 0 0] 40)).alloc (.cells #[.slice none 0 0, .slice none 0 0] 40)).heap.size = w.heap.size + 3 by simp)
  go_enter Try.func16, Try.ntmps16
  go_wp2_with fail
  clear A0 A1 A2
  generalize ((w.alloc (.cells #[.slice sa S.length sc, .slice la L.length lc] 30)).alloc (.cells #[.slice none 0 0, .slice none 0 0] 40)).alloc (.cells #[.slice none 0 0, .slice none 0 0] 40) = W0 at *
  have hz0 : w.heap.size + 3 ≤ W0.heap.size := by have := HZ0.out; omega
  refine (toByteS_at sa sc S W0 (HS.out W0 B0.out) ns).mono ?_
  rintro e w1 ⟨g1, rfl, hg1, hg1', ho1, hb1⟩
  have B1 := hide (below_next B0.out hb1)
  have T1 := hide (T0.out.below hb1)
  have X11 := hide (X1.out.below hb1)
  have X21 := hide (X2.out.below hb1)
  obtain ⟨⟨y0, y1⟩, y2, y3⟩ := X21.out
  have K1 := hide (Kept.setCell (S := fun b => b = w.heap.size + 1 + 1) (p := ⟨w.heap.size + 1 + 1, 0, none⟩) (Kept.refl _ w1) (fun _ => rfl) (.slice (some ⟨g1, 0, none⟩) S.length S.length))
  have T2 := hide (T1.out.kept K1.out (by omega))
  have X12 := hide (X11.out.kept K1.out (by omega))
  have X22 : Hid (Box (w1.setCell ⟨w.heap.size + 1 + 1, 0, none⟩ (.slice (some ⟨g1, 0, none⟩) S.length S.length)) (w.heap.size + 1 + 1) (.slice (some ⟨g1, 0, none⟩) S.length S.length) (.slice none 0 0)) := hide ⟨⟨cell_set_same y0, (cell_set_other (by simp)).trans y1⟩, by simpa using y2, by simpa using y3⟩
  have O2 := hide (ho1.kept K1.out (fun b hb e => by simp only [blkOf, Option.map_some, Option.some.injEq] at hb; omega))
  have B2 := hide (B1.out.trans (K1.out.below (B := w.heap.size) B1.out.size (fun k hk e => by omega)))
  have hz1 : g1 < (w1.setCell ⟨w.heap.size + 1 + 1, 0, none⟩ (.slice (some ⟨g1, 0, none⟩) S.length S.length)).heap.size := by simp; omega
  clear hb1 ho1 T1 X11 X21 B1 K1
  obtain ⟨t0, t1⟩ := T2.out
  go_wp2_with fail
  clear t0 t1 y0 y1 y2 y3
  generalize w1.setCell ⟨w.heap.size + 1 + 1, 0, none⟩ (.slice (some ⟨g1, 0, none⟩) S.length S.length) = W1 at *
  refine (toByteS_at la lc L W1 (HL.out W1 B2.out) nl).mono ?_
  rintro e w2 ⟨g2, rfl, hg2, hg2', ho2, hb2⟩
  have B3 := hide (below_next B2.out hb2)
  have X13 := hide (X12.out.below hb2)
  have X23 := hide (X22.out.below hb2)
  obtain ⟨⟨y0, y1⟩, y2, y3⟩ := X23.out
  obtain ⟨⟨q0, q1⟩, q2, q3⟩ := X13.out
  have O3 := hide (O2.out.below hb2)
  have O4 := hide ho2
  clear hb2 ho2
  go_wp2_with fail
  have K2 := hide (Kept.setCell (S := fun b => b = w.heap.size + 1 + 1) (p := ⟨w.heap.size + 1 + 1, 1, none⟩) (Kept.refl _ w2) (fun _ => rfl) (.slice (some ⟨g2, 0, none⟩) L.length L.length))
  have K3 := hide (Kept.two (w2.setCell ⟨w.heap.size + 1 + 1, 1, none⟩ (.slice (some ⟨g2, 0, none⟩) L.length L.length)) (w.heap.size + 1) 0 1 (.slice (some ⟨g1, 0, none⟩) S.length S.length) (.slice (some ⟨g2, 0, none⟩) L.length L.length))
  refine bodyPost_ret (v := .agg #[.slice (some ⟨g1, 0, none⟩) S.length S.length, .slice (some ⟨g2, 0, none⟩) L.length L.length]) (by simp [results, Try.results16, go_sem, q0, q1]) rfl ⟨g1, g2, rfl, by omega, by omega, by simp; omega, ⟨?_, ?_⟩, ((B3.out.setCell (p := ⟨w.heap.size + 1 + 1, 1, none⟩) (by show w.heap.size ≤ w.heap.size + 1 + 1; omega) _).setCell (p := ⟨w.heap.size + 1, 0, none⟩) (by show w.heap.size ≤ w.heap.size + 1; omega) _).setCell (p := ⟨w.heap.size + 1, 1, none⟩) (by show w.heap.size ≤ w.heap.size + 1; omega) _⟩
  · exact (O3.out.kept K2.out (fun b hb e => by simp only [blkOf, Option.map_some, Option.some.injEq] at hb; omega)).kept K3.out (fun b hb e => by simp only [blkOf, Option.map_some, Option.some.injEq] at hb; omega)
  · exact (O4.out.kept K2.out (fun b hb e => by simp only [blkOf, Option.map_some, Option.some.injEq] at hb; omega)).kept K3.out (fun b hb e => by simp only [blkOf, Option.map_some, Option.some.injEq] at hb; omega)
set_option maxHeartbeats 800000 in
theorem eqLog_same (sa sb : Option Addr) (sc sd : Nat) (S : List Int) (la lb : Option Addr) (lc ld : Nat) (L : List Int) (w : World) (h1 : Reads .u8 w sa S) (h2 : Reads .u8 w sb S) (h3 : Reads .u8 w la L) (h4 : Reads .u8 w lb L) (ns : S.length ≤ 1048576) (nl : L.length ≤ 1048576) :
    Calls Try.prog 22 #[.agg #[.slice sa S.length sc, .slice la L.length lc], .agg #[.slice sb S.length sd, .slice lb L.length ld]] w fun e w' => e = .returned (.bool true) ∧ Below w.heap.size w w' := by
  have B0 := hide (below_next (below_alloc w (.cells #[.slice sa S.length sc, .slice la L.length lc] 40)) (below_alloc _ (.cells #[.slice sb S.length sd, .slice lb L.length ld] 40)))
  have C1 := hide (fun (u : World) (hb : Below w.heap.size w u) => eqByteS_b sa sb sc sd S u (h1.below hb) (h2.below hb) ns)
  have C2 := hide (fun (u : World) (hb : Below w.heap.size w u) => eqByteS_b la lb lc ld L u (h3.below hb) (h4.below hb) nl)
  have T0 := hide ((Two.new w (.slice sa S.length sc) (.slice la L.length lc) 40).below (below_alloc _ (.cells #[.slice sb S.length sd, .slice lb L.length ld] 40)))
  have U0 := hide (Two.new (w.alloc (.cells #[.slice sa S.length sc, .slice la L.length lc] 40)) (.slice sb S.length sd) (.slice lb L.length ld) 40)
  rw [show (w.alloc (.cells #[.slice sa S.length sc, .slice la L.length lc] 40)).heap.size = w.heap.size + 1 by simp] at U0
  clear h1 h2 h3 h4
  go_enter Try.func22, Try.ntmps22
  go_wp2_with fail
  refine (C1.out _ B0.out).mono ?_
  rintro e w1 ⟨rfl, hb1⟩
  have B1 := hide (below_next B0.out hb1)
  obtain ⟨t0, t1⟩ := T0.out.below hb1
  obtain ⟨u0, u1⟩ := U0.out.below hb1
  clear hb1
  go_wp2_with fail
  refine (C2.out _ B1.out).mono ?_
  rintro e w2 ⟨rfl, hb2⟩
  have B2 := hide (below_next B1.out hb2)
  clear hb2
  go_wp2_with fail
  go_ret
  exact ⟨rfl, B2.out⟩
theorem bytesL_of_trod {H : Type} {enc : TypeId × Value → H} {W : World} {a : Option Addr} {n c fuel : Nat} {x : DataW H × List MemPlace}
    (h : DataW.trod enc Try.prog W 0 (fun _ => true) true fuel 28 [.slice a n c] = some x) : ∃ zs : List Int, zs.length = n ∧ Reads .u8 W a zs ∧ U8 zs ∧ zs.length ≤ maxLen := by
  rcases open_ints Try.underlying28 Try.underlying5 (by kernel_rfl) h with ⟨hcs, _⟩ | ⟨x, l, c, zs, hcs, _, hl, hm, hz, _, hcell, hwz⟩
  · simp at hcs
    obtain ⟨rfl, rfl, rfl⟩ := hcs
    exact ⟨[], rfl, fun h => absurd rfl h, fun z hz => by simp at hz, Nat.zero_le _⟩
  · simp at hcs
    obtain ⟨rfl, rfl, rfl⟩ := hcs
    exact reads_of_row (by simpa using hz) hl hm hcell hwz
theorem trod_twoL {H : Type} {enc : TypeId × Value → H} {P : Program} {w : World} {base : Nat} {spare : Nat → Bool} {held : Bool} {t : TypeId} {f0 f1 : Field} {fuel : Nat} {cs : List Value} {x : DataW H × List MemPlace}
    (he : P.underlying t = some (.struct #[f0, f1])) (ce : P.cellsOf t = 2) (o0 : f0.offset = 0) (o1 : f1.offset = 1)
    (c0 : P.cellsOf f0.type = 1) (c1 : P.cellsOf f1.type = 1) (h : DataW.trod enc P w base spare held fuel t cs = some x) :
    ∃ (v0 v1 : Value) (n : Nat) (y0 y1 : DataW H × List MemPlace), cs = [v0, v1] ∧ DataW.trod enc P w base spare held n f0.type [v0] = some y0 ∧ DataW.trod enc P w base spare held n f1.type [v1] = some y1 := by
  obtain ⟨xs, k, hk, hxy, hlen, hxl, hf⟩ := DataW.trod_struct he h
  rw [ce] at hlen
  match xs, hxl, cs, hlen with
  | [y0, y1], _, [v0, v1], _ =>
    have g0 := hf 0 f0 rfl
    have g1 := hf 1 f1 rfl
    simp [o0, o1, c0, c1] at g0 g1
    exact ⟨v0, v1, k, y0, y1, rfl, g0, g1⟩
theorem log_of_trod {H : Type} {enc : TypeId × Value → H} {W : World} {fuel : Nat} {cs : List Value} {x : DataW H × List MemPlace}
    (h : DataW.trod enc Try.prog W 0 (fun _ => true) true fuel 30 cs = some x) :
    ∃ (sa : Option Addr) (sc : Nat) (S : List Int) (la : Option Addr) (lc : Nat) (L : List Int), cs = [.slice sa S.length sc, .slice la L.length lc] ∧ (Reads .u8 W sa S ∧ Reads .u8 W la L) ∧ (U8 S ∧ U8 L) ∧ S.length ≤ maxLen ∧ L.length ≤ maxLen := by
  obtain ⟨v0, v1, m, y0, y1, rfl, g0, g1⟩ := trod_twoL Try.underlying30 (by kernel_rfl) rfl rfl (by kernel_rfl) (by kernel_rfl) h
  obtain ⟨a0, n0, k0, e0⟩ : ∃ a n k, v0 = .slice a n k := by
    rcases open_ints Try.underlying28 Try.underlying5 (by kernel_rfl) g0 with ⟨hcs, _⟩ | ⟨x, l, c, zs, hcs, _⟩
    · simp at hcs; exact ⟨_, _, _, hcs⟩
    · simp at hcs; exact ⟨_, _, _, hcs⟩
  obtain ⟨a1, n1, k1, e1⟩ : ∃ a n k, v1 = .slice a n k := by
    rcases open_ints Try.underlying28 Try.underlying5 (by kernel_rfl) g1 with ⟨hcs, _⟩ | ⟨x, l, c, zs, hcs, _⟩
    · simp at hcs; exact ⟨_, _, _, hcs⟩
    · simp at hcs; exact ⟨_, _, _, hcs⟩
  subst e0 e1
  obtain ⟨S, rfl, hs, us, ms⟩ := bytesL_of_trod g0
  obtain ⟨L, rfl, hl, ul, ml⟩ := bytesL_of_trod g1
  exact ⟨a0, k0, S, a1, k1, L, rfl, ⟨hs, hl⟩, ⟨us, ul⟩, ms, ml⟩
end Go.Proofs.Ytfamojijgjmcmaa

namespace Go.Proofs.Ytfamojijgjmcmaa
open Go.ChangeShapes Go.WideShapes Go.ChangeAt Go.RowKit Go.Maps
set_option linter.unusedVariables false
attribute [local go_sem ↓] Go.wp_at_zero Go.wp_at_succ

structure RdX (w : World) (sa wa fa ca ga la : Option Addr) (l : List Sn) (W : List Wn) (F : List Int) (D : Nat → Int) (P : Nat → List Int) (n : Nat) (S L : List Int) : Prop where
  snaps : RdS w sa l
  fetch : RdF w wa W fa F ca D P n
  sure : Reads .u8 w ga S
  loose : Reads .u8 w la L
theorem RdX.below {w w' : World} {sa wa fa ca ga la : Option Addr} {l : List Sn} {W : List Wn} {F : List Int} {D : Nat → Int} {P : Nat → List Int} {n : Nat} {S L : List Int} (h : RdX w sa wa fa ca ga la l W F D P n S L) (hb : Below w.heap.size w w') : RdX w' sa wa fa ca ga la l W F D P n S L := ⟨h.snaps.below hb, h.fetch.below hb, h.sure.below hb, h.loose.below hb⟩
theorem Kept.then {S R T : Nat → Prop} {w w' w'' : World} (h : Kept S w w') (k : Kept R w' w'') (h1 : ∀ b, S b → T b) (h2 : ∀ b, R b → T b) : Kept T w w'' :=
  ⟨k.os.trans h.os, k.tape.trans h.tape, k.output.trans h.output, Nat.le_trans h.size k.size, fun b hb hn => (k.block b (Nat.lt_of_lt_of_le hb h.size) (fun e => hn (h2 b e))).trans (h.block b hb (fun e => hn (h1 b e)))⟩
def szF (W : List Wn) (F : List Int) (P : Nat → List Int) (n : Nat) : Int := (W.length : Int) + F.length + n + ahead P n
def szT (l : List Sn) (W : List Wn) (F : List Int) (P : Nat → List Int) (n : Nat) (S L : List Int) : Int := (l.length : Int) + szN l + szF W F P n + S.length + L.length
theorem ahead_mem {P : Nat → List Int} : ∀ {n i : Nat}, i < n → (P i).length ≤ ahead P n
  | 0, i, h => absurd h (by omega)
  | n + 1, i, h => by
    have e : ahead P (n + 1) = ahead P n + (P n).length := rfl
    by_cases hi : i = n
    · subst hi; omega
    · have := ahead_mem (P := P) (show i < n by omega)
      omega
structure FitX (l : List Sn) (W : List Wn) (F : List Int) (P : Nat → List Int) (n : Nat) (S L : List Int) : Prop where
  snaps : SmallS l
  wants : W.length ≤ 1048576
  failed : F.length ≤ 1048576
  many : n ≤ 1048576
  bytes : ∀ i, i < n → (P i).length ≤ 1048576
  sure : S.length ≤ 1048576
  loose : L.length ≤ 1048576
theorem fit_of {l : List Sn} {W : List Wn} {F : List Int} {P : Nat → List Int} {n : Nat} {S L : List Int} (h : (szT l W F P n S L) ≤ 1048576) : FitX l W F P n S L := by
  unfold szT szF at h
  exact ⟨szN_small (by omega), by omega, by omega, by omega, fun i hi => by have := ahead_mem (P := P) hi; omega, by omega, by omega⟩
set_option maxRecDepth 100000 in
set_option maxHeartbeats 3200000 in
theorem szStore_fits (sa : Option Addr) (sc : Nat) (wa : Option Addr) (wc : Nat) (fa : Option Addr) (fc : Nat) (ca : Option Addr) (cc : Nat) (ga : Option Addr) (gc : Nat) (la : Option Addr) (lc : Nat) (l : List Sn) (W : List Wn) (F : List Int) (D : Nat → Int) (P : Nat → List Int) (n : Nat) (S L : List Int) (left : Int) (w : World) (h : RdX w sa wa fa ca ga la l W F D P n S L) (h00 : 0 ≤ left) (h0 : left ≤ 1048576) (hfit : (szT l W F P n S L) ≤ left) :
    Calls Try.prog 4 #[.agg #[.slice sa l.length sc, .slice wa W.length wc, .slice fa F.length fc, .slice ca n cc, .slice ga S.length gc, .slice la L.length lc], .int .i64 left] w fun e w' => e = .returned (.int .i64 (left - (szT l W F P n S L))) ∧ Below w.heap.size w w' := by
  have B0 := hide (below_alloc w (.cells #[.slice sa l.length sc, .slice wa W.length wc, .slice fa F.length fc, .slice ca n cc, .slice ga S.length gc, .slice la L.length lc] 32))
  have X0 := hide (Six.new w (.slice sa l.length sc) (.slice wa W.length wc) (.slice fa F.length fc) (.slice ca n cc) (.slice ga S.length gc) (.slice la L.length lc) 32)
  have hsf : 0 ≤ szF W F P n := by unfold szF; omega
  have hst : (szT l W F P n S L) = (l.length : Int) + szN l + szF W F P n + S.length + L.length := rfl
  have H1 := hide (fun u (hu : Below w.heap.size w u) => szSnapS_fits sa sc l.length l left u (h.snaps.below hu) rfl h0 (by omega))
  have H2 := hide (fun u (hu : Below w.heap.size w u) => szFetch_fits (left - l.length - szN l) (by omega) (by omega) wa wc W fa fc F ca cc n D P u (h.fetch.below hu) (by have e : szF W F P n = (W.length : Int) + F.length + n + ahead P n := rfl; omega))
  have H3 := hide (fun u => szLog_fits (left - l.length - szN l - szF W F P n) (by omega) (by omega) ga S.length gc la L.length lc u (by omega))
  have e2 : left - l.length - szN l - W.length - F.length - n - ahead P n = left - l.length - szN l - szF W F P n := by unfold szF; omega
  rw [e2] at H2
  unfold fetV at H2
  have e3 : left - l.length - szN l - szF W F P n - S.length - L.length = left - (szT l W F P n S L) := by rw [hst]; omega
  rw [e3] at H3
  have n1 : ¬ left - (l.length : Int) - (szN l : Int) < 0 := by omega
  have n2 : ¬ left - (l.length : Int) - (szN l : Int) - szF W F P n < 0 := by omega
  have n3 : ¬ left - (szT l W F P n S L) < 0 := by omega
  clear h hfit hst e2 e3
  generalize (szT l W F P n S L) = T at *
  generalize szF W F P n = T2 at *
  go_enter Try.func4, Try.ntmps4
  obtain ⟨m0, m1, m2, m3, m4, m5⟩ := X0.out
  go_wp2_with fail
  clear m0 m1 m2 m3 m4 m5
  generalize w.alloc (.cells #[.slice sa l.length sc, .slice wa W.length wc, .slice fa F.length fc, .slice ca n cc, .slice ga S.length gc, .slice la L.length lc] 32) = W0 at *
  refine (H1.out _ B0.out).mono ?_
  rintro e w1 ⟨rfl, b1⟩
  have B1 := hide (below_next B0.out b1)
  have X1 := hide (X0.out.below b1)
  clear b1 X0
  obtain ⟨m0, m1, m2, m3, m4, m5⟩ := X1.out
  go_wp2_with fail
  clear m0 m1 m2 m3 m4 m5
  refine (H2.out _ B1.out).mono ?_
  rintro e w2 ⟨rfl, b2⟩
  have B2 := hide (below_next B1.out b2)
  have X2 := hide (X1.out.below b2)
  clear b2 X1
  obtain ⟨m0, m1, m2, m3, m4, m5⟩ := X2.out
  go_wp2_with fail
  clear m0 m1 m2 m3 m4 m5
  refine (H3.out _).mono ?_
  rintro e w3 ⟨rfl, b3⟩
  have B3 := hide (below_next B2.out b3)
  clear b3
  go_wp2_with fail
  go_ret
  exact ⟨rfl, B3.out⟩
set_option maxRecDepth 100000 in
set_option maxHeartbeats 6400000 in
theorem szStore_not (sa : Option Addr) (sc : Nat) (wa : Option Addr) (wc : Nat) (fa : Option Addr) (fc : Nat) (ca : Option Addr) (cc : Nat) (ga : Option Addr) (gc : Nat) (la : Option Addr) (lc : Nat) (l : List Sn) (W : List Wn) (F : List Int) (D : Nat → Int) (P : Nat → List Int) (n : Nat) (S L : List Int) (left : Int) (w : World) (h : RdX w sa wa fa ca ga la l W F D P n S L) (h00 : 0 ≤ left) (h0 : left ≤ 1048576) (hl : l.length ≤ maxLen) (hls : ∀ s ∈ l, MaxS s) (hWm : W.length ≤ maxLen) (hFm : F.length ≤ maxLen) (hnm : n ≤ maxLen) (hPm : ∀ i, i < n → ((P i).length : Int) ≤ 9223372036854775807) (hSm : S.length ≤ maxLen) (hLm : L.length ≤ maxLen) (hfit : left < (szT l W F P n S L)) :
    Calls Try.prog 4 #[.agg #[.slice sa l.length sc, .slice wa W.length wc, .slice fa F.length fc, .slice ca n cc, .slice ga S.length gc, .slice la L.length lc], .int .i64 left] w fun e w' => e = .returned (.int .i64 (-1)) ∧ Below w.heap.size w w' := by
  have B0 := hide (below_alloc w (.cells #[.slice sa l.length sc, .slice wa W.length wc, .slice fa F.length fc, .slice ca n cc, .slice ga S.length gc, .slice la L.length lc] 32))
  have X0 := hide (Six.new w (.slice sa l.length sc) (.slice wa W.length wc) (.slice fa F.length fc) (.slice ca n cc) (.slice ga S.length gc) (.slice la L.length lc) 32)
  have hst : (szT l W F P n S L) = (l.length : Int) + szN l + szF W F P n + S.length + L.length := rfl
  have hsf : szF W F P n = (W.length : Int) + F.length + n + ahead P n := rfl
  by_cases c1 : (l.length : Int) + szN l ≤ left
  · have H1 := hide (fun u (hu : Below w.heap.size w u) => szSnapS_fits sa sc l.length l left u (h.snaps.below hu) rfl h0 c1)
    have n1 : ¬ left - (l.length : Int) - (szN l : Int) < 0 := by omega
    by_cases c2 : szF W F P n ≤ left - l.length - szN l
    · have H2 := hide (fun u (hu : Below w.heap.size w u) => szFetch_fits (left - l.length - szN l) (by omega) (by omega) wa wc W fa fc F ca cc n D P u (h.fetch.below hu) (by omega))
      have H3 := hide (fun u => szLog_not (left - l.length - szN l - szF W F P n) (by omega) (by omega) ga S.length gc la L.length lc u (by unfold maxLen at hSm; omega) (by unfold maxLen at hLm; omega) (by omega))
      have e2 : left - l.length - szN l - W.length - F.length - n - ahead P n = left - l.length - szN l - szF W F P n := by omega
      rw [e2] at H2
      unfold fetV at H2
      have n2 : ¬ left - (l.length : Int) - (szN l : Int) - szF W F P n < 0 := by omega
      clear h hfit hst e2 hls hPm hsf
      generalize szF W F P n = T2 at *
      go_enter Try.func4, Try.ntmps4
      obtain ⟨m0, m1, m2, m3, m4, m5⟩ := X0.out
      go_wp2_with fail
      clear m0 m1 m2 m3 m4 m5
      generalize w.alloc (.cells #[.slice sa l.length sc, .slice wa W.length wc, .slice fa F.length fc, .slice ca n cc, .slice ga S.length gc, .slice la L.length lc] 32) = W0 at *
      refine (H1.out _ B0.out).mono ?_
      rintro e w1 ⟨rfl, b1⟩
      have B1 := hide (below_next B0.out b1)
      have X1 := hide (X0.out.below b1)
      clear b1 X0
      obtain ⟨m0, m1, m2, m3, m4, m5⟩ := X1.out
      go_wp2_with fail
      clear m0 m1 m2 m3 m4 m5
      refine (H2.out _ B1.out).mono ?_
      rintro e w2 ⟨rfl, b2⟩
      have B2 := hide (below_next B1.out b2)
      have X2 := hide (X1.out.below b2)
      clear b2 X1
      obtain ⟨m0, m1, m2, m3, m4, m5⟩ := X2.out
      go_wp2_with fail
      clear m0 m1 m2 m3 m4 m5
      refine (H3.out _).mono ?_
      rintro e w3 ⟨rfl, b3⟩
      have B3 := hide (below_next B2.out b3)
      clear b3
      go_wp2_with fail
      go_ret
      exact ⟨rfl, B3.out⟩
    · have H2 := hide (fun u (hu : Below w.heap.size w u) => szFetch_not (left - l.length - szN l) (by omega) (by omega) wa wc W fa fc F ca cc n D P u (h.fetch.below hu) hWm hFm hnm hPm (by omega))
      unfold fetV at H2
      clear h hfit hst hls hPm hsf c2
      go_enter Try.func4, Try.ntmps4
      obtain ⟨m0, m1, m2, m3, m4, m5⟩ := X0.out
      go_wp2_with fail
      clear m0 m1 m2 m3 m4 m5
      generalize w.alloc (.cells #[.slice sa l.length sc, .slice wa W.length wc, .slice fa F.length fc, .slice ca n cc, .slice ga S.length gc, .slice la L.length lc] 32) = W0 at *
      refine (H1.out _ B0.out).mono ?_
      rintro e w1 ⟨rfl, b1⟩
      have B1 := hide (below_next B0.out b1)
      have X1 := hide (X0.out.below b1)
      clear b1 X0
      obtain ⟨m0, m1, m2, m3, m4, m5⟩ := X1.out
      go_wp2_with fail
      clear m0 m1 m2 m3 m4 m5
      refine (H2.out _ B1.out).mono ?_
      rintro e w2 ⟨rfl, b2⟩
      have B2 := hide (below_next B1.out b2)
      clear b2 X1
      go_wp2_with fail
      go_ret
      exact ⟨rfl, B2.out⟩
  · have H1 := hide (fun u (hu : Below w.heap.size w u) => szSnapS_not sa sc l.length l left u (h.snaps.below hu) rfl h00 h0 (by unfold maxLen at hl; omega) hls (by omega))
    clear h hfit hst hls hPm hsf c1
    go_enter Try.func4, Try.ntmps4
    obtain ⟨m0, m1, m2, m3, m4, m5⟩ := X0.out
    go_wp2_with fail
    clear m0 m1 m2 m3 m4 m5
    generalize w.alloc (.cells #[.slice sa l.length sc, .slice wa W.length wc, .slice fa F.length fc, .slice ca n cc, .slice ga S.length gc, .slice la L.length lc] 32) = W0 at *
    refine (H1.out _ B0.out).mono ?_
    rintro e w1 ⟨rfl, b1⟩
    have B1 := hide (below_next B0.out b1)
    clear b1 X0
    go_wp2_with fail
    go_ret
    exact ⟨rfl, B1.out⟩
set_option maxRecDepth 100000 in
set_option maxHeartbeats 3200000 in
theorem eqStore_same (sa : Option Addr) (sc : Nat) (wa : Option Addr) (wc : Nat) (fa : Option Addr) (fc : Nat) (ca : Option Addr) (cc : Nat) (ga : Option Addr) (gc : Nat) (la : Option Addr) (lc : Nat) (sa' : Option Addr) (sc' : Nat) (wa' : Option Addr) (wc' : Nat) (fa' : Option Addr) (fc' : Nat) (ca' : Option Addr) (cc' : Nat) (ga' : Option Addr) (gc' : Nat) (la' : Option Addr) (lc' : Nat) (l : List Sn) (W : List Wn) (F : List Int) (D : Nat → Int) (P : Nat → List Int) (n : Nat) (S L : List Int) (w : World) (h : RdX w sa wa fa ca ga la l W F D P n S L) (h2 : RdX w sa' wa' fa' ca' ga' la' l W F D P n S L) (hf : FitX l W F P n S L) :
    Calls Try.prog 8 #[.agg #[.slice sa l.length sc, .slice wa W.length wc, .slice fa F.length fc, .slice ca n cc, .slice ga S.length gc, .slice la L.length lc], .agg #[.slice sa' l.length sc', .slice wa' W.length wc', .slice fa' F.length fc', .slice ca' n cc', .slice ga' S.length gc', .slice la' L.length lc']] w fun e w' => e = .returned (.bool true) ∧ Below w.heap.size w w' := by
  have HB := hide (below_next (below_alloc w (.cells #[.slice sa l.length sc, .slice wa W.length wc, .slice fa F.length fc, .slice ca n cc, .slice ga S.length gc, .slice la L.length lc] 42)) (below_alloc _ (.cells #[.slice sa' l.length sc', .slice wa' W.length wc', .slice fa' F.length fc', .slice ca' n cc', .slice ga' S.length gc', .slice la' L.length lc'] 42)))
  have X1 := hide ((Six.new w (.slice sa l.length sc) (.slice wa W.length wc) (.slice fa F.length fc) (.slice ca n cc) (.slice ga S.length gc) (.slice la L.length lc) 42).below (below_alloc _ (.cells #[.slice sa' l.length sc', .slice wa' W.length wc', .slice fa' F.length fc', .slice ca' n cc', .slice ga' S.length gc', .slice la' L.length lc'] 42)))
  have X2 := hide (Six.new (w.alloc (.cells #[.slice sa l.length sc, .slice wa W.length wc, .slice fa F.length fc, .slice ca n cc, .slice ga S.length gc, .slice la L.length lc] 42)) (.slice sa' l.length sc') (.slice wa' W.length wc') (.slice fa' F.length fc') (.slice ca' n cc') (.slice ga' S.length gc') (.slice la' L.length lc') 42)
  have h1 : (w.alloc (.cells #[.slice sa l.length sc, .slice wa W.length wc, .slice fa F.length fc, .slice ca n cc, .slice ga S.length gc, .slice la L.length lc] 42)).heap.size = w.heap.size + 1 := by simp
  rw [h1] at X2
  clear h1
  have H1 := hide (fun u (hu : Below w.heap.size w u) => eqSnapS_same sa sa' sc sc' l.length l u (h.snaps.below hu) (h2.snaps.below hu) rfl hf.snaps)
  have H2 := hide (fun u (hu : Below w.heap.size w u) => eqFetch_same wa wa' wc wc' W fa fa' fc fc' F ca ca' cc cc' n D P u (h.fetch.below hu) (h2.fetch.below hu) hf.wants hf.failed hf.many hf.bytes)
  have H3 := hide (fun u (hu : Below w.heap.size w u) => eqLog_same ga ga' gc gc' S la la' lc lc' L u (h.sure.below hu) (h2.sure.below hu) (h.loose.below hu) (h2.loose.below hu) hf.sure hf.loose)
  unfold fetV at H2
  clear h h2 hf
  go_enter Try.func8, Try.ntmps8
  go_wp2_with fail
  generalize (w.alloc (.cells #[.slice sa l.length sc, .slice wa W.length wc, .slice fa F.length fc, .slice ca n cc, .slice ga S.length gc, .slice la L.length lc] 42)).alloc (.cells #[.slice sa' l.length sc', .slice wa' W.length wc', .slice fa' F.length fc', .slice ca' n cc', .slice ga' S.length gc', .slice la' L.length lc'] 42) = W0 at *
  refine (H1.out _ HB.out).mono ?_
  rintro r w1 ⟨rfl, hb1⟩
  have B1 := hide (below_next HB.out hb1)
  have Y1 := hide (X1.out.below hb1)
  have Y2 := hide (X2.out.below hb1)
  clear hb1 X1 X2
  obtain ⟨m0, m1, m2, m3, m4, m5⟩ := Y1.out
  obtain ⟨k0, k1, k2, k3, k4, k5⟩ := Y2.out
  go_wp2_with fail
  clear m0 m1 m2 m3 m4 m5 k0 k1 k2 k3 k4 k5
  refine (H2.out _ B1.out).mono ?_
  rintro r w2 ⟨rfl, hb2⟩
  have B2 := hide (below_next B1.out hb2)
  have X1 := hide (Y1.out.below hb2)
  have X2 := hide (Y2.out.below hb2)
  clear hb2 Y1 Y2
  obtain ⟨m0, m1, m2, m3, m4, m5⟩ := X1.out
  obtain ⟨k0, k1, k2, k3, k4, k5⟩ := X2.out
  go_wp2_with fail
  clear m0 m1 m2 m3 m4 m5 k0 k1 k2 k3 k4 k5
  refine (H3.out _ B2.out).mono ?_
  rintro r w3 ⟨rfl, hb3⟩
  have B3 := hide (below_next B2.out hb3)
  clear hb3
  go_wp2_with fail
  go_ret
  exact ⟨rfl, B3.out⟩
def Bx6 (w : World) (b : Nat) (u0 u1 u2 u3 u4 u5 : Value) : Prop := Six w b u0 u1 u2 u3 u4 u5 ∧ ∀ i, w.frozen? ⟨b, i, none⟩ = false
theorem Bx6.new (w : World) (u0 u1 u2 u3 u4 u5 : Value) (t : TypeId) : Bx6 (w.alloc (.cells #[u0, u1, u2, u3, u4, u5] t)) w.heap.size u0 u1 u2 u3 u4 u5 := ⟨Six.new w u0 u1 u2 u3 u4 u5 t, fun i => by simp⟩
theorem Bx6.kept {S : Nat → Prop} {w w' : World} {b : Nat} {u0 u1 u2 u3 u4 u5 : Value} (h : Bx6 w b u0 u1 u2 u3 u4 u5) (hk : Kept S w w') (hn : ¬ S b) : Bx6 w' b u0 u1 u2 u3 u4 u5 := ⟨h.1.kept hk hn, fun i => (hk.frozen (p := ⟨b, i, none⟩) h.1.lt hn).trans (h.2 i)⟩
theorem Bx6.below {w w' : World} {b : Nat} {u0 u1 u2 u3 u4 u5 : Value} (h : Bx6 w b u0 u1 u2 u3 u4 u5) (hk : Below w.heap.size w w') : Bx6 w' b u0 u1 u2 u3 u4 u5 := h.kept (S := fun _ => False) (Kept.of_below hk) id
theorem six_ne (b i j : Nat) (h : i ≠ j) : (⟨b, i, none⟩ : Addr) ≠ ⟨b, j, none⟩ := fun e => h (by injection e)
theorem Bx6.set0 {w : World} {b : Nat} {u0 u1 u2 u3 u4 u5 : Value} (h : Bx6 w b u0 u1 u2 u3 u4 u5) (v : Value) : Bx6 (w.setCell ⟨b, 0, none⟩ v) b v u1 u2 u3 u4 u5 := by
  obtain ⟨⟨h0, h1, h2, h3, h4, h5⟩, hf⟩ := h
  exact ⟨⟨cell_set_same h0, (cell_set_other (six_ne b 0 1 (by decide))).trans h1, (cell_set_other (six_ne b 0 2 (by decide))).trans h2, (cell_set_other (six_ne b 0 3 (by decide))).trans h3, (cell_set_other (six_ne b 0 4 (by decide))).trans h4, (cell_set_other (six_ne b 0 5 (by decide))).trans h5⟩, fun i => by rw [World.frozen?_setCell]; exact hf i⟩
theorem Bx6.set13 {w : World} {b : Nat} {u0 u1 u2 u3 u4 u5 : Value} (h : Bx6 w b u0 u1 u2 u3 u4 u5) (v1 v2 v3 : Value) : Bx6 (((w.setCell ⟨b, 1, none⟩ v1).setCell ⟨b, 2, none⟩ v2).setCell ⟨b, 3, none⟩ v3) b u0 v1 v2 v3 u4 u5 := by
  obtain ⟨⟨h0, h1, h2, h3, h4, h5⟩, hf⟩ := h
  have o3 : ∀ j u, 1 ≠ j → 2 ≠ j → 3 ≠ j → w.cell? ⟨b, j, none⟩ = some u → (((w.setCell ⟨b, 1, none⟩ v1).setCell ⟨b, 2, none⟩ v2).setCell ⟨b, 3, none⟩ v3).cell? ⟨b, j, none⟩ = some u := fun j u a1 a2 a3 hj =>
    (cell_set_other (six_ne b 3 j a3)).trans ((cell_set_other (six_ne b 2 j a2)).trans ((cell_set_other (six_ne b 1 j a1)).trans hj))
  refine ⟨⟨o3 0 _ (by decide) (by decide) (by decide) h0, ?_, ?_, ?_, o3 4 _ (by decide) (by decide) (by decide) h4, o3 5 _ (by decide) (by decide) (by decide) h5⟩, fun i => by simp only [World.frozen?_setCell]; exact hf i⟩
  · exact (cell_set_other (six_ne b 3 1 (by decide))).trans ((cell_set_other (six_ne b 2 1 (by decide))).trans (cell_set_same h1))
  · exact (cell_set_other (six_ne b 3 2 (by decide))).trans (cell_set_same (u := u2) ((cell_set_other (six_ne b 1 2 (by decide))).trans h2))
  · exact cell_set_same (u := u3) ((cell_set_other (six_ne b 2 3 (by decide))).trans ((cell_set_other (six_ne b 1 3 (by decide))).trans h3))
theorem Bx6.set45 {w : World} {b : Nat} {u0 u1 u2 u3 u4 u5 : Value} (h : Bx6 w b u0 u1 u2 u3 u4 u5) (v4 v5 : Value) : Bx6 ((w.setCell ⟨b, 4, none⟩ v4).setCell ⟨b, 5, none⟩ v5) b u0 u1 u2 u3 v4 v5 := by
  obtain ⟨⟨h0, h1, h2, h3, h4, h5⟩, hf⟩ := h
  have o2 : ∀ j u, 4 ≠ j → 5 ≠ j → w.cell? ⟨b, j, none⟩ = some u → ((w.setCell ⟨b, 4, none⟩ v4).setCell ⟨b, 5, none⟩ v5).cell? ⟨b, j, none⟩ = some u := fun j u a4 a5 hj =>
    (cell_set_other (six_ne b 5 j a5)).trans ((cell_set_other (six_ne b 4 j a4)).trans hj)
  refine ⟨⟨o2 0 _ (by decide) (by decide) h0, o2 1 _ (by decide) (by decide) h1, o2 2 _ (by decide) (by decide) h2, o2 3 _ (by decide) (by decide) h3, ?_, ?_⟩, fun i => by simp only [World.frozen?_setCell]; exact hf i⟩
  · exact (cell_set_other (six_ne b 5 4 (by decide))).trans (cell_set_same h4)
  · exact cell_set_same (u := u5) ((cell_set_other (six_ne b 4 5 (by decide))).trans h5)
set_option maxRecDepth 100000 in
set_option maxHeartbeats 6400000 in
theorem toStore_any (sa : Option Addr) (sc : Nat) (wa : Option Addr) (wc : Nat) (fa : Option Addr) (fc : Nat) (ca : Option Addr) (cc : Nat) (ga : Option Addr) (gc : Nat) (la : Option Addr) (lc : Nat) (l : List Sn) (W : List Wn) (F : List Int) (D : Nat → Int) (P : Nat → List Int) (n : Nat) (S L : List Int) (w : World) (h : RdX w sa wa fa ca ga la l W F D P n S L) (hf : FitX l W F P n S L) :
    Calls Try.prog 6 #[.agg #[.slice sa l.length sc, .slice wa W.length wc, .slice fa F.length fc, .slice ca n cc, .slice ga S.length gc, .slice la L.length lc]] w fun e w' => ∃ g1 g2 g3 g4 g5 g6, e = .returned (.agg #[.slice (some ⟨g1, 0, none⟩) l.length l.length, .slice (some ⟨g2, 0, none⟩) W.length W.length, .slice (some ⟨g3, 0, none⟩) F.length F.length, .slice (some ⟨g4, 0, none⟩) n n, .slice (some ⟨g5, 0, none⟩) S.length S.length, .slice (some ⟨g6, 0, none⟩) L.length L.length]) ∧ RdX w' (some ⟨g1, 0, none⟩) (some ⟨g2, 0, none⟩) (some ⟨g3, 0, none⟩) (some ⟨g4, 0, none⟩) (some ⟨g5, 0, none⟩) (some ⟨g6, 0, none⟩) l W F D P n S L ∧ Below w.heap.size w w' := by
  have X0 := hide ((Six.new w (.slice sa l.length sc) (.slice wa W.length wc) (.slice fa F.length fc) (.slice ca n cc) (.slice ga S.length gc) (.slice la L.length lc) 32).below (below_next (below_alloc _ (.cells #[.slice none 0 0, .slice none 0 0, .slice none 0 0, .slice none 0 0, .slice none 0 0, .slice none 0 0] 42)) (below_alloc _ (.cells #[.slice none 0 0, .slice none 0 0, .slice none 0 0, .slice none 0 0, .slice none 0 0, .slice none 0 0] 42))))
  have R0 := hide ((Bx6.new (w.alloc (.cells #[.slice sa l.length sc, .slice wa W.length wc, .slice fa F.length fc, .slice ca n cc, .slice ga S.length gc, .slice la L.length lc] 32)) (.slice none 0 0) (.slice none 0 0) (.slice none 0 0) (.slice none 0 0) (.slice none 0 0) (.slice none 0 0) 42).below (below_alloc _ (.cells #[.slice none 0 0, .slice none 0 0, .slice none 0 0, .slice none 0 0, .slice none 0 0, .slice none 0 0] 42)))
  have O0 := hide (Bx6.new ((w.alloc (.cells #[.slice sa l.length sc, .slice wa W.length wc, .slice fa F.length fc, .slice ca n cc, .slice ga S.length gc, .slice la L.length lc] 32)).alloc (.cells #[.slice none 0 0, .slice none 0 0, .slice none 0 0, .slice none 0 0, .slice none 0 0, .slice none 0 0] 42)) (.slice none 0 0) (.slice none 0 0) (.slice none 0 0) (.slice none 0 0) (.slice none 0 0) (.slice none 0 0) 42)
  have B0 := hide (below_next (below_next (below_alloc w (.cells #[.slice sa l.length sc, .slice wa W.length wc, .slice fa F.length fc, .slice ca n cc, .slice ga S.length gc, .slice la L.length lc] 32)) (below_alloc _ (.cells #[.slice none 0 0, .slice none 0 0, .slice none 0 0, .slice none 0 0, .slice none 0 0, .slice none 0 0] 42))) (below_alloc _ (.cells #[.slice none 0 0, .slice none 0 0, .slice none 0 0, .slice none 0 0, .slice none 0 0, .slice none 0 0] 42)))
  have h1 : (w.alloc (.cells #[.slice sa l.length sc, .slice wa W.length wc, .slice fa F.length fc, .slice ca n cc, .slice ga S.length gc, .slice la L.length lc] 32)).heap.size = w.heap.size + 1 := by simp
  have h2 : ((w.alloc (.cells #[.slice sa l.length sc, .slice wa W.length wc, .slice fa F.length fc, .slice ca n cc, .slice ga S.length gc, .slice la L.length lc] 32)).alloc (.cells #[.slice none 0 0, .slice none 0 0, .slice none 0 0, .slice none 0 0, .slice none 0 0, .slice none 0 0] 42)).heap.size = w.heap.size + 1 + 1 := by simp
  rw [h1] at R0
  rw [h2] at O0
  have hz : w.heap.size + 3 ≤ (((w.alloc (.cells #[.slice sa l.length sc, .slice wa W.length wc, .slice fa F.length fc, .slice ca n cc, .slice ga S.length gc, .slice la L.length lc] 32)).alloc (.cells #[.slice none 0 0, .slice none 0 0, .slice none 0 0, .slice none 0 0, .slice none 0 0, .slice none 0 0] 42)).alloc (.cells #[.slice none 0 0, .slice none 0 0, .slice none 0 0, .slice none 0 0, .slice none 0 0, .slice none 0 0] 42)).heap.size := by simp
  clear h1 h2
  have H1 := hide (fun u (hu : Below w.heap.size w u) => toSnapS_any sa sc l.length l u (h.snaps.below hu) rfl hf.snaps)
  have H2 := hide (fun u (hu : Below w.heap.size w u) => toFetch_own wa wc W fa fc F ca cc n D P u (h.fetch.below hu) hf.wants hf.failed hf.many hf.bytes)
  have H3 := hide (fun u (hu : Below w.heap.size w u) => toLog_any ga gc S la lc L u (h.sure.below hu) (h.loose.below hu) hf.sure hf.loose)
  unfold fetV at H2
  clear h hf
  go_enter Try.func6, Try.ntmps6
  obtain ⟨m0, m1, m2, m3, m4, m5⟩ := X0.out
  go_wp2_with fail
  clear m0 m1 m2 m3 m4 m5
  generalize ((w.alloc (.cells #[.slice sa l.length sc, .slice wa W.length wc, .slice fa F.length fc, .slice ca n cc, .slice ga S.length gc, .slice la L.length lc] 32)).alloc (.cells #[.slice none 0 0, .slice none 0 0, .slice none 0 0, .slice none 0 0, .slice none 0 0, .slice none 0 0] 42)).alloc (.cells #[.slice none 0 0, .slice none 0 0, .slice none 0 0, .slice none 0 0, .slice none 0 0, .slice none 0 0] 42) = W0 at *
  refine (H1.out _ B0.out).mono ?_
  rintro e w1 ⟨g1, rfl, r1, b1⟩
  have S1 := hide r1
  have X1 := hide (X0.out.below b1)
  have R1 := hide (R0.out.below b1)
  have O1 := hide (O0.out.below b1)
  have B1 := hide (below_next B0.out b1)
  have hz1 := b1.size
  clear r1 b1 X0 R0 O0 B0
  obtain ⟨⟨y0, y1, y2, y3, y4, y5⟩, yf⟩ := O1.out
  have yf0 := yf 0
  clear yf
  have K1 := hide (Kept.one w1 (w.heap.size + 1 + 1) 0 (.slice (some ⟨g1, 0, none⟩) l.length l.length))
  have A2 := hide (X1.out.kept K1.out (by omega))
  have A3 := hide (R1.out.kept K1.out (by omega))
  have A4 := hide (O1.out.set0 (.slice (some ⟨g1, 0, none⟩) l.length l.length))
  have A5 := hide (fun u (hu : Kept (fun b => b < W0.heap.size) (w1.setCell ⟨w.heap.size + 1 + 1, 0, none⟩ (.slice (some ⟨g1, 0, none⟩) l.length l.length)) u) => S1.out u (K1.out.then hu (fun b e => by omega) (fun b e => e)))
  have A6 : Hid (Below w.heap.size w (w1.setCell ⟨w.heap.size + 1 + 1, 0, none⟩ (.slice (some ⟨g1, 0, none⟩) l.length l.length))) := hide (B1.out.setCell (by show w.heap.size ≤ w.heap.size + 1 + 1; omega) _)
  have A7 : (w1.setCell ⟨w.heap.size + 1 + 1, 0, none⟩ (.slice (some ⟨g1, 0, none⟩) l.length l.length)).heap.size = w1.heap.size := by simp [World.setCell]
  obtain ⟨q0, q1, q2, q3, q4, q5⟩ := A2.out
  go_wp2_with fail
  clear y0 y1 y2 y3 y4 y5 yf0 q0 q1 q2 q3 q4 q5 S1 X1 R1 O1 B1 K1
  generalize (w1.setCell ⟨w.heap.size + 1 + 1, 0, none⟩ (.slice (some ⟨g1, 0, none⟩) l.length l.length)) = V1 at *
  refine (H2.out _ A6.out).mono ?_
  rintro e w2 ⟨g2, g3, g4, rfl, hG, b2⟩
  have G2 := hide hG
  have X2 := hide (A2.out.below b2)
  have R2 := hide (A3.out.below b2)
  have O2 := hide (A4.out.below b2)
  have S2 := hide (fun u (hu : Kept (fun b => b < W0.heap.size) w2 u) => A5.out u (Kept.then (S := fun _ => False) (Kept.of_below b2) hu (fun b e => False.elim e) (fun b e => e)))
  have B2 := hide (below_next A6.out b2)
  have hz2 := b2.size
  clear hG b2 A2 A3 A4 A5 A6
  obtain ⟨⟨y0, y1, y2, y3, y4, y5⟩, yf⟩ := O2.out
  have yf1 := yf 1
  have yf2 := yf 2
  have yf3 := yf 3
  clear yf
  have K2 : Hid (Kept (fun b => b = w.heap.size + 1 + 1) w2 (((w2.setCell ⟨w.heap.size + 1 + 1, 1, none⟩ (.slice (some ⟨g2, 0, none⟩) W.length W.length)).setCell ⟨w.heap.size + 1 + 1, 2, none⟩ (.slice (some ⟨g3, 0, none⟩) F.length F.length)).setCell ⟨w.heap.size + 1 + 1, 3, none⟩ (.slice (some ⟨g4, 0, none⟩) n n))) := hide (Kept.setCell (S := fun b => b = w.heap.size + 1 + 1) (p := ⟨w.heap.size + 1 + 1, 3, none⟩) (Kept.two _ _ _ _ _ _) (fun _ => rfl) _)
  have A2 := hide (X2.out.kept K2.out (by omega))
  have A3 := hide (R2.out.kept K2.out (by omega))
  have A4 := hide (O2.out.set13 (.slice (some ⟨g2, 0, none⟩) W.length W.length) (.slice (some ⟨g3, 0, none⟩) F.length F.length) (.slice (some ⟨g4, 0, none⟩) n n))
  have A5 := hide (fun u (hu : Kept (fun b => b < W0.heap.size) (((w2.setCell ⟨w.heap.size + 1 + 1, 1, none⟩ (.slice (some ⟨g2, 0, none⟩) W.length W.length)).setCell ⟨w.heap.size + 1 + 1, 2, none⟩ (.slice (some ⟨g3, 0, none⟩) F.length F.length)).setCell ⟨w.heap.size + 1 + 1, 3, none⟩ (.slice (some ⟨g4, 0, none⟩) n n)) u) => S2.out u (K2.out.then hu (fun b e => by omega) (fun b e => e)))
  have G3 := hide (G2.out.kept K2.out (fun b h1 _ e => by omega))
  have A6 := hide (B2.out.trans (K2.out.below (B := w.heap.size) B2.out.size (fun b hb e => by omega)))
  have A7b : (((w2.setCell ⟨w.heap.size + 1 + 1, 1, none⟩ (.slice (some ⟨g2, 0, none⟩) W.length W.length)).setCell ⟨w.heap.size + 1 + 1, 2, none⟩ (.slice (some ⟨g3, 0, none⟩) F.length F.length)).setCell ⟨w.heap.size + 1 + 1, 3, none⟩ (.slice (some ⟨g4, 0, none⟩) n n)).heap.size = w2.heap.size := by simp [World.setCell]
  obtain ⟨q0, q1, q2, q3, q4, q5⟩ := A2.out
  go_wp2_with fail
  clear y0 y1 y2 y3 y4 y5 yf1 yf2 yf3 q0 q1 q2 q3 q4 q5 S2 X2 R2 O2 B2 K2 G2
  generalize (((w2.setCell ⟨w.heap.size + 1 + 1, 1, none⟩ (.slice (some ⟨g2, 0, none⟩) W.length W.length)).setCell ⟨w.heap.size + 1 + 1, 2, none⟩ (.slice (some ⟨g3, 0, none⟩) F.length F.length)).setCell ⟨w.heap.size + 1 + 1, 3, none⟩ (.slice (some ⟨g4, 0, none⟩) n n)) = V2 at *
  refine (H3.out _ A6.out).mono ?_
  rintro e w3 ⟨g5, g6, rfl, hg5, hg56, hg6, hOL, b3⟩
  have L3 := hide hOL
  have G4 := hide (G3.out.below b3)
  have R3 := hide (A3.out.below b3)
  have O3 := hide (A4.out.below b3)
  have S3 := hide (fun u (hu : Kept (fun b => b < W0.heap.size) w3 u) => A5.out u (Kept.then (S := fun _ => False) (Kept.of_below b3) hu (fun b e => False.elim e) (fun b e => e)))
  have B3 := hide (below_next A6.out b3)
  have hz3 := b3.size
  clear hOL b3 A2 A3 A4 A5 A6 G3
  obtain ⟨⟨y0, y1, y2, y3, y4, y5⟩, yf⟩ := O3.out
  have yf4 := yf 4
  have yf5 := yf 5
  clear yf
  have K3 := hide (Kept.two w3 (w.heap.size + 1 + 1) 4 5 (.slice (some ⟨g5, 0, none⟩) S.length S.length) (.slice (some ⟨g6, 0, none⟩) L.length L.length))
  have A3 := hide (R3.out.kept K3.out (by omega))
  have A4 := hide (O3.out.set45 (.slice (some ⟨g5, 0, none⟩) S.length S.length) (.slice (some ⟨g6, 0, none⟩) L.length L.length))
  obtain ⟨⟨r0, r1, r2, r3, r4, r5⟩, rf⟩ := A3.out
  obtain ⟨⟨s0, s1, s2, s3, s4, s5⟩, sf⟩ := A4.out
  have rf0 := rf 0
  have rf1 := rf 1
  have rf2 := rf 2
  have rf3 := rf 3
  have rf4 := rf 4
  have rf5 := rf 5
  clear rf sf
  go_wp2_with fail
  have hk : Kept (fun b => b = w.heap.size + 1 ∨ b = w.heap.size + 1 + 1) w3 ((((((((w3.setCell ⟨w.heap.size + 1 + 1, 4, none⟩ (.slice (some ⟨g5, 0, none⟩) S.length S.length)).setCell ⟨w.heap.size + 1 + 1, 5, none⟩ (.slice (some ⟨g6, 0, none⟩) L.length L.length)).setCell ⟨w.heap.size + 1, 0, none⟩ (.slice (some ⟨g1, 0, none⟩) l.length l.length)).setCell ⟨w.heap.size + 1, 1, none⟩ (.slice (some ⟨g2, 0, none⟩) W.length W.length)).setCell ⟨w.heap.size + 1, 2, none⟩ (.slice (some ⟨g3, 0, none⟩) F.length F.length)).setCell ⟨w.heap.size + 1, 3, none⟩ (.slice (some ⟨g4, 0, none⟩) n n)).setCell ⟨w.heap.size + 1, 4, none⟩ (.slice (some ⟨g5, 0, none⟩) S.length S.length)).setCell ⟨w.heap.size + 1, 5, none⟩ (.slice (some ⟨g6, 0, none⟩) L.length L.length)) :=
    Kept.setCell (p := ⟨w.heap.size + 1, 5, none⟩) (Kept.setCell (p := ⟨w.heap.size + 1, 4, none⟩) (Kept.setCell (p := ⟨w.heap.size + 1, 3, none⟩) (Kept.setCell (p := ⟨w.heap.size + 1, 2, none⟩) (Kept.setCell (p := ⟨w.heap.size + 1, 1, none⟩) (Kept.setCell (p := ⟨w.heap.size + 1, 0, none⟩) (Kept.then (R := fun _ => False) K3.out (Kept.refl (fun _ => False) _) (fun b e => .inr e) (fun b e => False.elim e)) (fun _ => .inl rfl) _) (fun _ => .inl rfl) _) (fun _ => .inl rfl) _) (fun _ => .inl rfl) _) (fun _ => .inl rfl) _) (fun _ => .inl rfl) _
  refine bodyPost_ret (v := .agg #[.slice (some ⟨g1, 0, none⟩) l.length l.length, .slice (some ⟨g2, 0, none⟩) W.length W.length, .slice (some ⟨g3, 0, none⟩) F.length F.length, .slice (some ⟨g4, 0, none⟩) n n, .slice (some ⟨g5, 0, none⟩) S.length S.length, .slice (some ⟨g6, 0, none⟩) L.length L.length]) (by simp [results, Try.results6, go_sem, r0, r1, r2, r3, r4, r5]) rfl ⟨g1, g2, g3, g4, g5, g6, rfl, ⟨S3.out _ (Kept.then (R := fun _ => False) hk (Kept.refl (fun _ => False) _) (fun b e => by omega) (fun b e => False.elim e)), (G4.out.kept hk (fun b h1 _ e => by omega)).rd, ((L3.out.kept hk (fun b h1 e => by omega)).1).reads, ((L3.out.kept hk (fun b h1 e => by omega)).2).reads⟩, B3.out.trans (hk.below B3.out.size (fun b hb e => by omega))⟩
structure InX (w : World) (sa wa fa ca ga la : Option Addr) (l : List Sn) (W : List Wn) (F : List Int) (D : Nat → Int) (P : Nat → List Int) (n : Nat) (S L : List Int) : Prop where
  rd : RdX w sa wa fa ca ga la l W F D P n S L
  ll : l.length ≤ maxLen
  ls : ∀ s ∈ l, MaxS s
  wl : W.length ≤ maxLen
  fl : F.length ≤ maxLen
  nl : n ≤ maxLen
  pl : ∀ i, i < n → U8 (P i) ∧ (P i).length ≤ maxLen
  sl : S.length ≤ maxLen
  lo : L.length ≤ maxLen
theorem trod_store {H : Type} {enc : TypeId × Value → H} {P : Program} {w : World} {base : Nat} {spare : Nat → Bool} {held : Bool} {t : TypeId} {f0 f1 f2 : Field} {fuel : Nat} {cs : List Value} {x : DataW H × List MemPlace}
    (he : P.underlying t = some (.struct #[f0, f1, f2])) (ce : P.cellsOf t = 6) (o0 : f0.offset = 0) (o1 : f1.offset = 1) (o2 : f2.offset = 4)
    (c0 : P.cellsOf f0.type = 1) (c1 : P.cellsOf f1.type = 3) (c2 : P.cellsOf f2.type = 2) (h : DataW.trod enc P w base spare held fuel t cs = some x) :
    ∃ (v0 v1 v2 v3 v4 v5 : Value) (n : Nat) (y0 y1 y2 : DataW H × List MemPlace), cs = [v0, v1, v2, v3, v4, v5] ∧ DataW.trod enc P w base spare held n f0.type [v0] = some y0 ∧ DataW.trod enc P w base spare held n f1.type [v1, v2, v3] = some y1 ∧ DataW.trod enc P w base spare held n f2.type [v4, v5] = some y2 := by
  obtain ⟨xs, k, hk, hxy, hlen, hxl, hf⟩ := DataW.trod_struct he h
  rw [ce] at hlen
  match xs, hxl, cs, hlen with
  | [y0, y1, y2], _, [v0, v1, v2, v3, v4, v5], _ =>
    have g0 := hf 0 f0 rfl
    have g1 := hf 1 f1 rfl
    have g2 := hf 2 f2 rfl
    simp [o0, o1, o2, c0, c1, c2] at g0 g1 g2
    exact ⟨v0, v1, v2, v3, v4, v5, k, y0, y1, y2, rfl, g0, g1, g2⟩
theorem store_of_trod {H : Type} {enc : TypeId × Value → H} {w : World} {fuel : Nat} {cs : List Value} {x : DataW H × List MemPlace}
    (h : DataW.trod enc Try.prog w 0 (fun _ => true) true fuel 32 cs = some x) :
    ∃ (sa : Option Addr) (sc : Nat) (wa : Option Addr) (wc : Nat) (fa : Option Addr) (fc : Nat) (ca : Option Addr) (cc : Nat) (ga : Option Addr) (gc : Nat) (la : Option Addr) (lc : Nat) (l : List Sn) (W : List Wn) (F : List Int) (D : Nat → Int) (P : Nat → List Int) (n : Nat) (S L : List Int), cs = [.slice sa l.length sc, .slice wa W.length wc, .slice fa F.length fc, .slice ca n cc, .slice ga S.length gc, .slice la L.length lc] ∧ InX w sa wa fa ca ga la l W F D P n S L := by
  obtain ⟨v0, v1, v2, v3, v4, v5, m, y0, y1, y2, rfl, g0, g1, g2⟩ := trod_store Try.underlying32 (by kernel_rfl) rfl rfl rfl (by kernel_rfl) (by kernel_rfl) (by kernel_rfl) h
  obtain ⟨a0, n0, k0, e0⟩ : ∃ a n k, v0 = .slice a n k := by
    rcases Deep.open_slice Try.underlying22 g0 with ⟨hcs, _⟩ | ⟨ad2, l2, cp2, m2, fu2, D2, Pl2, hcs, _⟩
    · simp at hcs; exact ⟨_, _, _, hcs⟩
    · simp at hcs; exact ⟨_, _, _, hcs⟩
  subst e0
  obtain ⟨l, rfl, hl, hlm, hls⟩ := snaps_of_trod g0
  obtain ⟨wa, wc, Ws, fa, fc, F, ca, cc, n, D, P, hcs, hf, ⟨hm0, hm1, hm2⟩, hin⟩ := fetch_of_trod g1
  obtain ⟨sa, sc, S, la, lc, L, hcs2, ⟨hs1, hs2⟩, -, hms, hml⟩ := log_of_trod g2
  simp only [List.cons.injEq, and_true] at hcs hcs2
  obtain ⟨rfl, rfl, rfl⟩ := hcs
  obtain ⟨rfl, rfl⟩ := hcs2
  exact ⟨a0, k0, wa, wc, fa, fc, ca, cc, sa, sc, la, lc, l, Ws, F, D, P, n, S, L, rfl, ⟨⟨hl, hf, hs1, hs2⟩, hlm, hls, hm0, hm1, hm2, fun i hi => (hin i hi).2, hms, hml⟩⟩
end Go.Proofs.Ytfamojijgjmcmaa

