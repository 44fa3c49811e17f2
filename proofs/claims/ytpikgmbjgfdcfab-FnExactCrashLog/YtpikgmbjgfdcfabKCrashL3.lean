/-
  Texts put together: LogV LogH LogM.
-/
import Derived.Test.YtpikgmbjgfdcfabKCrashL2
import Derived.ProofKit
import Derived.ChangeOld
namespace Go.Proofs.Ytpikgmbjgfdcfab
open Go.RowKit
set_option linter.unusedVariables false

structure RdL' (w : World) (sa : Option Addr) (sc : Nat) (S : List Int) (la : Option Addr) (lc : Nat) (L : List Int) : Prop where
  sure : Reads .u8 w sa S
  loose : Reads .u8 w la L
  su8 : U8 S
  lu8 : U8 L
  scap : S.length ≤ sc
  lcap : L.length ≤ lc
  slen : S.length ≤ 1048576
  llen : L.length ≤ 1048576
theorem RdL'.below {w w' : World} {sa la : Option Addr} {sc lc : Nat} {S L : List Int} (h : RdL' w sa sc S la lc L) (hb : Below w.heap.size w w') : RdL' w' sa sc S la lc L :=
  ⟨h.sure.below hb, h.loose.below hb, h.su8, h.lu8, h.scap, h.lcap, h.slen, h.llen⟩
def ResG' (q k : Int) (S L : List Int) (w : World) (r : Ending) (w' : World) : Prop :=
  ∃ sa sc la lc M, r = .returned (.agg #[.int .i64 q, .int .i64 k, .slice sa S.length sc, .slice la L.length lc]) ∧ GB w.heap.size M w' (.slice sa S.length sc) S ∧ GB M w'.heap.size w' (.slice la L.length lc) L ∧ w.heap.size ≤ M ∧ M ≤ w'.heap.size ∧ Below w.heap.size w w'
theorem GB.low {B B' T : Nat} {w : World} {v : Value} {ds : List Int} (h : GB B T w v ds) (hB : B' ≤ B) : GB B' T w v ds := ⟨ownsRow_mono h.1 hB, h.2⟩
theorem GB.void (B T : Nat) (w : World) : GB B T w (.slice none 0 0) [] := ⟨World.ownsRow_nil _ _ _ _, fun b hb => by simp [Value.ownBlock] at hb⟩

theorem logF_many {S L : List Int} (h : 2000 < S.length + L.length) : logF S L = 2 := if_neg (by omega)
theorem logF_text {S L : List Int} (h : ¬ 2000 < S.length + L.length) (hw : (wholeZ S && wholeZ L) = false) : logF S L = 5 := by unfold logF; rw [if_pos (by omega), hw]; rfl
theorem logF_zero {S L : List Int} (h : logF S L = 0) : S.length + L.length ≤ 2000 ∧ Whole S ∧ Whole L := by
  unfold logF at h
  split at h
  · split at h
    · rename_i h1 h2
      rw [Bool.and_eq_true] at h2
      exact ⟨h1, wholeZ_iff.1 h2.1, wholeZ_iff.1 h2.2⟩
    · cases h
  · cases h

set_option maxRecDepth 100000 in
set_option maxHeartbeats 1600000 in
theorem implLogFault_any (sa la : Option Addr) (sc lc : Nat) (S L : List Int) (w : World) (h : RdL' w sa sc S la lc L) :
    Calls Try.prog 19 #[.agg #[.slice sa S.length sc, .slice la L.length lc]] w fun e w' => e = .returned (.int .i64 (logF S L)) ∧ Below w.heap.size w w' := by
  have A0 := hide (below_alloc w (.cells #[.slice sa S.length sc, .slice la L.length lc] 26))
  have T0 := hide (Two.new w (.slice sa S.length sc) (.slice la L.length lc) 26)
  have HC := hide (fun u => isTooLong_any sa la sc lc S.length L.length u h.slen h.llen)
  have C1 := hide (fun (u : World) (hb : Below w.heap.size w u) => isAllLines_any sa sc S u (h.sure.below hb) h.su8 h.scap h.slen)
  have C2 := hide (fun (u : World) (hb : Below w.heap.size w u) => isAllLines_any la lc L u (h.loose.below hb) h.lu8 h.lcap h.llen)
  by_cases hb : 2000 < S.length + L.length
  · rw [logF_many hb]
    rw [decide_eq_true hb] at HC
    clear h C1 C2 hb
    go_enter Try.func19, Try.ntmps19
    go_wp2_with fail
    refine (HC.out _).mono ?_
    rintro e w1 ⟨rfl, hb1⟩
    have HB := hide (below_next A0.out hb1)
    clear hb1
    go_wp2_with fail
    go_ret
    exact ⟨rfl, HB.out⟩
  · rw [decide_eq_false hb] at HC
    have HF : Hid (logF S L = if (wholeZ S && wholeZ L) = true then 0 else 5) := hide (if_pos (by omega))
    generalize logF S L = F at *
    generalize wholeZ S = x at *
    generalize wholeZ L = y at *
    clear h hb
    cases x
    · have HF' := hide (show F = 5 from HF.out)
      clear HF C2
      go_enter Try.func19, Try.ntmps19
      go_wp2_with fail
      refine (HC.out _).mono ?_
      rintro e w1 ⟨rfl, hb1⟩
      have HB := hide (below_next A0.out hb1)
      obtain ⟨t0, t1⟩ := T0.out.below hb1
      clear hb1
      go_wp2_with fail
      refine (C1.out _ HB.out).mono ?_
      rintro e w2 ⟨rfl, hb2⟩
      have HB2 := hide (below_next HB.out hb2)
      clear hb2
      go_wp2_with fail
      go_ret
      exact ⟨ret_int HF'.out.symm, HB2.out⟩
    · have HF' := hide (show F = if y = true then 0 else 5 from by rw [HF.out, Bool.true_and])
      clear HF
      cases y
      · have HF2 := hide (show F = 5 from HF'.out)
        clear HF'
        go_enter Try.func19, Try.ntmps19
        go_wp2_with fail
        refine (HC.out _).mono ?_
        rintro e w1 ⟨rfl, hb1⟩
        have HB := hide (below_next A0.out hb1)
        have T1 := hide (T0.out.below hb1)
        obtain ⟨t0, t1⟩ := T1.out
        clear hb1
        go_wp2_with fail
        refine (C1.out _ HB.out).mono ?_
        rintro e w2 ⟨rfl, hb2⟩
        have HB2 := hide (below_next HB.out hb2)
        obtain ⟨s0, s1⟩ := T1.out.below hb2
        clear hb2 t0 t1
        go_wp2_with fail
        refine (C2.out _ HB2.out).mono ?_
        rintro e w3 ⟨rfl, hb3⟩
        have HB3 := hide (below_next HB2.out hb3)
        clear hb3
        go_wp2_with fail
        go_ret
        exact ⟨ret_int HF2.out.symm, HB3.out⟩
      · have HF2 := hide (show F = 0 from HF'.out)
        clear HF'
        go_enter Try.func19, Try.ntmps19
        go_wp2_with fail
        refine (HC.out _).mono ?_
        rintro e w1 ⟨rfl, hb1⟩
        have HB := hide (below_next A0.out hb1)
        have T1 := hide (T0.out.below hb1)
        obtain ⟨t0, t1⟩ := T1.out
        clear hb1
        go_wp2_with fail
        refine (C1.out _ HB.out).mono ?_
        rintro e w2 ⟨rfl, hb2⟩
        have HB2 := hide (below_next HB.out hb2)
        obtain ⟨s0, s1⟩ := T1.out.below hb2
        clear hb2 t0 t1
        go_wp2_with fail
        refine (C2.out _ HB2.out).mono ?_
        rintro e w3 ⟨rfl, hb3⟩
        have HB3 := hide (below_next HB2.out hb3)
        clear hb3
        go_wp2_with fail
        go_ret
        exact ⟨ret_int HF2.out.symm, HB3.out⟩
theorem counted1_any (sa : Option Addr) (sc : Nat) (S : List Int) (w : World) (hs : Reads .u8 w sa S) (us : U8 S) (cs : S.length ≤ sc) (ns : S.length ≤ 1048576) :
    Calls Try.prog 20 #[.agg #[.slice sa S.length sc, .slice none 0 0]] w fun e w' => e = .returned (.agg #[.int .i64 0, .int .i64 ((lines S).length : Int), .slice sa S.length sc, .slice none 0 0]) ∧ Below w.heap.size w w' :=
  counted_any sa none sc 0 S [] w hs (fun e => absurd rfl e) us (fun z hz => by simp at hz) cs (Nat.le_refl _) ns (by simp)
theorem join2_any (sa la : Option Addr) (sc lc : Nat) (S L Z : List Int) (g : Nat) (w : World) (hZ : S ++ L = Z) (hc : w.cell? ⟨g, 0, none⟩ = some (.slice sa S.length sc)) (hc2 : w.cell? ⟨g, 1, none⟩ = some (.slice la L.length lc)) (h : Reads .u8 w sa S) (h2 : Reads .u8 w la L) (hl : S.length + L.length ≤ 1048576) :
    Calls Try.prog 21 #[.slice (some ⟨g, 0, none⟩) 2 2] w fun e w' => ∃ a' c', e = .returned (.slice a' Z.length c') ∧ GB w.heap.size w'.heap.size w' (.slice a' Z.length c') Z ∧ Below w.heap.size w w' := by
  have e : partsZ [(sa, S, sc), (la, L, lc)] = Z := by rw [← hZ]; simp [partsZ]
  have := joinedR_any g 2 [(sa, S, sc), (la, L, lc)] w (World.block_lt_of_cell? w _ hc) (fun j p hp => by
    cases j with
    | zero => simp at hp; subst hp; exact hc
    | succ j =>
      cases j with
      | zero => simp at hp; subst hp; exact hc2
      | succ j => simp at hp) (fun p hp => by simp at hp; rcases hp with rfl | rfl; exact h; exact h2) (by simp) (by rw [e, ← hZ, List.length_append]; exact hl)
  rw [e] at this
  exact this
end Go.Proofs.Ytpikgmbjgfdcfab

namespace Go.Proofs.Ytpikgmbjgfdcfab
open Go.ChangeShapes Go.WideShapes Go.ChangeAt Go.RowKit
set_option linter.unusedVariables false

def GL (B T : Nat) (w : World) (sa : Option Addr) (sc n : Nat) (S : List Int) (la : Option Addr) (lc m : Nat) (L : List Int) : Prop :=
  ∃ M, B ≤ M ∧ M ≤ T ∧ GB B M w (.slice sa n sc) S ∧ GB M T w (.slice la m lc) L
theorem GL.kept {P : Nat → Prop} {B T : Nat} {w w' : World} {sa : Option Addr} {sc n : Nat} {S : List Int} {la : Option Addr} {lc m : Nat} {L : List Int} (h : GL B T w sa sc n S la lc m L) (hk : Kept P w w') (hn : ∀ b, B ≤ b → b < T → ¬ P b) : GL B T w' sa sc n S la lc m L := by
  obtain ⟨M, h1, h2, h3, h4⟩ := h
  exact ⟨M, h1, h2, h3.kept hk (fun b x y => hn b x (by omega)), h4.kept hk (fun b x y => hn b (by omega) y)⟩
theorem GL.below {B T : Nat} {w w' : World} {sa : Option Addr} {sc n : Nat} {S : List Int} {la : Option Addr} {lc m : Nat} {L : List Int} (h : GL B T w sa sc n S la lc m L) (hk : Below w.heap.size w w') : GL B T w' sa sc n S la lc m L :=
  h.kept (P := fun _ => False) (Kept.of_below hk) (fun _ _ _ => id)
theorem GB.rdn {B T : Nat} {w : World} {a : Option Addr} {c n : Nat} {ds : List Int} (h : GB B T w (.slice a n c) ds) (hn : n = ds.length) : Reads .u8 w a ds := by
  subst hn; exact h.own.reads
theorem GL.rd {B T : Nat} {w : World} {sa : Option Addr} {sc n : Nat} {S : List Int} {la : Option Addr} {lc m : Nat} {L : List Int} (h : GL B T w sa sc n S la lc m L) (hn : n = S.length) (hm : m = L.length) : Reads .u8 w sa S ∧ Reads .u8 w la L := by
  obtain ⟨M, -, -, h3, h4⟩ := h
  exact ⟨h3.rdn hn, h4.rdn hm⟩
theorem ResG'.gl {q k : Int} {S L : List Int} {w : World} {r : Ending} {w' : World} (h : ResG' q k S L w r w') :
    ∃ sa sc la lc, r = .returned (.agg #[.int .i64 q, .int .i64 k, .slice sa S.length sc, .slice la L.length lc]) ∧ GL w.heap.size w'.heap.size w' sa sc S.length S la lc L.length L ∧ Below w.heap.size w w' := by
  obtain ⟨sa, sc, la, lc, M, h1, h2, h3, h4, h5, h6⟩ := h
  exact ⟨sa, sc, la, lc, h1, ⟨M, h4, h5, h2, h3⟩, h6⟩
def OL (w : World) (g1 g2 : Nat) (S L : List Int) : Prop := Own .u8 w (some ⟨g1, 0, none⟩) S ∧ Own .u8 w (some ⟨g2, 0, none⟩) L
theorem OL.kept {P : Nat → Prop} {w w' : World} {g1 g2 : Nat} {S L : List Int} (h : OL w g1 g2 S L) (hk : Kept P w w') (hn : ∀ b, b = g1 ∨ b = g2 → ¬ P b) : OL w' g1 g2 S L :=
  ⟨h.1.kept hk (fun b hb => hn b (.inl (by simpa [blkOf, eq_comm] using hb))), h.2.kept hk (fun b hb => hn b (.inr (by simpa [blkOf, eq_comm] using hb)))⟩
theorem OL.below {w w' : World} {g1 g2 : Nat} {S L : List Int} (h : OL w g1 g2 S L) (hk : Below w.heap.size w w') : OL w' g1 g2 S L :=
  ⟨h.1.below hk, h.2.below hk⟩
theorem OL.rd {w : World} {g1 g2 : Nat} {S L : List Int} (h : OL w g1 g2 S L) (us : U8 S) (ul : U8 L) (ns : S.length ≤ 1048576) (nl : L.length ≤ 1048576) : RdL' w (some ⟨g1, 0, none⟩) S.length S (some ⟨g2, 0, none⟩) L.length L :=
  ⟨h.1.reads, h.2.reads, us, ul, Nat.le_refl _, Nat.le_refl _, ns, nl⟩

theorem szB_fits (a : Option Addr) (n c : Nat) (left : Int) (w : World) (h0 : left ≤ 1048576) (hn : (n : Int) ≤ left) :
    Calls Try.prog 13 #[.slice a n c, .int .i64 left] w fun e w' => e = .returned (.int .i64 (left - n)) ∧ w' = w := by
  have h1 : ¬ (left - n) < 0 := by omega
  go_enter Try.func13, Try.ntmps13
  go_wp2
  go_ret
  exact ⟨rfl, rfl⟩
theorem szB_not (a : Option Addr) (n c : Nat) (left : Int) (w : World) (h0 : 0 ≤ left) (hl : left ≤ 1048576) (hm : (n : Int) ≤ 9223372036854775807) (hn : left < (n : Int)) :
    Calls Try.prog 13 #[.slice a n c, .int .i64 left] w fun e w' => e = .returned (.int .i64 (-1)) ∧ w' = w := by
  have h1 : (left - n) < 0 := by omega
  go_enter Try.func13, Try.ntmps13
  go_wp2
  go_ret
  exact ⟨rfl, rfl⟩
theorem szLog_fits (sa : Option Addr) (n sc : Nat) (la : Option Addr) (m lc : Nat) (w : World) (h : (n : Int) + m ≤ 1048576) :
    Calls Try.prog 4 #[.agg #[.slice sa n sc, .slice la m lc], .int .i64 1048576] w fun e w' => e = .returned (.int .i64 (1048576 - n - m)) ∧ Below w.heap.size w w' := by
  have h1 : ¬ ((1048576 : Int) - n) < 0 := by omega
  have h2 : ¬ ((1048576 : Int) - n - m) < 0 := by omega
  go_enter Try.func4, Try.ntmps4
  go_wp2_with fail
  refine (szB_fits sa n sc 1048576 _ (by decide) (by omega)).mono ?_
  rintro e w1 ⟨rfl, rfl⟩
  go_wp2_with fail
  refine (szB_fits la m lc (1048576 - n) _ (by omega) (by omega)).mono ?_
  rintro e w2 ⟨rfl, rfl⟩
  go_wp2_with fail
  go_ret
  exact ⟨rfl, below_alloc _ _⟩
theorem szLog_not (sa : Option Addr) (n sc : Nat) (la : Option Addr) (m lc : Nat) (w : World) (hn : (n : Int) ≤ 9223372036854775807) (hm : (m : Int) ≤ 9223372036854775807) (h : ¬ (n : Int) + m ≤ 1048576) :
    Calls Try.prog 4 #[.agg #[.slice sa n sc, .slice la m lc], .int .i64 1048576] w fun e w' => e = .returned (.int .i64 (-1)) ∧ Below w.heap.size w w' := by
  by_cases h0 : (n : Int) ≤ 1048576
  · have h1 : ¬ ((1048576 : Int) - n) < 0 := by omega
    go_enter Try.func4, Try.ntmps4
    go_wp2_with fail
    refine (szB_fits sa n sc 1048576 _ (by decide) (by omega)).mono ?_
    rintro e w1 ⟨rfl, rfl⟩
    go_wp2_with fail
    refine (szB_not la m lc (1048576 - n) _ (by omega) (by omega) hm (by omega)).mono ?_
    rintro e w2 ⟨rfl, rfl⟩
    go_wp2_with fail
    go_ret
    exact ⟨rfl, below_alloc _ _⟩
  · go_enter Try.func4, Try.ntmps4
    go_wp2_with fail
    refine (szB_not sa n sc 1048576 _ (by decide) (by decide) hn (by omega)).mono ?_
    rintro e w1 ⟨rfl, rfl⟩
    go_wp2_with fail
    go_ret
    exact ⟨rfl, below_alloc _ _⟩
set_option maxRecDepth 100000 in
set_option maxHeartbeats 800000 in
theorem toLog_any (sa : Option Addr) (sc : Nat) (S : List Int) (la : Option Addr) (lc : Nat) (L : List Int) (w : World) (hs : Reads .u8 w sa S) (hl : Reads .u8 w la L) (ns : S.length ≤ 1048576) (nl : L.length ≤ 1048576) :
    Calls Try.prog 6 #[.agg #[.slice sa S.length sc, .slice la L.length lc]] w fun e w' => ∃ g1 g2, e = .returned (.agg #[.slice (some ⟨g1, 0, none⟩) S.length S.length, .slice (some ⟨g2, 0, none⟩) L.length L.length]) ∧ w.heap.size ≤ g1 ∧ g1 < g2 ∧ g2 < w'.heap.size ∧ OL w' g1 g2 S L ∧ Below w.heap.size w w' := by
  have HS := hide (fun (u : World) (hb : Below w.heap.size w u) => hs.below hb)
  have HL := hide (fun (u : World) (hb : Below w.heap.size w u) => hl.below hb)
  clear hs hl
  have A0 := hide (below_alloc w (.cells #[.slice sa S.length sc, .slice la L.length lc] 24))
  have A1 := hide (below_alloc (w.alloc (.cells #[.slice sa S.length sc, .slice la L.length lc] 24)) (.cells #[.slice none 0 0, .slice none 0 0] 26))
  have A2 := hide (below_alloc ((w.alloc (.cells #[.slice sa S.length sc, .slice la L.length lc] 24)).alloc (.cells #[.slice none 0 0, .slice none 0 0] 26)) (.cells #[.slice none 0 0, .slice none 0 0] 26))
  have B0 := hide (below_next (below_next A0.out A1.out) A2.out)
  have T0 := hide (((Two.new w (.slice sa S.length sc) (.slice la L.length lc) 24).below A1.out).below A2.out)
  have X1 := hide ((Box.new (w.alloc (.cells #[.slice sa S.length sc, .slice la L.length lc] 24)) (.slice none 0 0) (.slice none 0 0) 26).below A2.out)
  have X2 := hide (Box.new ((w.alloc (.cells #[.slice sa S.length sc, .slice la L.length lc] 24)).alloc (.cells #[.slice none 0 0, .slice none 0 0] 26)) (.slice none 0 0) (.slice none 0 0) 26)
  rw [show (w.alloc (.cells #[.slice sa S.length sc, .slice la L.length lc] 24)).heap.size = w.heap.size + 1 by simp] at X1
  rw [show ((w.alloc (.cells #[.slice sa S.length sc, .slice la L.length lc] 24)).alloc (.cells #[.slice none 0 0, .slice none 0 0] 26)).heap.size = w.heap.size + 1 + 1 by simp] at X2
  have HZ0 := hide (show (((w.alloc (.cells #[.slice sa S.length sc, .slice la L.length lc] 24)).alloc (.cells #[.slice none 0 0, .slice none 0 0] 26)).alloc (.cells #[.slice none 0 0, .slice none 0 0] 26)).heap.size = w.heap.size + 3 by simp)
  go_enter Try.func6, Try.ntmps6
  go_wp2_with fail
  clear A0 A1 A2
  generalize ((w.alloc (.cells #[.slice sa S.length sc, .slice la L.length lc] 24)).alloc (.cells #[.slice none 0 0, .slice none 0 0] 26)).alloc (.cells #[.slice none 0 0, .slice none 0 0] 26) = W0 at *
  have hz0 : w.heap.size + 3 ≤ W0.heap.size := by have := HZ0.out; omega
  refine (toByteS_at sa sc S W0 (HS.out W0 B0.out) ns).mono ?_
  rintro e w1 ⟨g1, rfl, hg1, hg1', ho1, hb1⟩
  have B1 := hide (below_next B0.out hb1)
  have T1 := hide (T0.out.below hb1)
  have X11 := hide (X1.out.below hb1)
  have X21 := hide (X2.out.below hb1)
  obtain ⟨⟨y0, y1⟩, y2, y3⟩ := X21.out
  have K1 := hide (Kept.setCell (S := fun b => b = w.heap.size + 1 + 1) (p := ⟨w.heap.size + 1 + 1, 0, none⟩) (Kept.refl _ w1) (fun _ => rfl) (.slice (some ⟨g1, 0, none⟩) S.length S.length))
  have T2 := hide (T1.out.kept K1.out (by omega))
  have X12 := hide (X11.out.kept K1.out (by omega))
  have X22 : Hid (Box (w1.setCell ⟨w.heap.size + 1 + 1, 0, none⟩ (.slice (some ⟨g1, 0, none⟩) S.length S.length)) (w.heap.size + 1 + 1) (.slice (some ⟨g1, 0, none⟩) S.length S.length) (.slice none 0 0)) := hide ⟨⟨cell_set_same y0, (cell_set_other (by simp)).trans y1⟩, by simpa using y2, by simpa using y3⟩
  have O2 := hide (ho1.kept K1.out (fun b hb e => by simp only [blkOf, Option.map_some, Option.some.injEq] at hb; omega))
  have B2 := hide (B1.out.trans (K1.out.below (B := w.heap.size) B1.out.size (fun k hk e => by omega)))
  have hz1 : g1 < (w1.setCell ⟨w.heap.size + 1 + 1, 0, none⟩ (.slice (some ⟨g1, 0, none⟩) S.length S.length)).heap.size := by simp; omega
  clear hb1 ho1 T1 X11 X21 B1 K1
  obtain ⟨t0, t1⟩ := T2.out
  go_wp2_with fail
  clear t0 t1 y0 y1 y2 y3
  generalize w1.setCell ⟨w.heap.size + 1 + 1, 0, none⟩ (.slice (some ⟨g1, 0, none⟩) S.length S.length) = W1 at *
  refine (toByteS_at la lc L W1 (HL.out W1 B2.out) nl).mono ?_
  rintro e w2 ⟨g2, rfl, hg2, hg2', ho2, hb2⟩
  have B3 := hide (below_next B2.out hb2)
  have X13 := hide (X12.out.below hb2)
  have X23 := hide (X22.out.below hb2)
  obtain ⟨⟨y0, y1⟩, y2, y3⟩ := X23.out
  obtain ⟨⟨q0, q1⟩, q2, q3⟩ := X13.out
  have O3 := hide (O2.out.below hb2)
  have O4 := hide ho2
  clear hb2 ho2
  go_wp2_with fail
  have K2 := hide (Kept.setCell (S := fun b => b = w.heap.size + 1 + 1) (p := ⟨w.heap.size + 1 + 1, 1, none⟩) (Kept.refl _ w2) (fun _ => rfl) (.slice (some ⟨g2, 0, none⟩) L.length L.length))
  have K3 := hide (Kept.two (w2.setCell ⟨w.heap.size + 1 + 1, 1, none⟩ (.slice (some ⟨g2, 0, none⟩) L.length L.length)) (w.heap.size + 1) 0 1 (.slice (some ⟨g1, 0, none⟩) S.length S.length) (.slice (some ⟨g2, 0, none⟩) L.length L.length))
  refine bodyPost_ret (v := .agg #[.slice (some ⟨g1, 0, none⟩) S.length S.length, .slice (some ⟨g2, 0, none⟩) L.length L.length]) (by simp [results, Try.results6, go_sem, q0, q1]) rfl ⟨g1, g2, rfl, by omega, by omega, by simp; omega, ⟨?_, ?_⟩, ((B3.out.setCell (p := ⟨w.heap.size + 1 + 1, 1, none⟩) (by show w.heap.size ≤ w.heap.size + 1 + 1; omega) _).setCell (p := ⟨w.heap.size + 1, 0, none⟩) (by show w.heap.size ≤ w.heap.size + 1; omega) _).setCell (p := ⟨w.heap.size + 1, 1, none⟩) (by show w.heap.size ≤ w.heap.size + 1; omega) _⟩
  · exact (O3.out.kept K2.out (fun b hb e => by simp only [blkOf, Option.map_some, Option.some.injEq] at hb; omega)).kept K3.out (fun b hb e => by simp only [blkOf, Option.map_some, Option.some.injEq] at hb; omega)
  · exact (O4.out.kept K2.out (fun b hb e => by simp only [blkOf, Option.map_some, Option.some.injEq] at hb; omega)).kept K3.out (fun b hb e => by simp only [blkOf, Option.map_some, Option.some.injEq] at hb; omega)
set_option maxHeartbeats 800000 in
theorem eqLog_same (sa sb : Option Addr) (sc sd : Nat) (S : List Int) (la lb : Option Addr) (lc ld : Nat) (L : List Int) (w : World) (h1 : Reads .u8 w sa S) (h2 : Reads .u8 w sb S) (h3 : Reads .u8 w la L) (h4 : Reads .u8 w lb L) (ns : S.length ≤ 1048576) (nl : L.length ≤ 1048576) :
    Calls Try.prog 9 #[.agg #[.slice sa S.length sc, .slice la L.length lc], .agg #[.slice sb S.length sd, .slice lb L.length ld]] w fun e w' => e = .returned (.bool true) ∧ Below w.heap.size w w' := by
  have B0 := hide (below_next (below_alloc w (.cells #[.slice sa S.length sc, .slice la L.length lc] 26)) (below_alloc _ (.cells #[.slice sb S.length sd, .slice lb L.length ld] 26)))
  have C1 := hide (fun (u : World) (hb : Below w.heap.size w u) => eqByteS_b sa sb sc sd S u (h1.below hb) (h2.below hb) ns)
  have C2 := hide (fun (u : World) (hb : Below w.heap.size w u) => eqByteS_b la lb lc ld L u (h3.below hb) (h4.below hb) nl)
  have T0 := hide ((Two.new w (.slice sa S.length sc) (.slice la L.length lc) 26).below (below_alloc _ (.cells #[.slice sb S.length sd, .slice lb L.length ld] 26)))
  have U0 := hide (Two.new (w.alloc (.cells #[.slice sa S.length sc, .slice la L.length lc] 26)) (.slice sb S.length sd) (.slice lb L.length ld) 26)
  rw [show (w.alloc (.cells #[.slice sa S.length sc, .slice la L.length lc] 26)).heap.size = w.heap.size + 1 by simp] at U0
  clear h1 h2 h3 h4
  go_enter Try.func9, Try.ntmps9
  go_wp2_with fail
  refine (C1.out _ B0.out).mono ?_
  rintro e w1 ⟨rfl, hb1⟩
  have B1 := hide (below_next B0.out hb1)
  obtain ⟨t0, t1⟩ := T0.out.below hb1
  obtain ⟨u0, u1⟩ := U0.out.below hb1
  clear hb1
  go_wp2_with fail
  refine (C2.out _ B1.out).mono ?_
  rintro e w2 ⟨rfl, hb2⟩
  have B2 := hide (below_next B1.out hb2)
  clear hb2
  go_wp2_with fail
  go_ret
  exact ⟨rfl, B2.out⟩
set_option maxHeartbeats 800000 in
theorem eqLogResult_same (q k : Int) (sa sb : Option Addr) (sc sd : Nat) (S : List Int) (la lb : Option Addr) (lc ld : Nat) (L : List Int) (w : World) (h1 : Reads .u8 w sa S) (h2 : Reads .u8 w sb S) (h3 : Reads .u8 w la L) (h4 : Reads .u8 w lb L) (ns : S.length ≤ 1048576) (nl : L.length ≤ 1048576) :
    Calls Try.prog 8 #[.agg #[.int .i64 q, .int .i64 k, .slice sa S.length sc, .slice la L.length lc], .agg #[.int .i64 q, .int .i64 k, .slice sb S.length sd, .slice lb L.length ld]] w fun e w' => e = .returned (.bool true) ∧ Below w.heap.size w w' := by
  have B0 := hide (below_next (below_alloc w (.cells #[.int .i64 q, .int .i64 k, .slice sa S.length sc, .slice la L.length lc] 28)) (below_alloc _ (.cells #[.int .i64 q, .int .i64 k, .slice sb S.length sd, .slice lb L.length ld] 28)))
  have C1 := hide (fun (u : World) (hb : Below w.heap.size w u) => eqLog_same sa sb sc sd S la lb lc ld L u (h1.below hb) (h2.below hb) (h3.below hb) (h4.below hb) ns nl)
  clear h1 h2 h3 h4
  go_enter Try.func8, Try.ntmps8
  go_wp2_with fail
  refine (C1.out _ B0.out).mono ?_
  rintro e w1 ⟨rfl, hb1⟩
  have B1 := hide (below_next B0.out hb1)
  clear hb1
  go_wp2_with fail
  go_ret
  exact ⟨rfl, B1.out⟩
set_option maxHeartbeats 800000 in
theorem markLog_any (sa la : Option Addr) (sc lc : Nat) (S L : List Int) (k : Int) (w : World) (h1 : Own .u8 w sa S) (h2 : Own .u8 w la L) (hlt : ∀ b, blkOf sa b → b < w.heap.size) (hne : ∀ b, blkOf la b → ¬ blkOf sa b) (hk0 : 0 ≤ k) (hk1 : k ≤ 1048576) (ns : S.length ≤ 1048576) (nl : L.length ≤ 1048576) :
    Calls Try.prog 10 #[.agg #[.slice sa S.length sc, .slice la L.length lc], .int .i64 k] w fun e w' => e = .returned (.int .i64 (k + S.length + L.length)) ∧ ∃ w1 w2, Below w.heap.size w w1 ∧ Own .u8 w2 sa (marks k S.length) ∧ Kept (blkOf sa) w1 w2 ∧ SameShape w1 w2 ∧ Own .u8 w' la (marks (k + S.length) L.length) ∧ Kept (blkOf la) w2 w' ∧ SameShape w2 w' := by
  have A0 := hide (below_alloc w (.cells #[.slice sa S.length sc, .slice la L.length lc] 26))
  have T0 := hide (Two.new w (.slice sa S.length sc) (.slice la L.length lc) 26)
  have H1 := hide (h1.below A0.out)
  have H2 := hide (h2.below A0.out)
  have HLT := hide hlt
  have HNE := hide hne
  clear h1 h2 hlt hne
  go_enter Try.func10, Try.ntmps10
  go_wp2_with fail
  refine (markByteS_any sa sc S k _ H1.out hk0 (by omega) (by omega)).mono ?_
  rintro e w2 ⟨rfl, o1, k1, s1⟩
  have H3 := hide (H2.out.kept k1 (fun b hb hS => HNE.out b hb hS))
  obtain ⟨t0, t1⟩ := T0.out.kept k1 (fun hS => by have := HLT.out _ hS; omega)
  have O1 := hide o1
  have K1 := hide k1
  have S1 := hide s1
  clear o1 k1 s1
  go_wp2_with fail
  refine (markByteS_any la lc L (k + S.length) _ H3.out (by omega) (by omega) (by omega)).mono ?_
  rintro e w3 ⟨rfl, o2, k2, s2⟩
  have O2 := hide o2
  have K2 := hide k2
  have S2 := hide s2
  clear o2 k2 s2
  go_wp2_with fail
  go_ret
  exact ⟨rfl, _, w2, A0.out, O1.out, K1.out, S1.out, O2.out, K2.out, S2.out⟩
theorem markLog_own (g1 g2 : Nat) (sc lc : Nat) (S L : List Int) (k : Int) (w : World) (h : OL w g1 g2 S L) (h1 : g1 < w.heap.size) (hne : g1 ≠ g2) (hk0 : 0 ≤ k) (hk1 : k ≤ 1048576) (ns : S.length ≤ 1048576) (nl : L.length ≤ 1048576) :
    Calls Try.prog 10 #[.agg #[.slice (some ⟨g1, 0, none⟩) S.length sc, .slice (some ⟨g2, 0, none⟩) L.length lc], .int .i64 k] w fun e w' => e = .returned (.int .i64 (k + S.length + L.length)) ∧ Kept (fun b => b = g1 ∨ b = g2) w w' := by
  refine (markLog_any (some ⟨g1, 0, none⟩) (some ⟨g2, 0, none⟩) sc lc S L k w h.1 h.2 (fun b hb => by simp [blkOf] at hb; omega) (fun b hb hS => by simp [blkOf] at hb hS; omega) hk0 hk1 ns nl).mono ?_
  rintro e w' ⟨rfl, w1, w2, b1, -, k1, -, -, k2, -⟩
  exact ⟨rfl, ((Kept.of_below b1).trans (k1.mono (fun b _ hb => .inl (by simpa [blkOf, eq_comm] using hb)))).trans (k2.mono (fun b _ hb => .inr (by simpa [blkOf, eq_comm] using hb)))⟩
theorem blk_in {a : Option Addr} {n c b : Nat} (h : blkOf a b) : (Value.slice a n c).ownBlock = some b := by
  cases a with
  | none => simp [blkOf] at h
  | some x => simpa [blkOf, Value.ownBlock] using h
set_option maxHeartbeats 1600000 in
theorem markLogResult_any (q k : Int) (B T : Nat) (sa la : Option Addr) (sc lc : Nat) (S L : List Int) (w : World) (h : GL B T w sa sc S.length S la lc L.length L) (ns : S.length ≤ 1048576) (nl : L.length ≤ 1048576) :
    Calls Try.prog 11 #[.agg #[.int .i64 q, .int .i64 k, .slice sa S.length sc, .slice la L.length lc], .int .i64 1] w fun e w' => e = .returned (.int .i64 ((1 : Int) + S.length + L.length)) ∧ GL B T w' sa sc S.length (marks 1 S.length) la lc L.length (marks (1 + S.length) L.length) ∧ Kept (fun b => B ≤ b ∧ b < T) w w' := by
  obtain ⟨M, hM1, hM2, g1, g2⟩ := h
  have A0 := hide (below_alloc w (.cells #[.int .i64 q, .int .i64 k, .slice sa S.length sc, .slice la L.length lc] 28))
  have G1 := hide (g1.below A0.out)
  have G2 := hide (g2.below A0.out)
  have HLT := hide (fun b (hb : blkOf sa b) => show b < (w.alloc (.cells #[.int .i64 q, .int .i64 k, .slice sa S.length sc, .slice la L.length lc] 28)).heap.size from (World.ownsRow.lt G1.out.1 b (blk_in hb)).2)
  have HNE := hide (fun b (hb : blkOf la b) (hS : blkOf sa b) => show False from by
    have h1 := g1.2 b (blk_in hS)
    have h2 := (World.ownsRow.lt g2.1 b (blk_in hb)).1
    omega)
  have HC := hide (markLog_any sa la sc lc S L 1 _ G1.out.own G2.out.own HLT.out HNE.out (by decide) (by decide) ns nl)
  have HB1 := hide (fun b (hb : blkOf sa b) => show B ≤ b ∧ b < M from ⟨(World.ownsRow.lt g1.1 b (blk_in hb)).1, g1.2 b (blk_in hb)⟩)
  have HB2 := hide (fun b (hb : blkOf la b) => show M ≤ b ∧ b < T from ⟨(World.ownsRow.lt g2.1 b (blk_in hb)).1, g2.2 b (blk_in hb)⟩)
  clear g1 g2
  go_enter Try.func11, Try.ntmps11
  go_wp2_with fail
  refine HC.out.mono ?_
  rintro e w' ⟨rfl, w1, w2, b1, o1, k1, s1, o2, k2, s2⟩
  have E : Hid (GB B M w' (.slice sa S.length sc) (marks 1 S.length) ∧ GB M T w' (.slice la L.length lc) (marks (1 + S.length) L.length) ∧ Kept (fun b => B ≤ b ∧ b < T) w w') := hide (by
    have x1 := (G1.out.below b1).mark (marks_length _ _) o1 s1
    have x2 : GB B M w' (.slice sa S.length sc) (marks 1 S.length) := x1.kept k2 (fun b h1 h2 hS => by have := HB2.out b hS; omega)
    have y1 : GB M T w2 (.slice la L.length lc) L := (G2.out.below b1).kept k1 (fun b h1 h2 hS => by have := HB1.out b hS; omega)
    have y2 := y1.mark (marks_length _ _) o2 s2
    exact ⟨x2, y2, (((Kept.of_below A0.out).trans ((Kept.of_below b1).mono (fun _ _ h => h))).trans (k1.mono (fun b _ hb => by have := HB1.out b hb; omega))).trans (k2.mono (fun b _ hb => by have := HB2.out b hb; omega))⟩)
  clear o1 k1 s1 o2 k2 s2 b1
  go_wp2_with fail
  go_ret
  exact ⟨rfl, ⟨M, hM1, hM2, E.out.1, E.out.2.1⟩, E.out.2.2⟩
set_option maxHeartbeats 800000 in
theorem heldLog_any (sa la : Option Addr) (sc lc n m : Nat) (w : World) (h1 : Reads .u8 w sa (marks 1 n)) (h2 : Reads .u8 w la (marks (1 + n) m)) (hn : n ≤ 1048576) (hm : m ≤ 1048576) :
    Calls Try.prog 25 #[.agg #[.slice sa n sc, .slice la m lc], .int .i64 1] w fun e w' => e = .returned (.int .i64 ((1 : Int) + n + m)) ∧ Below w.heap.size w w' := by
  have A0 := hide (below_alloc w (.cells #[.slice sa n sc, .slice la m lc] 26))
  have T0 := hide (Two.new w (.slice sa n sc) (.slice la m lc) 26)
  have H1 := hide (h1.below A0.out)
  have H2 := hide (h2.below A0.out)
  have hk2 : ¬ ((1 : Int) + (n : Int)) < 0 := by omega
  have hk3 : ¬ ((1 : Int) + (n : Int) + (m : Int)) < 0 := by omega
  clear h1 h2
  go_enter Try.func25, Try.ntmps25
  go_wp2_with fail
  refine (heldByteS_any sa sc n 1 _ H1.out (by decide) (by decide) (by omega)).mono ?_
  rintro e w1 ⟨rfl, rfl⟩
  obtain ⟨t0, t1⟩ := T0.out
  go_wp2_with fail
  refine (heldByteS_any la lc m (1 + n) _ H2.out (by omega) (by omega) (by omega)).mono ?_
  rintro e w2 ⟨rfl, rfl⟩
  go_wp2_with fail
  go_ret
  exact ⟨rfl, A0.out⟩
set_option maxHeartbeats 800000 in
theorem heldLogResult_any (q k : Int) (sa la : Option Addr) (sc lc n m : Nat) (w : World) (h1 : Reads .u8 w sa (marks 1 n)) (h2 : Reads .u8 w la (marks (1 + n) m)) (hn : n ≤ 1048576) (hm : m ≤ 1048576) :
    Calls Try.prog 12 #[.agg #[.int .i64 q, .int .i64 k, .slice sa n sc, .slice la m lc], .int .i64 1] w fun e w' => e = .returned (.int .i64 ((1 : Int) + n + m)) ∧ Below w.heap.size w w' := by
  have A0 := hide (below_alloc w (.cells #[.int .i64 q, .int .i64 k, .slice sa n sc, .slice la m lc] 28))
  have HC := hide (heldLog_any sa la sc lc n m _ (h1.below A0.out) (h2.below A0.out) hn hm)
  have hk3 : ¬ ((1 : Int) + (n : Int) + (m : Int)) < 0 := by omega
  clear h1 h2
  go_enter Try.func12, Try.ntmps12
  go_wp2_with fail
  refine HC.out.mono ?_
  rintro e w1 ⟨rfl, hb1⟩
  have B1 := hide (below_next A0.out hb1)
  clear hb1
  go_wp2_with fail
  go_ret
  exact ⟨rfl, B1.out⟩
theorem bytesL_of_trod {H : Type} {enc : TypeId × Value → H} {W : World} {a : Option Addr} {n c fuel : Nat} {x : DataW H × List MemPlace}
    (h : DataW.trod enc Try.prog W 0 (fun _ => true) true fuel 22 [.slice a n c] = some x) : ∃ zs : List Int, zs.length = n ∧ Reads .u8 W a zs ∧ U8 zs ∧ zs.length ≤ maxLen := by
  rcases open_ints Try.underlying22 Try.underlying5 (by kernel_rfl) h with ⟨hcs, _⟩ | ⟨x, l, c, zs, hcs, _, hl, hm, hz, _, hcell, hwz⟩
  · simp at hcs
    obtain ⟨rfl, rfl, rfl⟩ := hcs
    exact ⟨[], rfl, fun h => absurd rfl h, fun z hz => by simp at hz, Nat.zero_le _⟩
  · simp at hcs
    obtain ⟨rfl, rfl, rfl⟩ := hcs
    exact reads_of_row (by simpa using hz) hl hm hcell hwz
theorem trod_twoL {H : Type} {enc : TypeId × Value → H} {P : Program} {w : World} {base : Nat} {spare : Nat → Bool} {held : Bool} {t : TypeId} {f0 f1 : Field} {fuel : Nat} {cs : List Value} {x : DataW H × List MemPlace}
    (he : P.underlying t = some (.struct #[f0, f1])) (ce : P.cellsOf t = 2) (o0 : f0.offset = 0) (o1 : f1.offset = 1)
    (c0 : P.cellsOf f0.type = 1) (c1 : P.cellsOf f1.type = 1) (h : DataW.trod enc P w base spare held fuel t cs = some x) :
    ∃ (v0 v1 : Value) (n : Nat) (y0 y1 : DataW H × List MemPlace), cs = [v0, v1] ∧ DataW.trod enc P w base spare held n f0.type [v0] = some y0 ∧ DataW.trod enc P w base spare held n f1.type [v1] = some y1 := by
  obtain ⟨xs, k, hk, hxy, hlen, hxl, hf⟩ := DataW.trod_struct he h
  rw [ce] at hlen
  match xs, hxl, cs, hlen with
  | [y0, y1], _, [v0, v1], _ =>
    have g0 := hf 0 f0 rfl
    have g1 := hf 1 f1 rfl
    simp [o0, o1, c0, c1] at g0 g1
    exact ⟨v0, v1, k, y0, y1, rfl, g0, g1⟩
theorem log_of_trod {H : Type} {enc : TypeId × Value → H} {W : World} {fuel : Nat} {cs : List Value} {x : DataW H × List MemPlace}
    (h : DataW.trod enc Try.prog W 0 (fun _ => true) true fuel 24 cs = some x) :
    ∃ (sa : Option Addr) (sc : Nat) (S : List Int) (la : Option Addr) (lc : Nat) (L : List Int), cs = [.slice sa S.length sc, .slice la L.length lc] ∧ (Reads .u8 W sa S ∧ Reads .u8 W la L) ∧ (U8 S ∧ U8 L) ∧ S.length ≤ maxLen ∧ L.length ≤ maxLen := by
  obtain ⟨v0, v1, m, y0, y1, rfl, g0, g1⟩ := trod_twoL Try.underlying24 (by kernel_rfl) rfl rfl (by kernel_rfl) (by kernel_rfl) h
  obtain ⟨a0, n0, k0, e0⟩ : ∃ a n k, v0 = .slice a n k := by
    rcases open_ints Try.underlying22 Try.underlying5 (by kernel_rfl) g0 with ⟨hcs, _⟩ | ⟨x, l, c, zs, hcs, _⟩
    · simp at hcs; exact ⟨_, _, _, hcs⟩
    · simp at hcs; exact ⟨_, _, _, hcs⟩
  obtain ⟨a1, n1, k1, e1⟩ : ∃ a n k, v1 = .slice a n k := by
    rcases open_ints Try.underlying22 Try.underlying5 (by kernel_rfl) g1 with ⟨hcs, _⟩ | ⟨x, l, c, zs, hcs, _⟩
    · simp at hcs; exact ⟨_, _, _, hcs⟩
    · simp at hcs; exact ⟨_, _, _, hcs⟩
  subst e0 e1
  obtain ⟨S, rfl, hs, us, ms⟩ := bytesL_of_trod g0
  obtain ⟨L, rfl, hl, ul, ml⟩ := bytesL_of_trod g1
  exact ⟨a0, k0, S, a1, k1, L, rfl, ⟨hs, hl⟩, ⟨us, ul⟩, ms, ml⟩
end Go.Proofs.Ytpikgmbjgfdcfab

namespace Go.Proofs.Ytpikgmbjgfdcfab
open Go.RowKit
set_option linter.unusedVariables false

theorem tk {P : Program} {ops : Array Oper} {Q : Exit → Act → World → Prop} {md : Region.Mode} {S : World → Prop} (i d : Nat) (v : Value) {op : Op} {ty : TypeId} {pos : String} {af : Array Edge} {gd : Option (Nat × Bool)} {fuel : Nat} {listed : Array Bool} {a : Act} {w : World} (hS : S w) (hi : ops[i]? = some { dst := some d, op := op, type := ty, pos := pos, after := af, guard := gd })
    (hs : Region.noSelect ops = true) (hf : Region.free md ops listed i = true) (hr : (Region.ready md ops listed).contains i = true) (hQ : ∀ c a w, Q (.panic c) (a.put (some d) v) w → Q (.panic c) a w) (hy : YieldsIf P ops S { dst := some d, op := op, type := ty, pos := pos, after := af, guard := gd } v a)
    (h : wpAnyH P md ops Q S fuel (listed.setIfInBounds i true) (a.put (some d) v) w) : wpAnyH P md ops Q S (fuel + 1) listed a w := wpAnyH_take hi hs hf hr hQ hy hS h
def OneM (zs : List Int) (e : Ending) : Prop :=
  (one zs = none ∧ e = .returned (.tuple #[.string ⟨#[]⟩, .int .i64 0])) ∨ (∃ l, one zs = some l ∧ e = .returned (.tuple #[.string (strB l), .int .i64 ((l.length : Int) + 5)]))
theorem one_short {zs : List Int} (h : zs.length < 6) : one zs = none := by
  cases hO : one zs with
  | none => rfl
  | some l =>
    obtain ⟨h1, -, h2, -⟩ := one_some hO
    have := lineF_len h1
    omega
theorem one_head {z : Int} {t : List Int} (h : ¬ (1 ≤ z ∧ z + 4 ≤ t.length)) : one (z :: t) = none := by
  cases hO : one (z :: t) with
  | none => rfl
  | some l =>
    obtain ⟨h1, -, h3, h4⟩ := one_some hO
    have h5 := lineF_len h1
    have e := congrArg (fun q : List Int => q.getD 0 0) h4
    simp only [packZ, headZ, List.cons_append, List.getD_cons_zero] at e
    simp only [List.length_cons] at h3
    omega
set_option maxRecDepth 100000 in
set_option maxHeartbeats 1600000 in
theorem l14One_any (a : Option Addr) (c : Nat) (zs : List Int) (w : World) (h : Reads .u8 w a zs) (hu : U8 zs) (hc : zs.length ≤ c) (hl : zs.length ≤ 1048576) :
    Calls Try.prog 26 #[.slice a zs.length c] w fun e w' => OneM zs e ∧ Below w.heap.size w w' := by
  by_cases h6 : zs.length < 6
  · have hN := hide (one_short h6)
    clear h hu
    go_enter Try.func26, Try.ntmps26
    go_wp2_with fail
    go_ret2
    exact ⟨.inl ⟨hN.out, rfl⟩, Below.refl _ _⟩
  · have hz : zs ≠ [] := fun e => h6 (by simp [e])
    obtain ⟨b, off, rfl, hb, -⟩ := h hz
    obtain ⟨z, t, rfl⟩ : ∃ z t, zs = z :: t := by cases zs with | nil => exact absurd rfl hz | cons z t => exact ⟨z, t, rfl⟩
    have hcell := (dat_drop h).1
    obtain ⟨z0, z1⟩ := hu z (by simp)
    obtain ⟨k, rfl⟩ : ∃ k : Nat, z = k := ⟨z.toNat, by omega⟩
    have hTL : ((k : Int) :: t).length = t.length + 1 := rfl
    by_cases hk1 : 1 ≤ k
    · by_cases hend : k + 4 ≤ t.length
      · have hln : lnOf ((k : Int) :: t) = bys (t.take k) := by simp [lnOf]
        have hlt : (t.take k).length = k := by rw [List.length_take]; omega
        have hlb : (bys (t.take k)).length = k := by rw [bys_len, hlt]
        have hone : one ((k : Int) :: t) = if lineF (bys (t.take k)) = 0 ∧ packZ (bys (t.take k)) = ((k : Int) :: t).take (k + 5) then some (bys (t.take k)) else none := by unfold one; rw [hln, hlb]
        have HCV : Hid (∀ u : World, Below w.heap.size w u → Sem.run Try.prog (convert 22 9 (.slice (some ⟨b, off + 1, none⟩) k (c - 1))) u = .ok (.string (strB (bys (t.take k)))) u) := hide (fun u hu' => by
          have hR1 := reads_part (h.below hu') 1 k (by simp; omega)
          simp only [List.drop_succ_cons, List.drop_zero] at hR1
          have := conv_reads (c := c - 1) hR1
          rwa [hlt, nums_bys] at this)
        have htl : (((k : Int) :: t).take (k + 5)).length = k + 5 := by rw [List.length_take, hTL]; omega
        have HCW : Hid (∀ u : World, Below w.heap.size w u → Sem.run Try.prog (convert 22 9 (.slice (some ⟨b, off, none⟩) (k + 5) c)) u = .ok (.string (strOfNums (((k : Int) :: t).take (k + 5)))) u) := hide (fun u hu' => by
          have hR1 := reads_part (h.below hu') 0 (k + 5) (by rw [hTL]; omega)
          rw [List.drop_zero, Nat.add_zero] at hR1
          have := conv_reads (c := c) hR1
          rwa [htl] at this)
        have htu := u8_take hu (k + 5)
        have hcw := HCV.out w (Below.refl _ _)
        generalize bys (t.take k) = l at *
        generalize ((k : Int) :: t).take (k + 5) = zz at *
        have HO := hide hone
        rw [hTL] at hl hc h6 ⊢
        have HLB := hide hlb
        have hsl : (strB l).size = k := by rw [strB_size]; exact hlb
        have hkc : ((k : Int) + 5 : Int) ≤ (c : Int) := by omega
        have h50 : (0 : Int) ≤ (k : Int) + 5 := by omega
        have htn : ((k : Int) + 5).toNat = k + 5 := by omega
        clear hone h hlt hln hz hTL htl hu hlb
        by_cases h0 : lineF l = 0
        · have HLF : Hid (∀ u : World, Calls Try.prog 34 #[.string (strB l)] u fun e w' => e = .returned (.int .i64 0) ∧ w' = u) := hide fun u => by have := specLineFault_any (strB l) u (by omega); rw [strB_list, h0] at this; exact this
          have h60 := lineF_len h0
          have HPK : Hid (∀ u : World, Calls Try.prog 35 #[.string (strB l)] u fun e w' => ∃ a c, e = .returned (.slice a (packZ l).length c) ∧ GB u.heap.size w'.heap.size w' (.slice a (packZ l).length c) (packZ l) ∧ Below u.heap.size u w') := hide fun u => by have := l14Pack_any (strB l) u (by rw [hsl]; omega) (by rw [hsl]; have := HLB.out; omega); rw [strB_list] at this; exact this
          have hpu := packZ_u8 (l := l) (by omega)
          clear h60
          generalize packZ l = pk at *
          by_cases he : pk = zz
          · have HN : Hid (one ((k : Int) :: t) = some l) := hide (by rw [HO.out]; exact if_pos ⟨h0, he⟩)
            subst he
            clear HO h0 hpu htu
            go_enter Try.func26, Try.ntmps26
            go_wp2_with fail
            have BX := hide ((Below.refl w.heap.size w).drew)
            refine wp_region_held_drew (S := fun u => Sem.run Try.prog (convert 22 9 (.slice (some ⟨b, off, none⟩) (k + 5) c)) u = .ok (.string (strOfNums pk)) u) (by kernel_rfl) (HCW.out _ BX.out) (fun hHeld => ?_)
            change wpAnyH _ _ _ _ _ _ (Array.replicate _ false) _ _
            refine tk 0 27 (.string (strB l)) hHeld rfl (by kernel_rfl) (by kernel_rfl) (by kernel_rfl) (fun _ _ _ h => h) (Or.inl ⟨by rfl, ?_⟩) ?_
            · rintro w q0
              go_simp <;> (first | done | decide | omega | (intro _; omega))
            try simp only [Act.put, List.setIfInBounds_toArray, List.set_cons_zero, List.set_cons_succ]
            refine wpAnyH_ready (rs := [1]) (by kernel_rfl) (by simp) ?_
            refine AllReadyH.cons rfl (fun K hK => ?_) AllReadyH.nil
            go_simp
            refine (HLF.out _).mono ?_
            rintro e x1 ⟨rfl, hx1⟩
            subst hx1
            go_wp2_with fail
            refine hK.out _ _ (HCW.out _ BX.out) (fun hHeld => ?_)
            clear hK K
            try simp only [Act.put, List.setIfInBounds_toArray, List.set_cons_zero, List.set_cons_succ]
            refine tk 2 29 (.bool false) hHeld rfl (by kernel_rfl) (by kernel_rfl) (by kernel_rfl) (fun _ _ _ h => h) (Or.inl ⟨by rfl, ?_⟩) ?_
            · rintro w q0
              go_simp <;> (first | done | decide | omega | (intro _; omega))
            try simp only [Act.put, List.setIfInBounds_toArray, List.set_cons_zero, List.set_cons_succ]
            refine tk 3 30 (.bool false) hHeld rfl (by kernel_rfl) (by kernel_rfl) (by kernel_rfl) (fun _ _ _ h => h) (Or.inl ⟨by rfl, ?_⟩) ?_
            · rintro w q0
              go_simp <;> (first | done | decide | omega | (intro _; omega))
            try simp only [Act.put, List.setIfInBounds_toArray, List.set_cons_zero, List.set_cons_succ]
            refine tk 4 31 (.string (strB l)) hHeld rfl (by kernel_rfl) (by kernel_rfl) (by kernel_rfl) (fun _ _ _ h => h) (Or.inl ⟨by rfl, ?_⟩) ?_
            · rintro w q0
              go_simp <;> (first | done | decide | omega | (intro _; omega))
            try simp only [Act.put, List.setIfInBounds_toArray, List.set_cons_zero, List.set_cons_succ]
            refine tk 7 34 (.slice (some ⟨b, off, none⟩) (t.length + 1) c) hHeld rfl (by kernel_rfl) (by kernel_rfl) (by kernel_rfl) (fun _ _ _ h => h) (Or.inl ⟨by rfl, ?_⟩) ?_
            · rintro w q0
              go_simp <;> (first | done | decide | omega | (intro _; omega))
            try simp only [Act.put, List.setIfInBounds_toArray, List.set_cons_zero, List.set_cons_succ]
            refine tk 8 35 (.int .i64 ((k : Int) + 5)) hHeld rfl (by kernel_rfl) (by kernel_rfl) (by kernel_rfl) (fun _ _ _ h => h) (Or.inl ⟨by rfl, ?_⟩) ?_
            · rintro w q0
              go_simp <;> (first | done | decide | omega | (intro _; omega))
            try simp only [Act.put, List.setIfInBounds_toArray, List.set_cons_zero, List.set_cons_succ]
            refine tk 9 36 (.slice (some ⟨b, off, none⟩) (k + 5) c) hHeld rfl (by kernel_rfl) (by kernel_rfl) (by kernel_rfl) (fun _ _ _ h => h) (Or.inl ⟨by rfl, ?_⟩) ?_
            · rintro w q0
              go_simp <;> (first | done | decide | omega | (intro _; omega))
            try simp only [Act.put, List.setIfInBounds_toArray, List.set_cons_zero, List.set_cons_succ]
            refine tk 10 37 (.string (strOfNums pk)) hHeld rfl (by kernel_rfl) (by kernel_rfl) (by kernel_rfl) (fun _ _ _ h => h) (Or.inl ⟨by rfl, ?_⟩) ?_
            · rintro w q0
              go_simp <;> (first | done | decide | omega | (intro _; omega))
            try simp only [Act.put, List.setIfInBounds_toArray, List.set_cons_zero, List.set_cons_succ]
            refine wpAnyH_ready (rs := [5]) (by kernel_rfl) (by simp) ?_
            refine AllReadyH.cons rfl (fun K hK => ?_) AllReadyH.nil
            go_simp
            refine (HPK.out _).mono ?_
            rintro e x2 ⟨pa, pc, rfl, hg2, hx2⟩
            have BXn := hide (below_next BX.out hx2)
            have hcp := conv_reads (c := pc) hg2.own.reads
            clear hg2 hx2 BX
            have BX := BXn
            clear BXn
            go_wp2_with fail
            refine hK.out _ _ (HCW.out _ BX.out) (fun hHeld => ?_)
            clear hK K
            try simp only [Act.put, List.setIfInBounds_toArray, List.set_cons_zero, List.set_cons_succ]
            refine wpAnyH_ready (rs := [6]) (by kernel_rfl) (by simp) ?_
            refine AllReadyH.cons rfl (fun K hK => ?_) AllReadyH.nil
            go_simp
            refine hK.out _ _ (HCW.out _ BX.out) (fun hHeld => ?_)
            clear hK K
            try simp only [Act.put, List.setIfInBounds_toArray, List.set_cons_zero, List.set_cons_succ]
            refine tk 11 38 (.bool false) hHeld rfl (by kernel_rfl) (by kernel_rfl) (by kernel_rfl) (fun _ _ _ h => h) (Or.inl ⟨by rfl, ?_⟩) ?_
            · rintro w q0
              go_simp <;> (first | done | decide | omega | (intro _; omega))
            try simp only [Act.put, List.setIfInBounds_toArray, List.set_cons_zero, List.set_cons_succ]
            refine tk 12 39 (.bool false) hHeld rfl (by kernel_rfl) (by kernel_rfl) (by kernel_rfl) (fun _ _ _ h => h) (Or.inl ⟨by rfl, ?_⟩) ?_
            · rintro w q0
              go_simp <;> (first | done | decide | omega | (intro _; omega))
            try simp only [Act.put, List.setIfInBounds_toArray, List.set_cons_zero, List.set_cons_succ]
            refine wpAnyH_done (by kernel_rfl) ?_ _
            go_wp2_with fail
            go_ret2
            exact ⟨.inr ⟨l, HN.out, by rw [HLB.out]; rfl⟩, BX.out⟩
          · have HN : Hid (one ((k : Int) :: t) = none) := hide (by rw [HO.out]; exact if_neg fun e => he e.2)
            have hne : ((strOfNums pk).toList == (strOfNums zz).toList) = false := by
              rw [beq_eq_false_iff_ne]
              intro e
              exact he (nums_inj hpu htu (ByteArray.ext (Array.ext' (by rw [ByteArray.toList_eq, ByteArray.toList_eq] at e; exact e))))
            have hne3 : strOfNums pk ≠ strOfNums zz := fun e => he (nums_inj hpu htu e)
            clear HO h0 hpu htu he
            go_enter Try.func26, Try.ntmps26
            go_wp2_with fail
            have BX := hide ((Below.refl w.heap.size w).drew)
            refine wp_region_held_drew (S := fun u => Sem.run Try.prog (convert 22 9 (.slice (some ⟨b, off, none⟩) (k + 5) c)) u = .ok (.string (strOfNums zz)) u) (by kernel_rfl) (HCW.out _ BX.out) (fun hHeld => ?_)
            change wpAnyH _ _ _ _ _ _ (Array.replicate _ false) _ _
            refine tk 0 27 (.string (strB l)) hHeld rfl (by kernel_rfl) (by kernel_rfl) (by kernel_rfl) (fun _ _ _ h => h) (Or.inl ⟨by rfl, ?_⟩) ?_
            · rintro w q0
              go_simp <;> (first | done | decide | omega | (intro _; omega))
            try simp only [Act.put, List.setIfInBounds_toArray, List.set_cons_zero, List.set_cons_succ]
            refine wpAnyH_ready (rs := [1]) (by kernel_rfl) (by simp) ?_
            refine AllReadyH.cons rfl (fun K hK => ?_) AllReadyH.nil
            go_simp
            refine (HLF.out _).mono ?_
            rintro e x1 ⟨rfl, hx1⟩
            subst hx1
            go_wp2_with fail
            refine hK.out _ _ (HCW.out _ BX.out) (fun hHeld => ?_)
            clear hK K
            try simp only [Act.put, List.setIfInBounds_toArray, List.set_cons_zero, List.set_cons_succ]
            refine tk 2 29 (.bool false) hHeld rfl (by kernel_rfl) (by kernel_rfl) (by kernel_rfl) (fun _ _ _ h => h) (Or.inl ⟨by rfl, ?_⟩) ?_
            · rintro w q0
              go_simp <;> (first | done | decide | omega | (intro _; omega))
            try simp only [Act.put, List.setIfInBounds_toArray, List.set_cons_zero, List.set_cons_succ]
            refine tk 3 30 (.bool false) hHeld rfl (by kernel_rfl) (by kernel_rfl) (by kernel_rfl) (fun _ _ _ h => h) (Or.inl ⟨by rfl, ?_⟩) ?_
            · rintro w q0
              go_simp <;> (first | done | decide | omega | (intro _; omega))
            try simp only [Act.put, List.setIfInBounds_toArray, List.set_cons_zero, List.set_cons_succ]
            refine tk 4 31 (.string (strB l)) hHeld rfl (by kernel_rfl) (by kernel_rfl) (by kernel_rfl) (fun _ _ _ h => h) (Or.inl ⟨by rfl, ?_⟩) ?_
            · rintro w q0
              go_simp <;> (first | done | decide | omega | (intro _; omega))
            try simp only [Act.put, List.setIfInBounds_toArray, List.set_cons_zero, List.set_cons_succ]
            refine tk 7 34 (.slice (some ⟨b, off, none⟩) (t.length + 1) c) hHeld rfl (by kernel_rfl) (by kernel_rfl) (by kernel_rfl) (fun _ _ _ h => h) (Or.inl ⟨by rfl, ?_⟩) ?_
            · rintro w q0
              go_simp <;> (first | done | decide | omega | (intro _; omega))
            try simp only [Act.put, List.setIfInBounds_toArray, List.set_cons_zero, List.set_cons_succ]
            refine tk 8 35 (.int .i64 ((k : Int) + 5)) hHeld rfl (by kernel_rfl) (by kernel_rfl) (by kernel_rfl) (fun _ _ _ h => h) (Or.inl ⟨by rfl, ?_⟩) ?_
            · rintro w q0
              go_simp <;> (first | done | decide | omega | (intro _; omega))
            try simp only [Act.put, List.setIfInBounds_toArray, List.set_cons_zero, List.set_cons_succ]
            refine tk 9 36 (.slice (some ⟨b, off, none⟩) (k + 5) c) hHeld rfl (by kernel_rfl) (by kernel_rfl) (by kernel_rfl) (fun _ _ _ h => h) (Or.inl ⟨by rfl, ?_⟩) ?_
            · rintro w q0
              go_simp <;> (first | done | decide | omega | (intro _; omega))
            try simp only [Act.put, List.setIfInBounds_toArray, List.set_cons_zero, List.set_cons_succ]
            refine tk 10 37 (.string (strOfNums zz)) hHeld rfl (by kernel_rfl) (by kernel_rfl) (by kernel_rfl) (fun _ _ _ h => h) (Or.inl ⟨by rfl, ?_⟩) ?_
            · rintro w q0
              go_simp <;> (first | done | decide | omega | (intro _; omega))
            try simp only [Act.put, List.setIfInBounds_toArray, List.set_cons_zero, List.set_cons_succ]
            refine wpAnyH_ready (rs := [5]) (by kernel_rfl) (by simp) ?_
            refine AllReadyH.cons rfl (fun K hK => ?_) AllReadyH.nil
            go_simp
            refine (HPK.out _).mono ?_
            rintro e x2 ⟨pa, pc, rfl, hg2, hx2⟩
            have BXn := hide (below_next BX.out hx2)
            have hcp := conv_reads (c := pc) hg2.own.reads
            clear hg2 hx2 BX
            have BX := BXn
            clear BXn
            go_wp2_with fail
            refine hK.out _ _ (HCW.out _ BX.out) (fun hHeld => ?_)
            clear hK K
            try simp only [Act.put, List.setIfInBounds_toArray, List.set_cons_zero, List.set_cons_succ]
            refine wpAnyH_ready (rs := [6]) (by kernel_rfl) (by simp) ?_
            refine AllReadyH.cons rfl (fun K hK => ?_) AllReadyH.nil
            go_simp
            refine hK.out _ _ (HCW.out _ BX.out) (fun hHeld => ?_)
            clear hK K
            try simp only [Act.put, List.setIfInBounds_toArray, List.set_cons_zero, List.set_cons_succ]
            refine tk 11 38 (.bool true) hHeld rfl (by kernel_rfl) (by kernel_rfl) (by kernel_rfl) (fun _ _ _ h => h) (Or.inl ⟨by rfl, ?_⟩) ?_
            · rintro w q0
              go_simp <;> (first | done | decide | omega | (intro _; omega))
            try simp only [Act.put, List.setIfInBounds_toArray, List.set_cons_zero, List.set_cons_succ]
            refine tk 12 39 (.bool true) hHeld rfl (by kernel_rfl) (by kernel_rfl) (by kernel_rfl) (fun _ _ _ h => h) (Or.inl ⟨by rfl, ?_⟩) ?_
            · rintro w q0
              go_simp <;> (first | done | decide | omega | (intro _; omega))
            try simp only [Act.put, List.setIfInBounds_toArray, List.set_cons_zero, List.set_cons_succ]
            refine wpAnyH_done (by kernel_rfl) ?_ _
            go_wp2_with fail
            go_ret2
            exact ⟨.inl ⟨HN.out, rfl⟩, BX.out⟩
        · have HN : Hid (one ((k : Int) :: t) = none) := hide (by rw [HO.out]; exact if_neg fun e => h0 e.1)
          have HLF : Hid (∀ u : World, Calls Try.prog 34 #[.string (strB l)] u fun e w' => e = .returned (.int .i64 (lineF l)) ∧ w' = u) := hide fun u => by have := specLineFault_any (strB l) u (by omega); rw [strB_list] at this; exact this
          generalize lineF l = q at *
          have hq0 : ¬ q = 0 := h0
          clear HO htu h0
          go_enter Try.func26, Try.ntmps26
          go_wp2_with fail
          have BX := hide ((Below.refl w.heap.size w).drew)
          refine wp_region_held_drew (S := fun u => Sem.run Try.prog (convert 22 9 (.slice (some ⟨b, off, none⟩) (k + 5) c)) u = .ok (.string (strOfNums zz)) u) (by kernel_rfl) (HCW.out _ BX.out) (fun hHeld => ?_)
          change wpAnyH _ _ _ _ _ _ (Array.replicate _ false) _ _
          refine tk 0 27 (.string (strB l)) hHeld rfl (by kernel_rfl) (by kernel_rfl) (by kernel_rfl) (fun _ _ _ h => h) (Or.inl ⟨by rfl, ?_⟩) ?_
          · rintro w q0
            go_simp <;> (first | done | decide | omega | (intro _; omega))
          try simp only [Act.put, List.setIfInBounds_toArray, List.set_cons_zero, List.set_cons_succ]
          refine wpAnyH_ready (rs := [1]) (by kernel_rfl) (by simp) ?_
          refine AllReadyH.cons rfl (fun K hK => ?_) AllReadyH.nil
          go_simp
          refine (HLF.out _).mono ?_
          rintro e x1 ⟨rfl, hx1⟩
          subst hx1
          go_wp2_with fail
          refine hK.out _ _ (HCW.out _ BX.out) (fun hHeld => ?_)
          clear hK K
          try simp only [Act.put, List.setIfInBounds_toArray, List.set_cons_zero, List.set_cons_succ]
          refine tk 2 29 (.bool true) hHeld rfl (by kernel_rfl) (by kernel_rfl) (by kernel_rfl) (fun _ _ _ h => h) (Or.inl ⟨by rfl, ?_⟩) ?_
          · rintro w q0
            go_simp <;> (first | done | exact hq0)
          try simp only [Act.put, List.setIfInBounds_toArray, List.set_cons_zero, List.set_cons_succ]
          refine tk 3 30 (.bool true) hHeld rfl (by kernel_rfl) (by kernel_rfl) (by kernel_rfl) (fun _ _ _ h => h) (Or.inl ⟨by rfl, ?_⟩) ?_
          · rintro w q0
            go_simp <;> (first | done | decide | omega | (intro _; omega))
          try simp only [Act.put, List.setIfInBounds_toArray, List.set_cons_zero, List.set_cons_succ]
          refine tk 4 31 undef hHeld rfl (by kernel_rfl) (by kernel_rfl) (by kernel_rfl) (fun _ _ _ h => h) (Or.inr ⟨by rfl, rfl⟩) ?_
          try simp only [Act.put, List.setIfInBounds_toArray, List.set_cons_zero, List.set_cons_succ]
          refine tk 5 32 undef hHeld rfl (by kernel_rfl) (by kernel_rfl) (by kernel_rfl) (fun _ _ _ h => h) (Or.inr ⟨by rfl, rfl⟩) ?_
          try simp only [Act.put, List.setIfInBounds_toArray, List.set_cons_zero, List.set_cons_succ]
          refine tk 6 33 undef hHeld rfl (by kernel_rfl) (by kernel_rfl) (by kernel_rfl) (fun _ _ _ h => h) (Or.inr ⟨by rfl, rfl⟩) ?_
          try simp only [Act.put, List.setIfInBounds_toArray, List.set_cons_zero, List.set_cons_succ]
          refine tk 7 34 undef hHeld rfl (by kernel_rfl) (by kernel_rfl) (by kernel_rfl) (fun _ _ _ h => h) (Or.inr ⟨by rfl, rfl⟩) ?_
          try simp only [Act.put, List.setIfInBounds_toArray, List.set_cons_zero, List.set_cons_succ]
          refine tk 8 35 undef hHeld rfl (by kernel_rfl) (by kernel_rfl) (by kernel_rfl) (fun _ _ _ h => h) (Or.inr ⟨by rfl, rfl⟩) ?_
          try simp only [Act.put, List.setIfInBounds_toArray, List.set_cons_zero, List.set_cons_succ]
          refine tk 9 36 undef hHeld rfl (by kernel_rfl) (by kernel_rfl) (by kernel_rfl) (fun _ _ _ h => h) (Or.inr ⟨by rfl, rfl⟩) ?_
          try simp only [Act.put, List.setIfInBounds_toArray, List.set_cons_zero, List.set_cons_succ]
          refine tk 10 37 undef hHeld rfl (by kernel_rfl) (by kernel_rfl) (by kernel_rfl) (fun _ _ _ h => h) (Or.inr ⟨by rfl, rfl⟩) ?_
          try simp only [Act.put, List.setIfInBounds_toArray, List.set_cons_zero, List.set_cons_succ]
          refine tk 11 38 undef hHeld rfl (by kernel_rfl) (by kernel_rfl) (by kernel_rfl) (fun _ _ _ h => h) (Or.inr ⟨by rfl, rfl⟩) ?_
          try simp only [Act.put, List.setIfInBounds_toArray, List.set_cons_zero, List.set_cons_succ]
          refine tk 12 39 (.bool true) hHeld rfl (by kernel_rfl) (by kernel_rfl) (by kernel_rfl) (fun _ _ _ h => h) (Or.inl ⟨by rfl, ?_⟩) ?_
          · rintro w q0
            go_simp <;> (first | done | decide | omega | (intro _; omega))
          try simp only [Act.put, List.setIfInBounds_toArray, List.set_cons_zero, List.set_cons_succ]
          refine wpAnyH_done (by kernel_rfl) ?_ _
          go_wp2_with fail
          go_ret2
          exact ⟨.inl ⟨HN.out, rfl⟩, BX.out⟩
      · have hN := hide (one_head (z := (k : Int)) (t := t) (fun e => by omega))
        rw [hTL] at hl hc h6 ⊢
        clear h hu hTL hz
        have hd : decide ((k : Int) + 5 < 6) = false := decide_eq_false (by omega)
        go_enter Try.func26, Try.ntmps26
        go_wp2_with fail
        go_ret2
        exact ⟨.inl ⟨hN.out, rfl⟩, Below.refl _ _⟩
    · have hN := hide (one_head (z := (k : Int)) (t := t) (fun e => by omega))
      rw [hTL] at hl hc h6 ⊢
      clear h hu hTL hz
      have hd : decide ((k : Int) + 5 < 6) = true := decide_eq_true (by omega)
      go_enter Try.func26, Try.ntmps26
      go_wp2_with fail
      go_ret2
      exact ⟨.inl ⟨hN.out, rfl⟩, Below.refl _ _⟩
end Go.Proofs.Ytpikgmbjgfdcfab

