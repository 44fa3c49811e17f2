/-
  Texts put together: LogV LogH.
-/
import Derived.Test.YtpikgmbjgfdcfaaKAppend2
import Derived.ProofKit
import Derived.ChangeOld
namespace Go.Proofs.Ytpikgmbjgfdcfaa
open Go.RowKit
set_option linter.unusedVariables false

structure RdL' (w : World) (sa : Option Addr) (sc : Nat) (S : List Int) (la : Option Addr) (lc : Nat) (L : List Int) : Prop where
  sure : Reads .u8 w sa S
  loose : Reads .u8 w la L
  su8 : U8 S
  lu8 : U8 L
  scap : S.length ≤ sc
  lcap : L.length ≤ lc
  slen : S.length ≤ 1048576
  llen : L.length ≤ 1048576
theorem RdL'.below {w w' : World} {sa la : Option Addr} {sc lc : Nat} {S L : List Int} (h : RdL' w sa sc S la lc L) (hb : Below w.heap.size w w') : RdL' w' sa sc S la lc L :=
  ⟨h.sure.below hb, h.loose.below hb, h.su8, h.lu8, h.scap, h.lcap, h.slen, h.llen⟩
def ResG' (q k : Int) (S L : List Int) (w : World) (r : Ending) (w' : World) : Prop :=
  ∃ sa sc la lc M, r = .returned (.agg #[.int .i64 q, .int .i64 k, .slice sa S.length sc, .slice la L.length lc]) ∧ GB w.heap.size M w' (.slice sa S.length sc) S ∧ GB M w'.heap.size w' (.slice la L.length lc) L ∧ w.heap.size ≤ M ∧ M ≤ w'.heap.size ∧ Below w.heap.size w w'
theorem GB.low {B B' T : Nat} {w : World} {v : Value} {ds : List Int} (h : GB B T w v ds) (hB : B' ≤ B) : GB B' T w v ds := ⟨ownsRow_mono h.1 hB, h.2⟩
theorem GB.void (B T : Nat) (w : World) : GB B T w (.slice none 0 0) [] := ⟨World.ownsRow_nil _ _ _ _, fun b hb => by simp [Value.ownBlock] at hb⟩

theorem logF_many {S L : List Int} (h : 2000 < S.length + L.length) : logF S L = 2 := if_neg (by omega)
theorem logF_text {S L : List Int} (h : ¬ 2000 < S.length + L.length) (hw : (wholeZ S && wholeZ L) = false) : logF S L = 5 := by unfold logF; rw [if_pos (by omega), hw]; rfl
theorem logF_zero {S L : List Int} (h : logF S L = 0) : S.length + L.length ≤ 2000 ∧ Whole S ∧ Whole L := by
  unfold logF at h
  split at h
  · split at h
    · rename_i h1 h2
      rw [Bool.and_eq_true] at h2
      exact ⟨h1, wholeZ_iff.1 h2.1, wholeZ_iff.1 h2.2⟩
    · cases h
  · cases h

set_option maxRecDepth 100000 in
set_option maxHeartbeats 1600000 in
theorem implLogFault_any (sa la : Option Addr) (sc lc : Nat) (S L : List Int) (w : World) (h : RdL' w sa sc S la lc L) :
    Calls Try.prog 16 #[.agg #[.slice sa S.length sc, .slice la L.length lc]] w fun e w' => e = .returned (.int .i64 (logF S L)) ∧ Below w.heap.size w w' := by
  have A0 := hide (below_alloc w (.cells #[.slice sa S.length sc, .slice la L.length lc] 25))
  have T0 := hide (Two.new w (.slice sa S.length sc) (.slice la L.length lc) 25)
  have HC := hide (fun u => isTooLong_any sa la sc lc S.length L.length u h.slen h.llen)
  have C1 := hide (fun (u : World) (hb : Below w.heap.size w u) => isAllLines_any sa sc S u (h.sure.below hb) h.su8 h.scap h.slen)
  have C2 := hide (fun (u : World) (hb : Below w.heap.size w u) => isAllLines_any la lc L u (h.loose.below hb) h.lu8 h.lcap h.llen)
  by_cases hb : 2000 < S.length + L.length
  · rw [logF_many hb]
    rw [decide_eq_true hb] at HC
    clear h C1 C2 hb
    go_enter Try.func16, Try.ntmps16
    go_wp2_with fail
    refine (HC.out _).mono ?_
    rintro e w1 ⟨rfl, hb1⟩
    have HB := hide (below_next A0.out hb1)
    clear hb1
    go_wp2_with fail
    go_ret
    exact ⟨rfl, HB.out⟩
  · rw [decide_eq_false hb] at HC
    have HF : Hid (logF S L = if (wholeZ S && wholeZ L) = true then 0 else 5) := hide (if_pos (by omega))
    generalize logF S L = F at *
    generalize wholeZ S = x at *
    generalize wholeZ L = y at *
    clear h hb
    cases x
    · have HF' := hide (show F = 5 from HF.out)
      clear HF C2
      go_enter Try.func16, Try.ntmps16
      go_wp2_with fail
      refine (HC.out _).mono ?_
      rintro e w1 ⟨rfl, hb1⟩
      have HB := hide (below_next A0.out hb1)
      obtain ⟨t0, t1⟩ := T0.out.below hb1
      clear hb1
      go_wp2_with fail
      refine (C1.out _ HB.out).mono ?_
      rintro e w2 ⟨rfl, hb2⟩
      have HB2 := hide (below_next HB.out hb2)
      clear hb2
      go_wp2_with fail
      go_ret
      exact ⟨ret_int HF'.out.symm, HB2.out⟩
    · have HF' := hide (show F = if y = true then 0 else 5 from by rw [HF.out, Bool.true_and])
      clear HF
      cases y
      · have HF2 := hide (show F = 5 from HF'.out)
        clear HF'
        go_enter Try.func16, Try.ntmps16
        go_wp2_with fail
        refine (HC.out _).mono ?_
        rintro e w1 ⟨rfl, hb1⟩
        have HB := hide (below_next A0.out hb1)
        have T1 := hide (T0.out.below hb1)
        obtain ⟨t0, t1⟩ := T1.out
        clear hb1
        go_wp2_with fail
        refine (C1.out _ HB.out).mono ?_
        rintro e w2 ⟨rfl, hb2⟩
        have HB2 := hide (below_next HB.out hb2)
        obtain ⟨s0, s1⟩ := T1.out.below hb2
        clear hb2 t0 t1
        go_wp2_with fail
        refine (C2.out _ HB2.out).mono ?_
        rintro e w3 ⟨rfl, hb3⟩
        have HB3 := hide (below_next HB2.out hb3)
        clear hb3
        go_wp2_with fail
        go_ret
        exact ⟨ret_int HF2.out.symm, HB3.out⟩
      · have HF2 := hide (show F = 0 from HF'.out)
        clear HF'
        go_enter Try.func16, Try.ntmps16
        go_wp2_with fail
        refine (HC.out _).mono ?_
        rintro e w1 ⟨rfl, hb1⟩
        have HB := hide (below_next A0.out hb1)
        have T1 := hide (T0.out.below hb1)
        obtain ⟨t0, t1⟩ := T1.out
        clear hb1
        go_wp2_with fail
        refine (C1.out _ HB.out).mono ?_
        rintro e w2 ⟨rfl, hb2⟩
        have HB2 := hide (below_next HB.out hb2)
        obtain ⟨s0, s1⟩ := T1.out.below hb2
        clear hb2 t0 t1
        go_wp2_with fail
        refine (C2.out _ HB2.out).mono ?_
        rintro e w3 ⟨rfl, hb3⟩
        have HB3 := hide (below_next HB2.out hb3)
        clear hb3
        go_wp2_with fail
        go_ret
        exact ⟨ret_int HF2.out.symm, HB3.out⟩
theorem join1_any (sa : Option Addr) (sc : Nat) (S : List Int) (g : Nat) (w : World) (hc : w.cell? ⟨g, 0, none⟩ = some (.slice sa S.length sc)) (h : Reads .u8 w sa S) (hl : S.length ≤ 1048576) :
    Calls Try.prog 45 #[.slice (some ⟨g, 0, none⟩) 1 1] w fun e w' => ∃ a' c', e = .returned (.slice a' S.length c') ∧ GB w.heap.size w'.heap.size w' (.slice a' S.length c') S ∧ Below w.heap.size w w' := by
  have e : partsZ [(sa, S, sc)] = S := by simp [partsZ]
  have := joinedR_any g 1 [(sa, S, sc)] w (World.block_lt_of_cell? w _ hc) (fun j p hp => by
    cases j with
    | zero => simp at hp; subst hp; exact hc
    | succ j => simp at hp) (fun p hp => by simp at hp; subst hp; exact h) (by simp) (by rw [e]; exact hl)
  rw [e] at this
  exact this
theorem join2_any (sa la : Option Addr) (sc lc : Nat) (S L Z : List Int) (g : Nat) (w : World) (hZ : S ++ L = Z) (hc : w.cell? ⟨g, 0, none⟩ = some (.slice sa S.length sc)) (hc2 : w.cell? ⟨g, 1, none⟩ = some (.slice la L.length lc)) (h : Reads .u8 w sa S) (h2 : Reads .u8 w la L) (hl : S.length + L.length ≤ 1048576) :
    Calls Try.prog 45 #[.slice (some ⟨g, 0, none⟩) 2 2] w fun e w' => ∃ a' c', e = .returned (.slice a' Z.length c') ∧ GB w.heap.size w'.heap.size w' (.slice a' Z.length c') Z ∧ Below w.heap.size w w' := by
  have e : partsZ [(sa, S, sc), (la, L, lc)] = Z := by rw [← hZ]; simp [partsZ]
  have := joinedR_any g 2 [(sa, S, sc), (la, L, lc)] w (World.block_lt_of_cell? w _ hc) (fun j p hp => by
    cases j with
    | zero => simp at hp; subst hp; exact hc
    | succ j =>
      cases j with
      | zero => simp at hp; subst hp; exact hc2
      | succ j => simp at hp) (fun p hp => by simp at hp; rcases hp with rfl | rfl; exact h; exact h2) (by simp) (by rw [e, ← hZ, List.length_append]; exact hl)
  rw [e] at this
  exact this
end Go.Proofs.Ytpikgmbjgfdcfaa

namespace Go.Proofs.Ytpikgmbjgfdcfaa
open Go.ChangeShapes Go.WideShapes Go.ChangeAt Go.RowKit
set_option linter.unusedVariables false

def GL (B T : Nat) (w : World) (sa : Option Addr) (sc n : Nat) (S : List Int) (la : Option Addr) (lc m : Nat) (L : List Int) : Prop :=
  ∃ M, B ≤ M ∧ M ≤ T ∧ GB B M w (.slice sa n sc) S ∧ GB M T w (.slice la m lc) L
theorem GL.kept {P : Nat → Prop} {B T : Nat} {w w' : World} {sa : Option Addr} {sc n : Nat} {S : List Int} {la : Option Addr} {lc m : Nat} {L : List Int} (h : GL B T w sa sc n S la lc m L) (hk : Kept P w w') (hn : ∀ b, B ≤ b → b < T → ¬ P b) : GL B T w' sa sc n S la lc m L := by
  obtain ⟨M, h1, h2, h3, h4⟩ := h
  exact ⟨M, h1, h2, h3.kept hk (fun b x y => hn b x (by omega)), h4.kept hk (fun b x y => hn b (by omega) y)⟩
theorem GL.below {B T : Nat} {w w' : World} {sa : Option Addr} {sc n : Nat} {S : List Int} {la : Option Addr} {lc m : Nat} {L : List Int} (h : GL B T w sa sc n S la lc m L) (hk : Below w.heap.size w w') : GL B T w' sa sc n S la lc m L :=
  h.kept (P := fun _ => False) (Kept.of_below hk) (fun _ _ _ => id)
theorem GB.rdn {B T : Nat} {w : World} {a : Option Addr} {c n : Nat} {ds : List Int} (h : GB B T w (.slice a n c) ds) (hn : n = ds.length) : Reads .u8 w a ds := by
  subst hn; exact h.own.reads
theorem GL.rd {B T : Nat} {w : World} {sa : Option Addr} {sc n : Nat} {S : List Int} {la : Option Addr} {lc m : Nat} {L : List Int} (h : GL B T w sa sc n S la lc m L) (hn : n = S.length) (hm : m = L.length) : Reads .u8 w sa S ∧ Reads .u8 w la L := by
  obtain ⟨M, -, -, h3, h4⟩ := h
  exact ⟨h3.rdn hn, h4.rdn hm⟩
theorem ResG'.gl {q k : Int} {S L : List Int} {w : World} {r : Ending} {w' : World} (h : ResG' q k S L w r w') :
    ∃ sa sc la lc, r = .returned (.agg #[.int .i64 q, .int .i64 k, .slice sa S.length sc, .slice la L.length lc]) ∧ GL w.heap.size w'.heap.size w' sa sc S.length S la lc L.length L ∧ Below w.heap.size w w' := by
  obtain ⟨sa, sc, la, lc, M, h1, h2, h3, h4, h5, h6⟩ := h
  exact ⟨sa, sc, la, lc, h1, ⟨M, h4, h5, h2, h3⟩, h6⟩
def OL (w : World) (g1 g2 : Nat) (S L : List Int) : Prop := Own .u8 w (some ⟨g1, 0, none⟩) S ∧ Own .u8 w (some ⟨g2, 0, none⟩) L
theorem OL.kept {P : Nat → Prop} {w w' : World} {g1 g2 : Nat} {S L : List Int} (h : OL w g1 g2 S L) (hk : Kept P w w') (hn : ∀ b, b = g1 ∨ b = g2 → ¬ P b) : OL w' g1 g2 S L :=
  ⟨h.1.kept hk (fun b hb => hn b (.inl (by simpa [blkOf, eq_comm] using hb))), h.2.kept hk (fun b hb => hn b (.inr (by simpa [blkOf, eq_comm] using hb)))⟩
theorem OL.below {w w' : World} {g1 g2 : Nat} {S L : List Int} (h : OL w g1 g2 S L) (hk : Below w.heap.size w w') : OL w' g1 g2 S L :=
  ⟨h.1.below hk, h.2.below hk⟩
theorem OL.rd {w : World} {g1 g2 : Nat} {S L : List Int} (h : OL w g1 g2 S L) (us : U8 S) (ul : U8 L) (ns : S.length ≤ 1048576) (nl : L.length ≤ 1048576) : RdL' w (some ⟨g1, 0, none⟩) S.length S (some ⟨g2, 0, none⟩) L.length L :=
  ⟨h.1.reads, h.2.reads, us, ul, Nat.le_refl _, Nat.le_refl _, ns, nl⟩

theorem szB_fits (a : Option Addr) (n c : Nat) (left : Int) (w : World) (h0 : left ≤ 1048576) (hn : (n : Int) ≤ left) :
    Calls Try.prog 62 #[.slice a n c, .int .i64 left] w fun e w' => e = .returned (.int .i64 (left - n)) ∧ w' = w := by
  have h1 : ¬ (left - n) < 0 := by omega
  go_enter Try.func62, Try.ntmps62
  go_wp2
  go_ret
  exact ⟨rfl, rfl⟩
theorem szB_not (a : Option Addr) (n c : Nat) (left : Int) (w : World) (h0 : 0 ≤ left) (hl : left ≤ 1048576) (hm : (n : Int) ≤ 9223372036854775807) (hn : left < (n : Int)) :
    Calls Try.prog 62 #[.slice a n c, .int .i64 left] w fun e w' => e = .returned (.int .i64 (-1)) ∧ w' = w := by
  have h1 : (left - n) < 0 := by omega
  go_enter Try.func62, Try.ntmps62
  go_wp2
  go_ret
  exact ⟨rfl, rfl⟩
theorem szLog_fits (sa : Option Addr) (n sc : Nat) (la : Option Addr) (m lc : Nat) (w : World) (h : (n : Int) + m ≤ 1048576) :
    Calls Try.prog 30 #[.agg #[.slice sa n sc, .slice la m lc], .int .i64 1048576] w fun e w' => e = .returned (.int .i64 (1048576 - n - m)) ∧ Below w.heap.size w w' := by
  have h1 : ¬ ((1048576 : Int) - n) < 0 := by omega
  have h2 : ¬ ((1048576 : Int) - n - m) < 0 := by omega
  go_enter Try.func30, Try.ntmps30
  go_wp2_with fail
  refine (szB_fits sa n sc 1048576 _ (by decide) (by omega)).mono ?_
  rintro e w1 ⟨rfl, rfl⟩
  go_wp2_with fail
  refine (szB_fits la m lc (1048576 - n) _ (by omega) (by omega)).mono ?_
  rintro e w2 ⟨rfl, rfl⟩
  go_wp2_with fail
  go_ret
  exact ⟨rfl, below_alloc _ _⟩
theorem szLog_not (sa : Option Addr) (n sc : Nat) (la : Option Addr) (m lc : Nat) (w : World) (hn : (n : Int) ≤ 9223372036854775807) (hm : (m : Int) ≤ 9223372036854775807) (h : ¬ (n : Int) + m ≤ 1048576) :
    Calls Try.prog 30 #[.agg #[.slice sa n sc, .slice la m lc], .int .i64 1048576] w fun e w' => e = .returned (.int .i64 (-1)) ∧ Below w.heap.size w w' := by
  by_cases h0 : (n : Int) ≤ 1048576
  · have h1 : ¬ ((1048576 : Int) - n) < 0 := by omega
    go_enter Try.func30, Try.ntmps30
    go_wp2_with fail
    refine (szB_fits sa n sc 1048576 _ (by decide) (by omega)).mono ?_
    rintro e w1 ⟨rfl, rfl⟩
    go_wp2_with fail
    refine (szB_not la m lc (1048576 - n) _ (by omega) (by omega) hm (by omega)).mono ?_
    rintro e w2 ⟨rfl, rfl⟩
    go_wp2_with fail
    go_ret
    exact ⟨rfl, below_alloc _ _⟩
  · go_enter Try.func30, Try.ntmps30
    go_wp2_with fail
    refine (szB_not sa n sc 1048576 _ (by decide) (by decide) hn (by omega)).mono ?_
    rintro e w1 ⟨rfl, rfl⟩
    go_wp2_with fail
    go_ret
    exact ⟨rfl, below_alloc _ _⟩
set_option maxRecDepth 100000 in
set_option maxHeartbeats 800000 in
theorem toLog_any (sa : Option Addr) (sc : Nat) (S : List Int) (la : Option Addr) (lc : Nat) (L : List Int) (w : World) (hs : Reads .u8 w sa S) (hl : Reads .u8 w la L) (ns : S.length ≤ 1048576) (nl : L.length ≤ 1048576) :
    Calls Try.prog 32 #[.agg #[.slice sa S.length sc, .slice la L.length lc]] w fun e w' => ∃ g1 g2, e = .returned (.agg #[.slice (some ⟨g1, 0, none⟩) S.length S.length, .slice (some ⟨g2, 0, none⟩) L.length L.length]) ∧ w.heap.size ≤ g1 ∧ g1 < g2 ∧ g2 < w'.heap.size ∧ OL w' g1 g2 S L ∧ Below w.heap.size w w' := by
  have HS := hide (fun (u : World) (hb : Below w.heap.size w u) => hs.below hb)
  have HL := hide (fun (u : World) (hb : Below w.heap.size w u) => hl.below hb)
  clear hs hl
  have A0 := hide (below_alloc w (.cells #[.slice sa S.length sc, .slice la L.length lc] 50))
  have A1 := hide (below_alloc (w.alloc (.cells #[.slice sa S.length sc, .slice la L.length lc] 50)) (.cells #[.slice none 0 0, .slice none 0 0] 25))
  have A2 := hide (below_alloc ((w.alloc (.cells #[.slice sa S.length sc, .slice la L.length lc] 50)).alloc (.cells #[.slice none 0 0, .slice none 0 0] 25)) (.cells #[.slice none 0 0, .slice none 0 0] 25))
  have B0 := hide (below_next (below_next A0.out A1.out) A2.out)
  have T0 := hide (((Two.new w (.slice sa S.length sc) (.slice la L.length lc) 50).below A1.out).below A2.out)
  have X1 := hide ((Box.new (w.alloc (.cells #[.slice sa S.length sc, .slice la L.length lc] 50)) (.slice none 0 0) (.slice none 0 0) 25).below A2.out)
  have X2 := hide (Box.new ((w.alloc (.cells #[.slice sa S.length sc, .slice la L.length lc] 50)).alloc (.cells #[.slice none 0 0, .slice none 0 0] 25)) (.slice none 0 0) (.slice none 0 0) 25)
  rw [show (w.alloc (.cells #[.slice sa S.length sc, .slice la L.length lc] 50)).heap.size = w.heap.size + 1 by simp] at X1
  rw [show ((w.alloc (.cells #[.slice sa S.length sc, .slice la L.length lc] 50)).alloc (.cells #[.slice none 0 0, .slice none 0 0] 25)).heap.size = w.heap.size + 1 + 1 by simp] at X2
  have HZ0 := hide (show (((w.alloc (.cells #[.slice sa S.length sc, .slice la L.length lc] 50)).alloc (.cells #[.slice none 0 0, .slice none 0 0] 25)).alloc (.cells #[.slice none 0 0, .slice none 0 0] 25)).heap.size = w.heap.size + 3 by simp)
  go_enter Try.func32, Try.ntmps32
  go_wp2_with fail
  clear A0 A1 A2
  generalize ((w.alloc (.cells #[.slice sa S.length sc, .slice la L.length lc] 50)).alloc (.cells #[.slice none 0 0, .slice none 0 0] 25)).alloc (.cells #[.slice none 0 0, .slice none 0 0] 25) = W0 at *
  have hz0 : w.heap.size + 3 ≤ W0.heap.size := by have := HZ0.out; omega
  refine (toByteS_at sa sc S W0 (HS.out W0 B0.out) ns).mono ?_
  rintro e w1 ⟨g1, rfl, hg1, hg1', ho1, hb1⟩
  have B1 := hide (below_next B0.out hb1)
  have T1 := hide (T0.out.below hb1)
  have X11 := hide (X1.out.below hb1)
  have X21 := hide (X2.out.below hb1)
  obtain ⟨⟨y0, y1⟩, y2, y3⟩ := X21.out
  have K1 := hide (Kept.setCell (S := fun b => b = w.heap.size + 1 + 1) (p := ⟨w.heap.size + 1 + 1, 0, none⟩) (Kept.refl _ w1) (fun _ => rfl) (.slice (some ⟨g1, 0, none⟩) S.length S.length))
  have T2 := hide (T1.out.kept K1.out (by omega))
  have X12 := hide (X11.out.kept K1.out (by omega))
  have X22 : Hid (Box (w1.setCell ⟨w.heap.size + 1 + 1, 0, none⟩ (.slice (some ⟨g1, 0, none⟩) S.length S.length)) (w.heap.size + 1 + 1) (.slice (some ⟨g1, 0, none⟩) S.length S.length) (.slice none 0 0)) := hide ⟨⟨cell_set_same y0, (cell_set_other (by simp)).trans y1⟩, by simpa using y2, by simpa using y3⟩
  have O2 := hide (ho1.kept K1.out (fun b hb e => by simp only [blkOf, Option.map_some, Option.some.injEq] at hb; omega))
  have B2 := hide (B1.out.trans (K1.out.below (B := w.heap.size) B1.out.size (fun k hk e => by omega)))
  have hz1 : g1 < (w1.setCell ⟨w.heap.size + 1 + 1, 0, none⟩ (.slice (some ⟨g1, 0, none⟩) S.length S.length)).heap.size := by simp; omega
  clear hb1 ho1 T1 X11 X21 B1 K1
  obtain ⟨t0, t1⟩ := T2.out
  go_wp2_with fail
  clear t0 t1 y0 y1 y2 y3
  generalize w1.setCell ⟨w.heap.size + 1 + 1, 0, none⟩ (.slice (some ⟨g1, 0, none⟩) S.length S.length) = W1 at *
  refine (toByteS_at la lc L W1 (HL.out W1 B2.out) nl).mono ?_
  rintro e w2 ⟨g2, rfl, hg2, hg2', ho2, hb2⟩
  have B3 := hide (below_next B2.out hb2)
  have X13 := hide (X12.out.below hb2)
  have X23 := hide (X22.out.below hb2)
  obtain ⟨⟨y0, y1⟩, y2, y3⟩ := X23.out
  obtain ⟨⟨q0, q1⟩, q2, q3⟩ := X13.out
  have O3 := hide (O2.out.below hb2)
  have O4 := hide ho2
  clear hb2 ho2
  go_wp2_with fail
  have K2 := hide (Kept.setCell (S := fun b => b = w.heap.size + 1 + 1) (p := ⟨w.heap.size + 1 + 1, 1, none⟩) (Kept.refl _ w2) (fun _ => rfl) (.slice (some ⟨g2, 0, none⟩) L.length L.length))
  have K3 := hide (Kept.two (w2.setCell ⟨w.heap.size + 1 + 1, 1, none⟩ (.slice (some ⟨g2, 0, none⟩) L.length L.length)) (w.heap.size + 1) 0 1 (.slice (some ⟨g1, 0, none⟩) S.length S.length) (.slice (some ⟨g2, 0, none⟩) L.length L.length))
  refine bodyPost_ret (v := .agg #[.slice (some ⟨g1, 0, none⟩) S.length S.length, .slice (some ⟨g2, 0, none⟩) L.length L.length]) (by simp [results, Try.results32, go_sem, q0, q1]) rfl ⟨g1, g2, rfl, by omega, by omega, by simp; omega, ⟨?_, ?_⟩, ((B3.out.setCell (p := ⟨w.heap.size + 1 + 1, 1, none⟩) (by show w.heap.size ≤ w.heap.size + 1 + 1; omega) _).setCell (p := ⟨w.heap.size + 1, 0, none⟩) (by show w.heap.size ≤ w.heap.size + 1; omega) _).setCell (p := ⟨w.heap.size + 1, 1, none⟩) (by show w.heap.size ≤ w.heap.size + 1; omega) _⟩
  · exact (O3.out.kept K2.out (fun b hb e => by simp only [blkOf, Option.map_some, Option.some.injEq] at hb; omega)).kept K3.out (fun b hb e => by simp only [blkOf, Option.map_some, Option.some.injEq] at hb; omega)
  · exact (O4.out.kept K2.out (fun b hb e => by simp only [blkOf, Option.map_some, Option.some.injEq] at hb; omega)).kept K3.out (fun b hb e => by simp only [blkOf, Option.map_some, Option.some.injEq] at hb; omega)
set_option maxHeartbeats 800000 in
theorem eqLog_same (sa sb : Option Addr) (sc sd : Nat) (S : List Int) (la lb : Option Addr) (lc ld : Nat) (L : List Int) (w : World) (h1 : Reads .u8 w sa S) (h2 : Reads .u8 w sb S) (h3 : Reads .u8 w la L) (h4 : Reads .u8 w lb L) (ns : S.length ≤ 1048576) (nl : L.length ≤ 1048576) :
    Calls Try.prog 33 #[.agg #[.slice sa S.length sc, .slice la L.length lc], .agg #[.slice sb S.length sd, .slice lb L.length ld]] w fun e w' => e = .returned (.bool true) ∧ Below w.heap.size w w' := by
  have B0 := hide (below_next (below_alloc w (.cells #[.slice sa S.length sc, .slice la L.length lc] 25)) (below_alloc _ (.cells #[.slice sb S.length sd, .slice lb L.length ld] 25)))
  have C1 := hide (fun (u : World) (hb : Below w.heap.size w u) => eqByteS_b sa sb sc sd S u (h1.below hb) (h2.below hb) ns)
  have C2 := hide (fun (u : World) (hb : Below w.heap.size w u) => eqByteS_b la lb lc ld L u (h3.below hb) (h4.below hb) nl)
  have T0 := hide ((Two.new w (.slice sa S.length sc) (.slice la L.length lc) 25).below (below_alloc _ (.cells #[.slice sb S.length sd, .slice lb L.length ld] 25)))
  have U0 := hide (Two.new (w.alloc (.cells #[.slice sa S.length sc, .slice la L.length lc] 25)) (.slice sb S.length sd) (.slice lb L.length ld) 25)
  rw [show (w.alloc (.cells #[.slice sa S.length sc, .slice la L.length lc] 25)).heap.size = w.heap.size + 1 by simp] at U0
  clear h1 h2 h3 h4
  go_enter Try.func33, Try.ntmps33
  go_wp2_with fail
  refine (C1.out _ B0.out).mono ?_
  rintro e w1 ⟨rfl, hb1⟩
  have B1 := hide (below_next B0.out hb1)
  obtain ⟨t0, t1⟩ := T0.out.below hb1
  obtain ⟨u0, u1⟩ := U0.out.below hb1
  clear hb1
  go_wp2_with fail
  refine (C2.out _ B1.out).mono ?_
  rintro e w2 ⟨rfl, hb2⟩
  have B2 := hide (below_next B1.out hb2)
  clear hb2
  go_wp2_with fail
  go_ret
  exact ⟨rfl, B2.out⟩
set_option maxHeartbeats 800000 in
theorem eqLogResult_same (q k : Int) (sa sb : Option Addr) (sc sd : Nat) (S : List Int) (la lb : Option Addr) (lc ld : Nat) (L : List Int) (w : World) (h1 : Reads .u8 w sa S) (h2 : Reads .u8 w sb S) (h3 : Reads .u8 w la L) (h4 : Reads .u8 w lb L) (ns : S.length ≤ 1048576) (nl : L.length ≤ 1048576) :
    Calls Try.prog 35 #[.agg #[.int .i64 q, .int .i64 k, .slice sa S.length sc, .slice la L.length lc], .agg #[.int .i64 q, .int .i64 k, .slice sb S.length sd, .slice lb L.length ld]] w fun e w' => e = .returned (.bool true) ∧ Below w.heap.size w w' := by
  have B0 := hide (below_next (below_alloc w (.cells #[.int .i64 q, .int .i64 k, .slice sa S.length sc, .slice la L.length lc] 29)) (below_alloc _ (.cells #[.int .i64 q, .int .i64 k, .slice sb S.length sd, .slice lb L.length ld] 29)))
  have C1 := hide (fun (u : World) (hb : Below w.heap.size w u) => eqLog_same sa sb sc sd S la lb lc ld L u (h1.below hb) (h2.below hb) (h3.below hb) (h4.below hb) ns nl)
  clear h1 h2 h3 h4
  go_enter Try.func35, Try.ntmps35
  go_wp2_with fail
  refine (C1.out _ B0.out).mono ?_
  rintro e w1 ⟨rfl, hb1⟩
  have B1 := hide (below_next B0.out hb1)
  clear hb1
  go_wp2_with fail
  go_ret
  exact ⟨rfl, B1.out⟩
set_option maxHeartbeats 800000 in
theorem markLog_any (sa la : Option Addr) (sc lc : Nat) (S L : List Int) (k : Int) (w : World) (h1 : Own .u8 w sa S) (h2 : Own .u8 w la L) (hlt : ∀ b, blkOf sa b → b < w.heap.size) (hne : ∀ b, blkOf la b → ¬ blkOf sa b) (hk0 : 0 ≤ k) (hk1 : k ≤ 1048576) (ns : S.length ≤ 1048576) (nl : L.length ≤ 1048576) :
    Calls Try.prog 36 #[.agg #[.slice sa S.length sc, .slice la L.length lc], .int .i64 k] w fun e w' => e = .returned (.int .i64 (k + S.length + L.length)) ∧ ∃ w1 w2, Below w.heap.size w w1 ∧ Own .u8 w2 sa (marks k S.length) ∧ Kept (blkOf sa) w1 w2 ∧ SameShape w1 w2 ∧ Own .u8 w' la (marks (k + S.length) L.length) ∧ Kept (blkOf la) w2 w' ∧ SameShape w2 w' := by
  have A0 := hide (below_alloc w (.cells #[.slice sa S.length sc, .slice la L.length lc] 25))
  have T0 := hide (Two.new w (.slice sa S.length sc) (.slice la L.length lc) 25)
  have H1 := hide (h1.below A0.out)
  have H2 := hide (h2.below A0.out)
  have HLT := hide hlt
  have HNE := hide hne
  clear h1 h2 hlt hne
  go_enter Try.func36, Try.ntmps36
  go_wp2_with fail
  refine (markByteS_any sa sc S k _ H1.out hk0 (by omega) (by omega)).mono ?_
  rintro e w2 ⟨rfl, o1, k1, s1⟩
  have H3 := hide (H2.out.kept k1 (fun b hb hS => HNE.out b hb hS))
  obtain ⟨t0, t1⟩ := T0.out.kept k1 (fun hS => by have := HLT.out _ hS; omega)
  have O1 := hide o1
  have K1 := hide k1
  have S1 := hide s1
  clear o1 k1 s1
  go_wp2_with fail
  refine (markByteS_any la lc L (k + S.length) _ H3.out (by omega) (by omega) (by omega)).mono ?_
  rintro e w3 ⟨rfl, o2, k2, s2⟩
  have O2 := hide o2
  have K2 := hide k2
  have S2 := hide s2
  clear o2 k2 s2
  go_wp2_with fail
  go_ret
  exact ⟨rfl, _, w2, A0.out, O1.out, K1.out, S1.out, O2.out, K2.out, S2.out⟩
theorem markLog_own (g1 g2 : Nat) (sc lc : Nat) (S L : List Int) (k : Int) (w : World) (h : OL w g1 g2 S L) (h1 : g1 < w.heap.size) (hne : g1 ≠ g2) (hk0 : 0 ≤ k) (hk1 : k ≤ 1048576) (ns : S.length ≤ 1048576) (nl : L.length ≤ 1048576) :
    Calls Try.prog 36 #[.agg #[.slice (some ⟨g1, 0, none⟩) S.length sc, .slice (some ⟨g2, 0, none⟩) L.length lc], .int .i64 k] w fun e w' => e = .returned (.int .i64 (k + S.length + L.length)) ∧ Kept (fun b => b = g1 ∨ b = g2) w w' := by
  refine (markLog_any (some ⟨g1, 0, none⟩) (some ⟨g2, 0, none⟩) sc lc S L k w h.1 h.2 (fun b hb => by simp [blkOf] at hb; omega) (fun b hb hS => by simp [blkOf] at hb hS; omega) hk0 hk1 ns nl).mono ?_
  rintro e w' ⟨rfl, w1, w2, b1, -, k1, -, -, k2, -⟩
  exact ⟨rfl, ((Kept.of_below b1).trans (k1.mono (fun b _ hb => .inl (by simpa [blkOf, eq_comm] using hb)))).trans (k2.mono (fun b _ hb => .inr (by simpa [blkOf, eq_comm] using hb)))⟩
theorem blk_in {a : Option Addr} {n c b : Nat} (h : blkOf a b) : (Value.slice a n c).ownBlock = some b := by
  cases a with
  | none => simp [blkOf] at h
  | some x => simpa [blkOf, Value.ownBlock] using h
set_option maxHeartbeats 1600000 in
theorem markLogResult_any (q k : Int) (B T : Nat) (sa la : Option Addr) (sc lc : Nat) (S L : List Int) (w : World) (h : GL B T w sa sc S.length S la lc L.length L) (ns : S.length ≤ 1048576) (nl : L.length ≤ 1048576) :
    Calls Try.prog 37 #[.agg #[.int .i64 q, .int .i64 k, .slice sa S.length sc, .slice la L.length lc], .int .i64 1] w fun e w' => e = .returned (.int .i64 ((1 : Int) + S.length + L.length)) ∧ GL B T w' sa sc S.length (marks 1 S.length) la lc L.length (marks (1 + S.length) L.length) ∧ Kept (fun b => B ≤ b ∧ b < T) w w' := by
  obtain ⟨M, hM1, hM2, g1, g2⟩ := h
  have A0 := hide (below_alloc w (.cells #[.int .i64 q, .int .i64 k, .slice sa S.length sc, .slice la L.length lc] 29))
  have G1 := hide (g1.below A0.out)
  have G2 := hide (g2.below A0.out)
  have HLT := hide (fun b (hb : blkOf sa b) => show b < (w.alloc (.cells #[.int .i64 q, .int .i64 k, .slice sa S.length sc, .slice la L.length lc] 29)).heap.size from (World.ownsRow.lt G1.out.1 b (blk_in hb)).2)
  have HNE := hide (fun b (hb : blkOf la b) (hS : blkOf sa b) => show False from by
    have h1 := g1.2 b (blk_in hS)
    have h2 := (World.ownsRow.lt g2.1 b (blk_in hb)).1
    omega)
  have HC := hide (markLog_any sa la sc lc S L 1 _ G1.out.own G2.out.own HLT.out HNE.out (by decide) (by decide) ns nl)
  have HB1 := hide (fun b (hb : blkOf sa b) => show B ≤ b ∧ b < M from ⟨(World.ownsRow.lt g1.1 b (blk_in hb)).1, g1.2 b (blk_in hb)⟩)
  have HB2 := hide (fun b (hb : blkOf la b) => show M ≤ b ∧ b < T from ⟨(World.ownsRow.lt g2.1 b (blk_in hb)).1, g2.2 b (blk_in hb)⟩)
  clear g1 g2
  go_enter Try.func37, Try.ntmps37
  go_wp2_with fail
  refine HC.out.mono ?_
  rintro e w' ⟨rfl, w1, w2, b1, o1, k1, s1, o2, k2, s2⟩
  have E : Hid (GB B M w' (.slice sa S.length sc) (marks 1 S.length) ∧ GB M T w' (.slice la L.length lc) (marks (1 + S.length) L.length) ∧ Kept (fun b => B ≤ b ∧ b < T) w w') := hide (by
    have x1 := (G1.out.below b1).mark (marks_length _ _) o1 s1
    have x2 : GB B M w' (.slice sa S.length sc) (marks 1 S.length) := x1.kept k2 (fun b h1 h2 hS => by have := HB2.out b hS; omega)
    have y1 : GB M T w2 (.slice la L.length lc) L := (G2.out.below b1).kept k1 (fun b h1 h2 hS => by have := HB1.out b hS; omega)
    have y2 := y1.mark (marks_length _ _) o2 s2
    exact ⟨x2, y2, (((Kept.of_below A0.out).trans ((Kept.of_below b1).mono (fun _ _ h => h))).trans (k1.mono (fun b _ hb => by have := HB1.out b hb; omega))).trans (k2.mono (fun b _ hb => by have := HB2.out b hb; omega))⟩)
  clear o1 k1 s1 o2 k2 s2 b1
  go_wp2_with fail
  go_ret
  exact ⟨rfl, ⟨M, hM1, hM2, E.out.1, E.out.2.1⟩, E.out.2.2⟩
set_option maxHeartbeats 800000 in
theorem heldLog_any (sa la : Option Addr) (sc lc n m : Nat) (w : World) (h1 : Reads .u8 w sa (marks 1 n)) (h2 : Reads .u8 w la (marks (1 + n) m)) (hn : n ≤ 1048576) (hm : m ≤ 1048576) :
    Calls Try.prog 63 #[.agg #[.slice sa n sc, .slice la m lc], .int .i64 1] w fun e w' => e = .returned (.int .i64 ((1 : Int) + n + m)) ∧ Below w.heap.size w w' := by
  have A0 := hide (below_alloc w (.cells #[.slice sa n sc, .slice la m lc] 25))
  have T0 := hide (Two.new w (.slice sa n sc) (.slice la m lc) 25)
  have H1 := hide (h1.below A0.out)
  have H2 := hide (h2.below A0.out)
  have hk2 : ¬ ((1 : Int) + (n : Int)) < 0 := by omega
  have hk3 : ¬ ((1 : Int) + (n : Int) + (m : Int)) < 0 := by omega
  clear h1 h2
  go_enter Try.func63, Try.ntmps63
  go_wp2_with fail
  refine (heldByteS_any sa sc n 1 _ H1.out (by decide) (by decide) (by omega)).mono ?_
  rintro e w1 ⟨rfl, rfl⟩
  obtain ⟨t0, t1⟩ := T0.out
  go_wp2_with fail
  refine (heldByteS_any la lc m (1 + n) _ H2.out (by omega) (by omega) (by omega)).mono ?_
  rintro e w2 ⟨rfl, rfl⟩
  go_wp2_with fail
  go_ret
  exact ⟨rfl, A0.out⟩
set_option maxHeartbeats 800000 in
theorem heldLogResult_any (q k : Int) (sa la : Option Addr) (sc lc n m : Nat) (w : World) (h1 : Reads .u8 w sa (marks 1 n)) (h2 : Reads .u8 w la (marks (1 + n) m)) (hn : n ≤ 1048576) (hm : m ≤ 1048576) :
    Calls Try.prog 38 #[.agg #[.int .i64 q, .int .i64 k, .slice sa n sc, .slice la m lc], .int .i64 1] w fun e w' => e = .returned (.int .i64 ((1 : Int) + n + m)) ∧ Below w.heap.size w w' := by
  have A0 := hide (below_alloc w (.cells #[.int .i64 q, .int .i64 k, .slice sa n sc, .slice la m lc] 29))
  have HC := hide (heldLog_any sa la sc lc n m _ (h1.below A0.out) (h2.below A0.out) hn hm)
  have hk3 : ¬ ((1 : Int) + (n : Int) + (m : Int)) < 0 := by omega
  clear h1 h2
  go_enter Try.func38, Try.ntmps38
  go_wp2_with fail
  refine HC.out.mono ?_
  rintro e w1 ⟨rfl, hb1⟩
  have B1 := hide (below_next A0.out hb1)
  clear hb1
  go_wp2_with fail
  go_ret
  exact ⟨rfl, B1.out⟩
theorem bytesL_of_trod {H : Type} {enc : TypeId × Value → H} {W : World} {a : Option Addr} {n c fuel : Nat} {x : DataW H × List MemPlace}
    (h : DataW.trod enc Try.prog W 0 (fun _ => true) true fuel 22 [.slice a n c] = some x) : ∃ zs : List Int, zs.length = n ∧ Reads .u8 W a zs ∧ U8 zs ∧ zs.length ≤ maxLen := by
  rcases open_ints Try.underlying22 Try.underlying5 (by kernel_rfl) h with ⟨hcs, _⟩ | ⟨x, l, c, zs, hcs, _, hl, hm, hz, _, hcell, hwz⟩
  · simp at hcs
    obtain ⟨rfl, rfl, rfl⟩ := hcs
    exact ⟨[], rfl, fun h => absurd rfl h, fun z hz => by simp at hz, Nat.zero_le _⟩
  · simp at hcs
    obtain ⟨rfl, rfl, rfl⟩ := hcs
    exact reads_of_row (by simpa using hz) hl hm hcell hwz
theorem trod_twoL {H : Type} {enc : TypeId × Value → H} {P : Program} {w : World} {base : Nat} {spare : Nat → Bool} {held : Bool} {t : TypeId} {f0 f1 : Field} {fuel : Nat} {cs : List Value} {x : DataW H × List MemPlace}
    (he : P.underlying t = some (.struct #[f0, f1])) (ce : P.cellsOf t = 2) (o0 : f0.offset = 0) (o1 : f1.offset = 1)
    (c0 : P.cellsOf f0.type = 1) (c1 : P.cellsOf f1.type = 1) (h : DataW.trod enc P w base spare held fuel t cs = some x) :
    ∃ (v0 v1 : Value) (n : Nat) (y0 y1 : DataW H × List MemPlace), cs = [v0, v1] ∧ DataW.trod enc P w base spare held n f0.type [v0] = some y0 ∧ DataW.trod enc P w base spare held n f1.type [v1] = some y1 := by
  obtain ⟨xs, k, hk, hxy, hlen, hxl, hf⟩ := DataW.trod_struct he h
  rw [ce] at hlen
  match xs, hxl, cs, hlen with
  | [y0, y1], _, [v0, v1], _ =>
    have g0 := hf 0 f0 rfl
    have g1 := hf 1 f1 rfl
    simp [o0, o1, c0, c1] at g0 g1
    exact ⟨v0, v1, k, y0, y1, rfl, g0, g1⟩
theorem log_of_trod {H : Type} {enc : TypeId × Value → H} {W : World} {fuel : Nat} {cs : List Value} {x : DataW H × List MemPlace}
    (h : DataW.trod enc Try.prog W 0 (fun _ => true) true fuel 50 cs = some x) :
    ∃ (sa : Option Addr) (sc : Nat) (S : List Int) (la : Option Addr) (lc : Nat) (L : List Int), cs = [.slice sa S.length sc, .slice la L.length lc] ∧ (Reads .u8 W sa S ∧ Reads .u8 W la L) ∧ (U8 S ∧ U8 L) ∧ S.length ≤ maxLen ∧ L.length ≤ maxLen := by
  obtain ⟨v0, v1, m, y0, y1, rfl, g0, g1⟩ := trod_twoL Try.underlying50 (by kernel_rfl) rfl rfl (by kernel_rfl) (by kernel_rfl) h
  obtain ⟨a0, n0, k0, e0⟩ : ∃ a n k, v0 = .slice a n k := by
    rcases open_ints Try.underlying22 Try.underlying5 (by kernel_rfl) g0 with ⟨hcs, _⟩ | ⟨x, l, c, zs, hcs, _⟩
    · simp at hcs; exact ⟨_, _, _, hcs⟩
    · simp at hcs; exact ⟨_, _, _, hcs⟩
  obtain ⟨a1, n1, k1, e1⟩ : ∃ a n k, v1 = .slice a n k := by
    rcases open_ints Try.underlying22 Try.underlying5 (by kernel_rfl) g1 with ⟨hcs, _⟩ | ⟨x, l, c, zs, hcs, _⟩
    · simp at hcs; exact ⟨_, _, _, hcs⟩
    · simp at hcs; exact ⟨_, _, _, hcs⟩
  subst e0 e1
  obtain ⟨S, rfl, hs, us, ms⟩ := bytesL_of_trod g0
  obtain ⟨L, rfl, hl, ul, ml⟩ := bytesL_of_trod g1
  exact ⟨a0, k0, S, a1, k1, L, rfl, ⟨hs, hl⟩, ⟨us, ul⟩, ms, ml⟩
end Go.Proofs.Ytpikgmbjgfdcfaa

