/-
  The chunks of bytes are put: contracts of the model's PutBytes.
-/
import Derived.Test.YtdebojhginiihaaPutC
import Derived.Test.YtdebojhginiihaaParts
namespace Go.Proofs.Ytdebojhginiihaa
open Go.RowKit Go.Maps
set_option linter.unusedVariables false
attribute [local go_sem ↓] Go.wp_at_zero Go.wp_at_succ

/-- How many digests of a list stand ahead of d. -/
def plc (D : Nat → Int) (d : Int) : Nat → Nat
  | 0 => 0
  | n + 1 => if plc D d n < n then plc D d n else if D n < d then n + 1 else n
theorem plc_ok (D : Nat → Int) (d : Int) : ∀ n, plc D d n ≤ n ∧ (∀ i, i < plc D d n → D i < d) ∧ (plc D d n < n → ¬ D (plc D d n) < d)
  | 0 => ⟨Nat.le_refl _, fun i hi => absurd hi (by simp [plc]), fun h => absurd h (by simp [plc])⟩
  | n + 1 => by
    obtain ⟨h1, h2, h3⟩ := plc_ok D d n
    by_cases e : plc D d n < n
    · have : plc D d (n + 1) = plc D d n := by simp only [plc, if_pos e]
      rw [this]
      exact ⟨by omega, h2, fun _ => h3 e⟩
    · have hmn : plc D d n = n := by omega
      by_cases hp : D n < d
      · have : plc D d (n + 1) = n + 1 := by simp only [plc, if_neg e, if_pos hp]
        rw [this]
        refine ⟨Nat.le_refl _, fun j hj => ?_, fun h => absurd h (by omega)⟩
        by_cases ej : j = n
        · subst ej; exact hp
        · exact h2 j (by omega)
      · have : plc D d (n + 1) = n := by simp only [plc, if_neg e, if_neg hp]
        rw [this]
        exact ⟨by omega, fun i hi => h2 i (by omega), fun _ => hp⟩

abbrev St := (Nat → Int) × (Nat → List Int) × Nat
def hasS (s : St) (d : Int) : Bool := (List.range s.2.2).any fun i => s.1 i == d
theorem hasS_true {s : St} {d : Int} (h : hasS s d = true) : ∃ i, i < s.2.2 ∧ s.1 i = d := by simpa [hasS] using h
theorem hasS_false {s : St} {d : Int} (h : hasS s d = false) : ∀ i, i < s.2.2 → s.1 i ≠ d := by simpa [hasS] using h
/-- The list with z put. -/
def putS (s : St) (z : List Int) : St := (ins s.1 (plc s.1 (digest z) s.2.2) (digest z), ins s.2.1 (plc s.1 (digest z) s.2.2) z, s.2.2 + 1)
def stepS (s : St) (z : List Int) : Option St := if hasS s (digest z) then some s else if 40 ≤ s.2.2 then none else some (putS s z)
/-- The list with the first k of Z put. -/
def runS (s : St) (Z : Nat → List Int) : Nat → Option St
  | 0 => some s
  | k + 1 => (runS s Z k).bind fun t => stepS t (Z k)
theorem runS_none {s : St} {Z : Nat → List Int} {k : Nat} (h : runS s Z k = none) : ∀ n, k ≤ n → runS s Z n = none := by
  intro n hn
  induction n with
  | zero => have : k = 0 := by omega
            subst this; exact h
  | succ n ih =>
    by_cases e : k = n + 1
    · subst e; exact h
    · simp only [runS, ih (by omega), Option.bind_none]
theorem runS_next {s t : St} {Z : Nat → List Int} {k : Nat} (h : runS s Z k = some t) : runS s Z (k + 1) = stepS t (Z k) := by simp [runS, h]

theorem Right.put {s : St} (h : Right s.1 s.2.1 s.2.2) {z : List Int} (hz : 1 ≤ z.length ∧ z.length ≤ 8) (hd : hasS s (digest z) = false) (hf : ¬ 40 ≤ s.2.2) : Right (putS s z).1 (putS s z).2.1 (putS s z).2.2 := by
  obtain ⟨D, P, n⟩ := s
  obtain ⟨h1, h2, h3⟩ := plc_ok D (digest z) n
  have hdr := digest_range z
  have hup := ins_up h h1 h2 h3 (hasS_false hd)
  simp only [putS] at *
  generalize plc D (digest z) n = m at *
  refine ⟨by omega, fun i hi => ?_, fun i hi => ?_, fun i hi => ?_, fun i hi => hup i (i + 1) (by omega) hi⟩
  all_goals
    unfold ins
    by_cases e1 : i < m
    · simp only [if_pos e1]
      first | exact h.range i (by omega) | exact h.len i (by omega) | exact h.sum i (by omega)
    · simp only [if_neg e1]
      by_cases e2 : i = m
      · first | (simp only [if_pos e2]; done) | (simp only [if_pos e2]; exact hdr) | (simp only [if_pos e2]; exact hz)
      · simp only [if_neg e2]
        first | exact h.range (i - 1) (by omega) | exact h.len (i - 1) (by omega) | exact h.sum (i - 1) (by omega)

theorem runS_right {s : St} (h : Right s.1 s.2.1 s.2.2) {Z : Nat → List Int} {N : Nat} (hz : ∀ j, j < N → 1 ≤ (Z j).length ∧ (Z j).length ≤ 8) : ∀ k, k ≤ N → ∀ t, runS s Z k = some t → Right t.1 t.2.1 t.2.2
  | 0, _, t, ht => by simp only [runS, Option.some.injEq] at ht; subst ht; exact h
  | k + 1, hk, t, ht => by
    cases hr : runS s Z k with
    | none => simp [runS, hr] at ht
    | some u =>
      have hu := runS_right h hz k (by omega) u hr
      rw [runS_next hr] at ht
      unfold stepS at ht
      cases hh : hasS u (digest (Z k)) with
      | true => rw [hh, if_pos rfl] at ht; simp only [Option.some.injEq] at ht; subst ht; exact hu
      | false =>
        rw [hh, if_neg (by simp)] at ht
        by_cases hf : 40 ≤ u.2.2
        · rw [if_pos hf] at ht; cases ht
        · rw [if_neg hf] at ht; simp only [Option.some.injEq] at ht; subst ht; exact hu.put (hz k (by omega)) hh hf

/-- What the model answers: chunks of its own, or none. -/
def PostL (o : Option St) (w : World) (e : Ending) (w' : World) : Prop :=
  (match o with
    | none => e = .returned (.tuple #[.slice none 0 0, .bool false])
    | some t => ∃ g cv, e = .returned (.tuple #[.slice (some ⟨g, 0, none⟩) t.2.2 cv, .bool true]) ∧ t.2.2 ≤ cv ∧ Right t.1 t.2.1 t.2.2 ∧ GC w.heap.size w'.heap.size w' (.slice (some ⟨g, 0, none⟩) t.2.2 cv) t.1 t.2.1 t.2.2) ∧ Below w.heap.size w w'

set_option maxRecDepth 100000 in
set_option maxHeartbeats 6400000 in
theorem l2Bytes_any (a : Option Addr) (c n : Nat) (D : Nat → Int) (P : Nat → List Int) (a2 : Option Addr) (c2 : Nat) (zs : List Int) (w : World) (h : RdC w a D P n) (hR : Right D P n) (h2 : Reads .u8 w a2 zs) (hu : U8 zs) (hcap : zs.length ≤ c2) (hl : zs.length ≤ 1048576) :
    Calls Try.prog 47 #[.slice a n c, .slice a2 zs.length c2] w (PostL (runS (D, P, n) (piece zs) (cut zs).length) w) := by
  have hn : n ≤ 1048576 := by have := hR.many; omega
  have HA := hide h
  have HRt := hide hR
  have HR := hide h2
  have HU := hide hu
  have hN : (cut zs).length ≤ 1048576 := by rw [cut_length]; omega
  have HPL : Hid (∀ j, j < (cut zs).length → 1 ≤ (piece zs j).length ∧ (piece zs j).length ≤ 8) := fun j hj => by rw [cut_length] at hj; rw [piece_length]; omega
  have HC := hide (l1Cut_any a2 c2 zs w h2 hcap hl)
  generalize hNN : (cut zs).length = N at *
  clear h hR h2 hu hNN
  generalize hrs : runS (D, P, n) (piece zs) N = RS
  have HRS := hide hrs
  clear hrs
  go_enter Try.func47, Try.ntmps47
  go_wp2_with fail
  refine HC.out.mono ?_
  rintro e w1 ⟨pv, rfl, hG1, b1⟩
  obtain ⟨pa, pc, rfl⟩ := hG1.shape
  have G1 := hide hG1
  have B1 := hide b1
  have hs1 := b1.size
  clear hG1 b1 HC
  go_wp2_with fail
  refine (l2Copy_at a c n D P w1 (HA.out.below B1.out) hn (fun i hi => HRt.out.u8len hi)).mono ?_
  rintro e w2 ⟨g2, cv2, rfl, hcv2, hG2, b2⟩
  have hs2 := b2.size
  have C2 := hide (hG2.mono hs1)
  have G2 := hide (G1.out.below b2)
  have B2 := hide (below_next B1.out b2)
  clear hG2 b2 G1 B1
  go_wp2
  go_loopw [7, 8, 9, 10] (fun v i _ _ wr => ∃ (j : Nat) (t : St) (g cv : Nat), j ≤ N ∧ i = .int .i64 j ∧ v = .slice (some ⟨g, 0, none⟩) t.2.2 cv ∧ t.2.2 ≤ cv ∧ runS (D, P, n) (piece zs) j = some t ∧ Right t.1 t.2.1 t.2.2 ∧ GC w.heap.size wr.heap.size wr (.slice (some ⟨g, 0, none⟩) t.2.2 cv) t.1 t.2.1 t.2.2 ∧ Grow2 w.heap.size wr (.slice pa N pc) (piece zs) N ∧ Below w.heap.size w wr) (fun _ i _ _ _ => N - (intOf i).toNat)
  case atStart => exact ⟨0, (D, P, n), g2, cv2, Nat.zero_le _, rfl, rfl, hcv2, rfl, HRt.out, C2.out, G2.out, B2.out⟩
  case round =>
    obtain ⟨j, ⟨D1, P1, n1⟩, g, cv, hj, rfl, rfl, hcv, hrun, hR1, hG, hP, hbel⟩ := hrel
    simp only at hcv hR1 hG
    have HW := hide hbel
    have hsz := hbel.size
    have HG := hide hG
    have HPr := hide hP
    have HR1 := hide hR1
    have hn40 := hR1.many
    have HRun := hide hrun
    have HNx := hide (runS_next hrun)
    clear C2 G2 B2 hG hR1 hrun hbel
    by_cases hlt : j < N
    · obtain ⟨gp, x, dx, rfl, hc0, hr0⟩ := hP.at hlt
      have hpl := HPL.out j hlt
      have HUz := hide (HU.out.piece j)
      have hgp : gp < wr.heap.size := World.block_lt_of_cell? wr ⟨gp, j, none⟩ hc0
      have hj0 : (0 : Int) ≤ (j : Int) := by omega
      have hj1 : (j : Int) < (N : Int) := by omega
      generalize piece zs j = z at *
      have HRz := hide hr0
      have HDg := hide (specDigestOf_any x dx z wr.drew hr0 HUz.out (by omega))
      have HRd := hide (HG.out.rd)
      have HPl1 : Hid (∀ i, i < n1 → 0 < (P1 i).length ∧ (P1 i).length ≤ 1048576) := fun i hi => HR1.out.u8len hi
      clear hr0 hP
      cases hh : hasS (D1, P1, n1) (digest z) with
      | true =>
        have HEq : Hid (runS (D, P, n) (piece zs) (j + 1) = some (D1, P1, n1)) := by rw [HNx.out]; unfold stepS; rw [if_pos hh]; exact hide rfl
        have HPt := hide (l2Put_there_at (some ⟨g, 0, none⟩) cv n1 D1 P1 (digest z) x z.length dx wr.drew HRd.out (by omega) HPl1.out (hasS_true hh))
        clear hh
        generalize digest z = dz at *
        go_wp2_with fail
        go_region_held3 (fun w' => w'.cell? ⟨gp, j, none⟩ = some (.slice x z.length dx)) (first | trivial | go_keep | (exact (hbp.cell (p := ⟨gp, j, none⟩) hgp).trans hc0))
          ((first
            | (go_at_call 16; refine HDg.out.mono ?_; rintro e w1' ⟨rfl, rfl⟩)
            | (go_at_call 46; refine HPt.out.mono ?_; rintro e w3 ⟨g3, cv3, rfl, hcv3, hG3, hbp⟩; have C3 := hide hG3; have BB3 := hide (((Below.refl wr.heap.size wr).drew).trans hbp); clear hG3)))
        clear hbp
        go_wp2
        go_roundw
        case rel => exact ⟨j + 1, (D1, P1, n1), g3, cv3, by omega, by go_num, rfl, hcv3, HEq.out, HR1.out, C3.out.mono hsz, HPr.out.below BB3.out, below_next' HW.out BB3.out⟩
        case measure => simp [intOf]; omega
      | false =>
        by_cases hf : 40 ≤ n1
        · have HEq : Hid (RS = none) := by rw [← HRS.out]; exact runS_none (k := j + 1) (by rw [HNx.out]; unfold stepS; rw [hh, if_neg (by simp), if_pos hf]) N (by omega)
          have HPt := hide (l2Put_full (some ⟨g, 0, none⟩) cv n1 D1 P1 (digest z) x z.length dx wr.drew HRd.out (by omega) (hasS_false hh) hf)
          clear hh
          generalize digest z = dz at *
          go_wp2_with fail
          go_region_held3 (fun w' => w'.cell? ⟨gp, j, none⟩ = some (.slice x z.length dx)) (first | trivial | go_keep | (exact (hbp.cell (p := ⟨gp, j, none⟩) hgp).trans hc0))
            ((first
              | (go_at_call 16; refine HDg.out.mono ?_; rintro e w1' ⟨rfl, rfl⟩)
              | (go_at_call 46; refine HPt.out.mono ?_; rintro e w3 ⟨rfl, hbp⟩; have BB3 := hide (((Below.refl wr.heap.size wr).drew).trans hbp))))
          clear hbp
          have HE := HEq.out
          subst HE
          go_wp2
          exact bodyPost_ret (v := .tuple #[.slice none 0 0, .bool false]) (by simp [results, Try.results47, go_sem]) rfl ⟨rfl, below_next' HW.out BB3.out⟩
        · have HEq : Hid (runS (D, P, n) (piece zs) (j + 1) = some (putS (D1, P1, n1) z)) := by rw [HNx.out]; unfold stepS; rw [hh, if_neg (by simp), if_neg hf]; exact hide rfl
          have HR2 := hide (Right.put (s := (D1, P1, n1)) HR1.out hpl hh hf)
          obtain ⟨p1, p2, p3⟩ := plc_ok D1 (digest z) n1
          have HPt := hide (l2Put_new g 0 cv n1 (plc D1 (digest z) n1) D1 P1 (digest z) x dx z wr.drew HRd.out hcv (by omega) HPl1.out HRz.out ⟨by omega, by omega⟩ (hasS_false hh) p1 p2 p3)
          have HPu : Hid (putS (D1, P1, n1) z = (ins D1 (plc D1 (digest z) n1) (digest z), ins P1 (plc D1 (digest z) n1) z, n1 + 1)) := hide rfl
          clear hh p1 p2 p3
          generalize hpu : putS (D1, P1, n1) z = t2 at *
          clear hpu
          obtain ⟨D2, P2, n2⟩ := t2
          simp only [Prod.mk.injEq] at HPu
          obtain ⟨hD2, hP2, hn2⟩ := HPu.out
          rw [← hD2, ← hP2, ← hn2] at HPt
          have hn2p : 0 < n2 := by omega
          clear HPu hD2 hP2 hn2
          generalize digest z = dz at *
          go_wp2_with fail
          go_region_held3 (fun w' => w'.cell? ⟨gp, j, none⟩ = some (.slice x z.length dx)) (first | trivial | go_keep | (exact (hbp.cell (p := ⟨gp, j, none⟩) hgp).trans hc0))
            ((first
              | (go_at_call 16; refine HDg.out.mono ?_; rintro e w1' ⟨rfl, rfl⟩)
              | (go_at_call 46; refine HPt.out.mono ?_; rintro e w3 ⟨av3, cv3, rfl, hG3, hbp⟩; obtain ⟨g3, h3, hcv3⟩ := hG3.addr (.inl hn2p); subst h3; have C3 := hide hG3; have BB3 := hide (((Below.refl wr.heap.size wr).drew).trans hbp); clear hG3)))
          clear hbp
          go_wp2
          go_roundw
          case rel => exact ⟨j + 1, (D2, P2, n2), g3, cv3, by omega, by go_num, rfl, hcv3, HEq.out, HR2.out, C3.out.mono hsz, HPr.out.below BB3.out, below_next' HW.out BB3.out⟩
          case measure => simp [intOf]; omega
    · have hje : j = N := by omega
      subst hje
      have HE : RS = some (D1, P1, n1) := by rw [← HRS.out]; exact HRun.out
      subst HE
      clear hP
      go_wp2
      exact bodyPost_ret (v := .tuple #[.slice (some ⟨g, 0, none⟩) n1 cv, .bool true]) (by simp [results, Try.results47, go_sem]) rfl ⟨⟨g, cv, rfl, hcv, HR1.out, HG.out⟩, HW.out⟩

end Go.Proofs.Ytdebojhginiihaa
