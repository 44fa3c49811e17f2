/-
  Texts put together: LogR PathL Strs LogS PathM LogT LogU LogV LogH.
-/
import Derived.Test.YtpikgmbjgfdcfaaKLogFau1
import Derived.Laws.BytesString
import Derived.BigQuiet
import Derived.Lib.Bytealg
import Derived.Lib.Strings
import Derived.Lib.SliceRun
import Derived.Shelf.Abstract
import Derived.Deep.RegionHeld3
import Derived.ProofKit
import Derived.ChangeOld
namespace Go.Proofs.Ytpikgmbjgfdcfaa
open Go.RowKit
set_option linter.unusedVariables false

theorem conv_reads {w : World} {a : Option Addr} {c : Nat} {zs : List Int} (h : Reads .u8 w a zs) :
    Sem.run Try.prog (convert 22 9 (.slice a zs.length c)) w = .ok (.string (strOfNums zs)) w := by
  by_cases e : zs = []
  · subst e
    rw [List.length_nil, run_convert_bytes_string w 22 9 5 _ 0 c Try.underlying22 Try.underlying5 Try.underlying9]
    cases a <;> simp [Conv.bytesToString, loadCells]
    all_goals rfl
  · obtain ⟨b, off, rfl, hb, hc⟩ := h e
    exact run_convert_bytes_arg (P := Try.prog) w 22 5 Try.underlying22 Try.underlying5 b off zs.length c zs rfl hc 9 Try.underlying9
theorem reads_part {k : IntKind} {w : World} {b off : Nat} {zs : List Int} (h : Reads k w (some ⟨b, off, none⟩) zs) (i j : Nat) (h2 : i + j ≤ zs.length) : Reads k w (some ⟨b, off + i, none⟩) ((zs.drop i).take j) := by
  intro hne
  have hz : zs ≠ [] := fun e => hne (by simp [e])
  obtain ⟨b', off', e, hb, hc⟩ := h hz
  simp only [Option.some.injEq, Addr.mk.injEq, and_true] at e
  obtain ⟨rfl, rfl⟩ := e
  refine ⟨_, _, rfl, hb, fun t ht => ?_⟩
  rw [List.length_take, List.length_drop] at ht
  have := hc (i + t) (by omega)
  rw [← Nat.add_assoc] at this
  rw [this]
  simp only [List.getD_eq_getElem?_getD, List.getElem?_take, List.getElem?_drop]
  rw [if_pos (by omega)]
theorem part_len {zs : List Int} {i j : Nat} (h : i + j ≤ zs.length) : ((zs.drop i).take j).length = j := by rw [List.length_take, List.length_drop]; omega

theorem bEqual_any (a a2 : Option Addr) (c c2 : Nat) (xs ys : List Int) (w : World) (h1 : Reads .u8 w a xs) (h2 : Reads .u8 w a2 ys) (u1 : U8 xs) (u2 : U8 ys) (n : Nat) (hn : n = xs.length) :
    Calls Try.prog 76 #[.slice a n c, .slice a2 ys.length c2] w fun e w' => e = .returned (.bool (decide (xs = ys))) ∧ w' = w := by
  subst hn
  have c1 := conv_reads (c := c) h1
  have c2' := conv_reads (c := c2) h2
  have he : ((strOfNums xs).toList == (strOfNums ys).toList) = decide (xs = ys) := by
    by_cases e : xs = ys
    · subst e; simp
    · rw [decide_eq_false e, beq_eq_false_iff_ne]
      intro h
      exact e (nums_inj u1 u2 (ByteArray.ext (Array.ext' (by rw [ByteArray.toList_eq, ByteArray.toList_eq] at h; exact h))))
  have HE := hide he
  clear he h1 h2 u1 u2
  go_enter Try.func76, Try.ntmps76
  go_wp2_with fail
  go_ret
  exact ⟨ret_bool (by first | exact HE.out | (have := HE.out; simpa using this)), rfl⟩

theorem hasPre_any (b off c : Nat) (a2 : Option Addr) (c2 : Nat) (xs ys : List Int) (w : World) (h1 : Reads .u8 w (some ⟨b, off, none⟩) xs) (h2 : Reads .u8 w a2 ys) (u1 : U8 xs) (u2 : U8 ys) (hc : xs.length ≤ c) (hl : xs.length ≤ 1048576) (hl2 : ys.length ≤ 1048576) :
    Calls Try.prog 75 #[.slice (some ⟨b, off, none⟩) xs.length c, .slice a2 ys.length c2] w fun e w' => e = .returned (.bool (decide (ys = xs.take ys.length))) ∧ w' = w := by
  by_cases hle : ys.length ≤ xs.length
  · have hrd := reads_part h1 0 ys.length (by omega)
    have hpl := part_len (zs := xs) (i := 0) (j := ys.length) (by omega)
    have HC : Hid (∀ (w0 : World) (cc : Nat), w0 = w → Calls Try.prog 76 #[.slice (some ⟨b, off, none⟩) ys.length cc, .slice a2 ys.length c2] w0 fun e w' => e = .returned (.bool (decide (ys = xs.take ys.length))) ∧ w' = w0) := hide fun w0 cc e => by
      subst e
      have := bEqual_any (some ⟨b, off + 0, none⟩) a2 cc c2 _ ys w0 hrd h2 (u8_take (u8_drop u1 0) ys.length) u2 ys.length hpl.symm
      rw [List.drop_zero, show decide (xs.take ys.length = ys) = decide (ys = xs.take ys.length) from decide_eq_decide.2 ⟨Eq.symm, Eq.symm⟩] at this
      exact this
    have hge : decide ((xs.length : Int) ≥ (ys.length : Int)) = true := decide_eq_true (by omega)
    clear hrd h1 h2 u1 u2 hpl
    generalize decide (ys = xs.take ys.length) = B at *
    go_enter Try.func75, Try.ntmps75
    go_wp2_with fail
    refine (HC.out _ _ rfl).mono ?_
    rintro e w1 ⟨rfl, rfl⟩
    go_wp2_with fail
    go_ret
    exact ⟨rfl, rfl⟩
  · have hne : decide (ys = xs.take ys.length) = false := decide_eq_false fun e => by have := congrArg List.length e; rw [List.length_take] at this; omega
    rw [hne]
    have hge : decide ((xs.length : Int) ≥ (ys.length : Int)) = false := decide_eq_false (by omega)
    clear hne h1 h2 u1 u2
    go_enter Try.func75, Try.ntmps75
    go_wp2_with fail
    go_ret
    exact ⟨rfl, rfl⟩

theorem cutPre_any (b off c : Nat) (a2 : Option Addr) (c2 : Nat) (xs ys : List Int) (w : World) (h1 : Reads .u8 w (some ⟨b, off, none⟩) xs) (h2 : Reads .u8 w a2 ys) (u1 : U8 xs) (u2 : U8 ys) (hc : xs.length ≤ c) (hl : xs.length ≤ 1048576) (hl2 : ys.length ≤ 1048576) :
    Calls Try.prog 74 #[.slice (some ⟨b, off, none⟩) xs.length c, .slice a2 ys.length c2] w fun e w' => w' = w ∧ ((ys = xs.take ys.length ∧ ∃ p, (∀ u, Reads .u8 u (some ⟨b, off, none⟩) xs → Reads .u8 u p (xs.drop ys.length)) ∧ e = .returned (.tuple #[.slice p (xs.length - ys.length) (c - ys.length), .bool true])) ∨ (ys ≠ xs.take ys.length ∧ ∃ v, e = .returned (.tuple #[v, .bool false]))) := by
  have HP := hide (hasPre_any b off c a2 c2 xs ys w h1 h2 u1 u2 hc hl hl2)
  have HRD := hide h1
  clear h1 h2 u1 u2
  by_cases hp : ys = xs.take ys.length
  · have hle : ys.length ≤ xs.length := by have := congrArg List.length hp; rw [List.length_take] at this; omega
    have HP' : Hid (Calls Try.prog 75 #[.slice (some ⟨b, off, none⟩) xs.length c, .slice a2 ys.length c2] w fun e w' => e = .returned (.bool true) ∧ w' = w) := hide (by have := HP.out; rw [decide_eq_true hp] at this; exact this)
    have HH := hide hp
    have HR : Hid (∀ u, Reads .u8 u (some ⟨b, off, none⟩) xs → Reads .u8 u (some ⟨b, off + ys.length, none⟩) (xs.drop ys.length)) := hide (fun u hu => by have := reads_part hu ys.length (xs.length - ys.length) (by omega); rwa [List.take_of_length_le (by rw [List.length_drop]; omega)] at this)
    have HR0 : Hid (c = ys.length → ∀ p u, Reads .u8 u p (xs.drop ys.length)) := hide fun e p u h => absurd (List.drop_of_length_le (by omega)) h
    clear HP hp HRD
    go_enter Try.func74, Try.ntmps74
    go_wp2_with fail
    refine HP'.out.mono ?_
    rintro e w1 ⟨rfl, rfl⟩
    by_cases hcc : c = ys.length
    · subst hcc
      go_wp2_with fail
      go_ret2
      refine ⟨rfl, Or.inl ⟨HH.out, some ⟨b, off, none⟩, fun u _ => HR0.out trivial _ u, ?_⟩⟩
      rw [Nat.sub_self, show xs.length - ys.length = 0 from by omega]; rfl
    · go_wp2_with fail
      go_ret2
      exact ⟨rfl, Or.inl ⟨HH.out, _, HR.out, rfl⟩⟩
  · have HP' : Hid (Calls Try.prog 75 #[.slice (some ⟨b, off, none⟩) xs.length c, .slice a2 ys.length c2] w fun e w' => e = .returned (.bool false) ∧ w' = w) := hide (by have := HP.out; rw [decide_eq_false hp] at this; exact this)
    have HH := hide hp
    clear HP hp
    go_enter Try.func74, Try.ntmps74
    go_wp2_with fail
    refine HP'.out.mono ?_
    rintro e w1 ⟨rfl, rfl⟩
    go_wp2_with fail
    go_ret2
    exact ⟨rfl, Or.inr ⟨HH.out, _, rfl⟩⟩
theorem dat_drop {b off : Nat} {w : World} {z : Int} {t : List Int} (h : Reads .u8 w (some ⟨b, off, none⟩) (z :: t)) : w.cell? ⟨b, off, none⟩ = some (.int .u8 z) ∧ b < w.heap.size := by
  obtain ⟨b', off', e, hb, hc⟩ := h (by simp)
  simp only [Option.some.injEq, Addr.mk.injEq, and_true] at e
  obtain ⟨rfl, rfl⟩ := e
  have := hc 0 (by simp)
  exact ⟨by simpa using this, hb⟩

theorem below_dn (w : World) (n : Nat) : Below w.heap.size w (w.drewN n) := ⟨rfl, rfl, rfl, Nat.le_refl _, fun _ _ => rfl⟩
def First (a : Option Addr) (zs : List Int) (c : Nat) (e : Ending) : Prop :=
  (one zs = none ∧ ∃ s v, e = .returned (.tuple #[s, v, .bool false])) ∨
  (∃ l, one zs = some l ∧ ∃ p, (∀ u, Reads .u8 u a zs → Reads .u8 u p (zs.drop (l.length + 5))) ∧ e = .returned (.tuple #[.string (strB l), .slice p (zs.length - (l.length + 5)) (c - (l.length + 5)), .bool true]))

set_option maxRecDepth 100000 in
theorem firstLine_any (a : Option Addr) (c : Nat) (zs : List Int) (w : World) (h : Reads .u8 w a zs) (hu : U8 zs) (hc : zs.length ≤ c) (hl : zs.length ≤ 1048576) :
    Calls Try.prog 71 #[.slice a zs.length c] w fun e w' => First a zs c e ∧ Below w.heap.size w w' := by
  by_cases hz : zs = []
  · subst hz
    clear h
    go_enter Try.func71, Try.ntmps71
    go_wp2_with fail
    go_ret3
    exact ⟨Or.inl ⟨by decide, _, _, rfl⟩, Below.refl _ _⟩
  · obtain ⟨b, off, rfl, hb, -⟩ := h hz
    obtain ⟨z, t, rfl⟩ : ∃ z t, zs = z :: t := by cases zs with | nil => exact absurd rfl hz | cons z t => exact ⟨z, t, rfl⟩
    have hcell := (dat_drop h).1
    obtain ⟨z0, z1⟩ := hu z (by simp)
    obtain ⟨k, rfl⟩ : ∃ k : Nat, z = k := ⟨z.toNat, by omega⟩
    by_cases hend : k ≤ t.length
    · have hln : lnOf ((k : Int) :: t) = bys (t.take k) := by simp [lnOf]
      have hR1 := reads_part h 1 k (by simp; omega)
      have hlt : (t.take k).length = k := by rw [List.length_take]; omega
      simp only [List.drop_succ_cons, List.drop_zero] at hR1
      have hcv := conv_reads (c := c - 1) hR1
      rw [hlt, nums_bys] at hcv
      have hlb : (bys (t.take k)).length = k := by rw [bys_len, hlt]
      have hone : one ((k : Int) :: t) = if lineF (bys (t.take k)) = 0 ∧ packZ (bys (t.take k)) = ((k : Int) :: t).take (k + 5) then some (bys (t.take k)) else none := by unfold one; rw [hln, hlb]
      generalize bys (t.take k) = l at *
      have HO := hide hone
      have HR := hide h
      have HU := hide hu
      clear hone h hu hR1 hlt hln hz
      by_cases h0 : lineF l = 0
      · have HP : Hid (∀ w : World, Calls Try.prog 17 #[.string (strB l)] w fun e w' => ∃ a c, e = .returned (.agg #[.int .i64 0, .slice a (packZ l).length c]) ∧ GB w.heap.size w'.heap.size w' (.slice a (packZ l).length c) (packZ l) ∧ Below w.heap.size w w') := hide fun w => by have := implPackLine_ok (strB l) w (by rw [strB_list]; exact h0); rw [strB_list] at this; exact this
        have hpu := packZ_u8 (l := l) (by omega)
        have hpl := packZ_len l
        rw [hlb] at hpl
        have HO' : Hid (one ((k : Int) :: t) = if packZ l = ((k : Int) :: t).take (k + 5) then some l else none) := hide (by rw [HO.out]; simp only [h0, true_and])
        have HK := hide (lineF_len h0).1
        clear HO h0
        generalize packZ l = pk at *
        have hk1 : 1 ≤ k := by rw [← hlb]; exact HK.out
        have hc1 : ¬ c = 1 := by simp at hc; omega
        have HPU := hide hpu
        have HPL := hide hpl
        have HLB := hide hlb
        have hTL : ((k : Int) :: t).length = t.length + 1 := rfl
        have HTL := hide hTL
        rw [hTL] at hl hc ⊢
        clear hpu hpl hlb hTL
        go_enter Try.func71, Try.ntmps71
        go_wp2_with fail
        refine (HP.out _).mono ?_
        rintro e w1 ⟨pa, pc, rfl, g1, b1⟩
        have n1 := b1.size
        have G1 := hide (g1.below (below_alloc w1 (.cells #[.int .i64 0, .slice pa pk.length pc] 39)))
        have B1 := hide (below_next b1 (below_alloc w1 (.cells #[.int .i64 0, .slice pa pk.length pc] 39)))
        have R1 := hide (HR.out.below B1.out)
        have U1 := hide (Two.new w1 (.int .i64 0) (.slice pa pk.length pc) 39)
        clear g1 b1 HR
        obtain ⟨Ut0, Ut1⟩ := U1.out
        go_wp2_with fail
        refine (cutPre_any b off c pa pc ((k : Int) :: t) pk _ R1.out G1.out.own.reads HU.out HPU.out hc hl (by rw [HPL.out]; omega)).mono ?_
        rintro e w2 ⟨rfl, hh⟩
        rcases hh with ⟨hpre, p, hp, rfl⟩ | ⟨hpre, v, rfl⟩
        · rw [HPL.out] at hpre
          have HW := hide (fun u (hu : Reads .u8 u (some ⟨b, off, none⟩) ((k : Int) :: t)) => (congrArg (fun m => Reads .u8 u p (((k : Int) :: t).drop m)) HPL.out).mp (hp u hu))
          have HN : Hid (one ((k : Int) :: t) = some l) := hide (by rw [HO'.out]; exact if_pos hpre)
          clear hpre hp HO' HP
          go_wp2_with fail
          go_quiet (fail)
          go_wp2_with fail
          go_ret3
          exact ⟨Or.inr ⟨l, HN.out, p, by rw [HLB.out]; exact HW.out, by rw [HLB.out, ← HPL.out]; rfl⟩, below_next B1.out (below_dn _ nq)⟩
        · rw [HPL.out] at hpre
          have HN : Hid (one ((k : Int) :: t) = none) := hide (by rw [HO'.out]; exact if_neg hpre)
          clear hpre HO' HP
          go_wp2_with fail
          go_quiet (fail)
          go_wp2_with fail
          go_ret3
          exact ⟨Or.inl ⟨HN.out, _, _, rfl⟩, below_next B1.out (below_dn _ nq)⟩
      · have hN : one ((k : Int) :: t) = none := by rw [HO.out]; exact if_neg fun e => h0 e.1
        have HN := hide hN
        have hq : lineF (strB l).data.toList ≠ 0 := by rw [strB_list]; exact h0
        have HP : Hid (∀ w : World, Calls Try.prog 17 #[.string (strB l)] w fun e w' => ∃ a c, e = .returned (.agg #[.int .i64 (lineF (strB l).data.toList), .slice a 0 c]) ∧ GB w.heap.size w'.heap.size w' (.slice a 0 c) [] ∧ Below w.heap.size w w') := hide fun w => implPackLine_bad (strB l) w (by rw [strB_size]; omega) hq
        generalize lineF (strB l).data.toList = q at *
        have hqd : (q == 0) = false := by simp [hq]
        have HLB := hide hlb
        have hTL : ((k : Int) :: t).length = t.length + 1 := rfl
        rw [hTL] at hl hc ⊢
        clear HO hN h0 hlb hTL
        have hcv1 : ∀ c' p, Sem.run Try.prog (convert 22 9 (.slice p 0 c')) w = .ok (.string (strOfNums [])) w := fun c' p => conv_reads (c := c') (a := p) (zs := []) (fun e => absurd rfl e)
        have HK0 : Hid (k = 0 → strB l = strOfNums []) := hide fun e => by have : l = [] := List.eq_nil_of_length_eq_zero (by rw [HLB.out]; exact e); rw [this]; rfl
        by_cases hc1 : c = 1
        · subst hc1
          have hk0 : k = 0 := by omega
          have ht0 : t.length = 0 := by omega
          subst hk0
          have hcv2 : ∀ p, Sem.run Try.prog (convert 22 9 (.slice p 0 0)) w = .ok (.string (strB l)) w := fun p => by rw [HK0.out rfl]; exact hcv1 0 p
          clear hcv1 HK0 hcv
          have hcv := hcv2 (some ⟨b, off, none⟩)
          clear hcv2
          rw [ht0]
          go_enter Try.func71, Try.ntmps71
          go_wp2_with fail
          refine (HP.out _).mono ?_
          rintro e w1 ⟨pa, pc, rfl, g1, b1⟩
          have n1 := b1.size
          have G1 := hide (g1.below (below_alloc w1 (.cells #[.int .i64 q, .slice pa 0 pc] 39)))
          have B1 := hide (below_next b1 (below_alloc w1 (.cells #[.int .i64 q, .slice pa 0 pc] 39)))
          have R1 := hide (HR.out.below B1.out)
          have U1 := hide (Two.new w1 (.int .i64 q) (.slice pa 0 pc) 39)
          clear g1 b1 HR
          obtain ⟨Ut0, Ut1⟩ := U1.out
          go_wp2_with fail
          have HX := hide (cutPre_any b off 1 pa pc (((0 : Nat) : Int) :: t) [] _ R1.out (fun e => absurd rfl e) HU.out (fun z hz => by simp at hz) (by simp [ht0]) (by simp [ht0]) (by simp))
          rw [show ((((0 : Nat) : Int) :: t).length) = 1 from by simp [ht0]] at HX
          refine HX.out.mono ?_
          rintro e w2 ⟨rfl, hh⟩
          rcases hh with ⟨hpre, p, hp, rfl⟩ | ⟨hpre, v, rfl⟩
          · clear hpre hp HX HP
            go_wp2_with fail
            go_quiet (fail)
            go_wp2_with fail
            go_ret3
            exact ⟨Or.inl ⟨HN.out, _, _, rfl⟩, below_next B1.out (below_dn _ nq)⟩
          · exact absurd rfl hpre
        · clear hcv1 HK0
          go_enter Try.func71, Try.ntmps71
          go_wp2_with fail
          refine (HP.out _).mono ?_
          rintro e w1 ⟨pa, pc, rfl, g1, b1⟩
          have n1 := b1.size
          have G1 := hide (g1.below (below_alloc w1 (.cells #[.int .i64 q, .slice pa 0 pc] 39)))
          have B1 := hide (below_next b1 (below_alloc w1 (.cells #[.int .i64 q, .slice pa 0 pc] 39)))
          have R1 := hide (HR.out.below B1.out)
          have U1 := hide (Two.new w1 (.int .i64 q) (.slice pa 0 pc) 39)
          clear g1 b1 HR
          obtain ⟨Ut0, Ut1⟩ := U1.out
          go_wp2_with fail
          refine (cutPre_any b off c pa pc ((k : Int) :: t) [] _ R1.out (fun e => absurd rfl e) HU.out (fun z hz => by simp at hz) hc hl (by simp)).mono ?_
          rintro e w2 ⟨rfl, hh⟩
          rcases hh with ⟨hpre, p, hp, rfl⟩ | ⟨hpre, v, rfl⟩
          · clear hpre hp HP
            go_wp2_with fail
            go_quiet (fail)
            go_wp2_with fail
            go_ret3
            exact ⟨Or.inl ⟨HN.out, _, _, rfl⟩, below_next B1.out (below_dn _ nq)⟩
          · exact absurd rfl hpre
    · have hone : one ((k : Int) :: t) = none := by
        cases hO : one ((k : Int) :: t) with
        | none => rfl
        | some l =>
          obtain ⟨-, -, h3, h4⟩ := one_some hO
          have e := congrArg (fun q : List Int => q.getD 0 0) h4
          simp only [packZ, headZ, List.cons_append, List.getD_cons_zero] at e
          simp only [List.length_cons] at h3
          omega
      have HO := hide hone
      clear hone h hu hz
      go_enter Try.func71, Try.ntmps71
      go_wp2_with fail
      go_ret3
      exact ⟨Or.inl ⟨HO.out, _, _, rfl⟩, Below.refl _ _⟩
end Go.Proofs.Ytpikgmbjgfdcfaa

namespace Go.Proofs.Ytpikgmbjgfdcfaa
set_option linter.unusedVariables false

abbrev Bs := List UInt8
def str (l : Bs) : ByteArray := ⟨l.toArray⟩
end Go.Proofs.Ytpikgmbjgfdcfaa

namespace Go.Proofs.Ytpikgmbjgfdcfaa
open Go.RowKit
set_option linter.unusedVariables false

def vS (p : Bs) : Value := .string (str p)
def OwnS (B : Nat) (w : World) (v : Value) (ps : List Bs) : Prop := w.ownsRow B 9 1 v ps.length (ps.map vS)
namespace OwnS
variable {B : Nat} {w w' : World} {v : Value} {ps : List Bs}
theorem nil (B : Nat) (w : World) : OwnS B w (.slice none 0 0) [] := World.ownsRow_nil _ _ _ _
theorem shape (h : OwnS B w v ps) : ∃ a c, v = .slice a ps.length c := ownsRow_shape h
theorem below (h : OwnS B w v ps) (hk : Below w.heap.size w w') : OwnS B w' v ps := ownsRow_below h hk
theorem mono {B' : Nat} (h : OwnS B w v ps) (hb : B' ≤ B) : OwnS B' w v ps := ownsRow_mono h hb
end OwnS

theorem OwnS.snoc {B : Nat} {w : World} {v : Value} {ps : List Bs} {p : Bs} {s : ByteArray} (h : w.ownsRow B 9 1 v (ps.length + 1) (ps.map vS ++ #[Value.string s].toList)) (hs : s = str p) : OwnS B w v (ps ++ [p]) := by
  unfold OwnS
  subst hs
  simpa [vS] using h

end Go.Proofs.Ytpikgmbjgfdcfaa

namespace Go.Proofs.Ytpikgmbjgfdcfaa
open Go.RowKit
set_option linter.unusedVariables false

structure Hears (fn : FuncId) (cap : Array Value) (ls : List Bs) (w0 : World) (P : Nat → Value → World → Prop) : Prop where
  enter : ∀ args w, (callFunc fn args).run Try.prog w = .ok (.enter fn args) w
  next : ∀ k l v w, ls[k]? = some l → P k v w → Calls Try.prog fn (#[v, .string (strB l)] ++ cap) w fun e w' => ∃ v', e = .returned v' ∧ P (k + 1) v' w'
  still : ∀ k v w w', P k v w → Below w.heap.size w w' → P k v w'
  old : ∀ k v w, P k v w → Below w0.heap.size w0 w
def lenV : Value → Nat
  | .slice _ n _ => n
  | _ => 0
def moreV (v : Value) : Value → Nat
  | .bool true => lenV v + 1
  | _ => 0
def AtL (zs : List Int) (c : Nat) (w0 : World) (k : Nat) (s v : Value) (b : Bool) : Prop :=
  (b = false ∧ k = (lines zs).length) ∨
  (b = true ∧ ∃ l rs p c', s = .string (strB l) ∧ v = .slice p rs.length c' ∧ rs.length ≤ c' ∧ rs.length ≤ zs.length ∧ U8 rs ∧ (∀ u, Below w0.heap.size w0 u → Reads .u8 u p rs) ∧ (lines zs).drop k = l :: lines rs)
theorem first_at {a : Option Addr} {w0 : World} {zs rs : List Int} {c k : Nat} {e : Ending} (h : First a rs c e) (hr : ∀ u, Below w0.heap.size w0 u → Reads .u8 u a rs) (hd : (lines zs).drop k = lines rs) (hk : k ≤ (lines zs).length) (hu : U8 rs) (hc : rs.length ≤ c) (hl : rs.length ≤ zs.length) :
    ∃ s v b, e = .returned (.tuple #[s, v, .bool b]) ∧ AtL zs c w0 k s v b ∧ (b = true → lenV v + 6 ≤ rs.length) := by
  rcases h with ⟨h1, s, v, rfl⟩ | ⟨l, h1, p, hp, rfl⟩
  · refine ⟨s, v, false, rfl, .inl ⟨rfl, ?_⟩, fun h => by cases h⟩
    rw [lines_none h1] at hd
    have := congrArg List.length hd
    rw [List.length_drop, List.length_nil] at this
    omega
  · obtain ⟨h2, -, h3, -⟩ := one_some h1
    have h4 := lineF_len h2
    refine ⟨_, _, true, rfl, .inr ⟨rfl, l, rs.drop (l.length + 5), p, c - (l.length + 5), rfl, by rw [List.length_drop], by rw [List.length_drop]; omega, by rw [List.length_drop]; omega, u8_drop hu _, fun u hb => hp u (hr u hb), by rw [hd, lines_some h1]⟩, fun _ => ?_⟩
    simp only [lenV]; omega
theorem drop_line {ls : List Bs} {k : Nat} {l : Bs} {t : List Bs} (h : ls.drop k = l :: t) : ls[k]? = some l ∧ ls.drop (k + 1) = t ∧ k < ls.length := by
  have hk : k < ls.length := by
    by_cases hk : k < ls.length
    · exact hk
    · rw [List.drop_eq_nil_of_le (by omega)] at h; cases h
  have e := List.getElem_cons_drop hk
  rw [h] at e
  injection e with e1 e2
  exact ⟨by rw [List.getElem?_eq_getElem hk, e1], e2, hk⟩
set_option maxRecDepth 100000 in
set_option maxHeartbeats 1600000 in
theorem tellN_any (a : Option Addr) (c : Nat) (zs : List Int) (v0 : Value) (fn : FuncId) (cap : Array Value) (P : Nat → Value → World → Prop) (w : World) (h : Reads .u8 w a zs) (hu : U8 zs) (hc : zs.length ≤ c) (hl : zs.length ≤ 1048576) (hf : Hears fn cap (lines zs) w P) (h0 : P 0 v0 w) :
    Calls Try.prog 68 #[.slice a zs.length c, v0, .func (.func fn) #[] cap] w fun e w' => ∃ v', e = .returned v' ∧ P (lines zs).length v' w' := by
  have eg := hf.enter
  have HF := hide hf
  have HP0 := hide h0
  have HU := hide hu
  have HR := hide (fun u (hb : Below w.heap.size w u) => h.below hb)
  clear h hu hf h0
  go_enter Try.func68, Try.ntmps68
  go_wp2_with fail
  refine (firstLine_any a c zs w (HR.out _ (Below.refl _ _)) HU.out hc hl).mono ?_
  rintro e w1 ⟨hfi, hb1⟩
  obtain ⟨s, v, b, rfl, hat, hm⟩ := first_at hfi HR.out (k := 0) (zs := zs) rfl (Nat.zero_le _) HU.out hc (Nat.le_refl _)
  have HAT := hide hat
  have HP1 := hide (HF.out.still _ _ _ _ HP0.out hb1)
  clear hfi hat hm hb1 HP0
  go_wp2_with fail
  go_loopw [1, 7, 8, 9] (fun m s v b wr => ∃ (k : Nat) (q : Bool), b = .bool q ∧ Hid (AtL zs c w k s v q) ∧ Hid (P k m wr)) (fun _ _ v b _ => moreV v b)
  case atStart => exact ⟨0, _, rfl, HAT, HP1⟩
  case round =>
    obtain ⟨k, q, rfl, HA, HPk⟩ := hrel
    rcases HA.out with ⟨rfl, rfl⟩ | ⟨rfl, l, rs, p, c', rfl, rfl, h1, h2, hu2, hr2, hd⟩
    · go_wp2_with fail
      go_ret
      exact ⟨_, rfl, HPk.out⟩
    · obtain ⟨e1, e2, e3⟩ := drop_line hd
      have HE2 := hide e2
      have HU2 := hide hu2
      have HR2 := hide hr2
      have HN := hide (HF.out.next k l _ _ e1 HPk.out)
      clear hd e1 e2 hu2 hr2 HA
      go_wp2_with fail
      refine HN.out.mono ?_
      rintro e w2 ⟨v2, rfl, hp2⟩
      have HP2 := hide hp2
      clear hp2
      go_wp2_with fail
      refine (firstLine_any p c' rs w2 (HR2.out _ (HF.out.old _ _ _ HP2.out)) HU2.out h1 (by omega)).mono ?_
      rintro e w3 ⟨hfi, hb3⟩
      obtain ⟨s, v, b, rfl, hat, hm⟩ := first_at hfi HR2.out (k := k + 1) (zs := zs) HE2.out e3 HU2.out h1 h2
      have HAT := hide hat
      have HM := hide hm
      have HP3 := hide (HF.out.still _ _ _ _ HP2.out hb3)
      clear hfi hat hm hb3 HP2
      go_wp2_with fail
      go_roundw
      case rel => exact ⟨k + 1, _, rfl, HAT, HP3⟩
      case measure =>
        have := HM.out
        cases b
        · simp [moreV]
        · have := this rfl
          show lenV v + 1 < rs.length + 1
          omega
end Go.Proofs.Ytpikgmbjgfdcfaa

namespace Go.Proofs.Ytpikgmbjgfdcfaa
open Go.RowKit
set_option linter.unusedVariables false

theorem infoS : (Try.prog.info? 9).map (fun i => (i.zero, i.size, i.bytes)) = some (some (.string ⟨#[]⟩), 1, 16) := by kernel_rfl

end Go.Proofs.Ytpikgmbjgfdcfaa

namespace Go.Proofs.Ytpikgmbjgfdcfaa
open Go.RowKit
set_option linter.unusedVariables false

theorem hearN (zs : List Int) (w : World) (hl : zs.length ≤ 1048576) : Hears 69 #[] (lines zs) w (fun k v wr => v = .int .i64 (endL ((lines zs).take k)) ∧ Below w.heap.size w wr) where
  enter := enters_of Try.func69 (by kernel_rfl) rfl
  next := by
    intro k l v wr hk ⟨h1, h3⟩
    subst h1
    have HB := hide h3
    have he := end_le zs
    have HT : Hid (endL ((lines zs).take (k + 1)) = endL ((lines zs).take k) + (l.length + 5)) := hide (by rw [List.take_add_one, hk, endL_app]; simp [endL])
    have hle : endL ((lines zs).take k) + (l.length + 5) ≤ endL (lines zs) := by
      rw [← HT.out]
      conv => rhs; rw [← List.take_append_drop (k + 1) (lines zs), endL_app]
      omega
    have hsl : (strB l).size = l.length := strB_size l
    generalize endL ((lines zs).take k) = q at *
    clear h3 hk
    go_enter Try.func69, Try.ntmps69
    go_wp2_with fail
    go_ret
    exact ⟨_, rfl, by rw [HT.out]; go_num, HB.out⟩
  still := fun k v u u' ⟨h1, h3⟩ hb => ⟨h1, below_next h3 hb⟩
  old := fun k v u h => h.2
end Go.Proofs.Ytpikgmbjgfdcfaa

namespace Go.Proofs.Ytpikgmbjgfdcfaa
open Go.RowKit
set_option linter.unusedVariables false

def wholeZ (zs : List Int) : Bool := decide (endL (lines zs) = zs.length)
def logF (S L : List Int) : Int := if S.length + L.length ≤ 2000 then (if wholeZ S && wholeZ L then 0 else 5) else 2
def ResN' (q : Int) (ps : List Bs) (w : World) (r : Ending) (w' : World) : Prop :=
  ∃ a c, r = .returned (.agg #[.int .i64 q, .slice a ps.length c]) ∧ OwnS w.heap.size w' (.slice a ps.length c) ps ∧ Below w.heap.size w w'
def readQ (zs : List Int) : Int := if zs.length ≤ 2000 then 0 else 2
def readL (zs : List Int) : List Bs := if zs.length ≤ 2000 then lines zs else []

set_option maxRecDepth 100000 in
set_option maxHeartbeats 1600000 in
theorem wholeLines_any (a : Option Addr) (c : Nat) (zs : List Int) (w : World) (h : Reads .u8 w a zs) (hu : U8 zs) (hc : zs.length ≤ c) (hl : zs.length ≤ 1048576) :
    Calls Try.prog 46 #[.slice a zs.length c] w fun e w' => ∃ a' c', e = .returned (.slice a' (endL (lines zs)) c') ∧ (∀ u, Reads .u8 u a zs → Reads .u8 u a' (zs.take (endL (lines zs)))) ∧ Below w.heap.size w w' := by
  have hle := end_le zs
  have HC := hide (tellN_any a c zs (.int .i64 0) 69 #[] _ w h hu hc hl (hearN zs w hl) ⟨rfl, Below.refl _ _⟩)
  rw [List.take_length] at HC
  by_cases hz : zs = []
  · subst hz
    have HE := hide (fun (u : World) (a' : Option Addr) => show Reads .u8 u a' [] from fun h => absurd rfl h)
    clear hu h hle
    have HC' : Hid (Calls Try.prog 68 #[.slice a 0 c, .int .i64 0, .func (.func 69) #[] #[]] w fun e w' => ∃ v', e = .returned v' ∧ v' = .int .i64 0 ∧ Below w.heap.size w w') := hide HC.out
    clear HC
    show Calls Try.prog 46 #[.slice a 0 c] w fun e w' => ∃ a' c', e = .returned (.slice a' 0 c') ∧ (∀ u, Reads .u8 u a [] → Reads .u8 u a' []) ∧ Below w.heap.size w w'
    cases a with
    | none =>
      go_enter Try.func46, Try.ntmps46
      go_wp2_with fail
      refine HC'.out.mono ?_
      rintro e w1 ⟨v1, rfl, rfl, hb1⟩
      have HB := hide hb1
      clear hb1
      go_wp2_with fail
      go_ret
      exact ⟨_, _, rfl, fun u _ => HE.out u _, HB.out⟩
    | some ad =>
      go_enter Try.func46, Try.ntmps46
      go_wp2_with fail
      refine HC'.out.mono ?_
      rintro e w1 ⟨v1, rfl, rfl, hb1⟩
      have HB := hide hb1
      clear hb1
      go_wp2_with fail
      go_ret
      exact ⟨_, _, rfl, fun u _ => HE.out u _, HB.out⟩
  · obtain ⟨b, off, rfl, -, -⟩ := h hz
    have HE := hide (fun (u : World) (hr : Reads .u8 u (some ⟨b, off, none⟩) zs) => reads_part hr 0 (endL (lines zs)) (by omega))
    have hx : endL (lines zs) ≤ c := by omega
    generalize endL (lines zs) = E at *
    clear h hu
    go_enter Try.func46, Try.ntmps46
    go_wp2_with fail
    refine HC.out.mono ?_
    rintro e w1 ⟨v1, rfl, rfl, hb1⟩
    have HB := hide hb1
    clear hb1
    go_wp2_with fail
    go_ret
    exact ⟨_, _, rfl, fun u hr => HE.out u hr, HB.out⟩
set_option maxHeartbeats 800000 in
theorem isAllLines_any (a : Option Addr) (c : Nat) (zs : List Int) (w : World) (h : Reads .u8 w a zs) (hu : U8 zs) (hc : zs.length ≤ c) (hl : zs.length ≤ 1048576) :
    Calls Try.prog 54 #[.slice a zs.length c] w fun e w' => e = .returned (.bool (wholeZ zs)) ∧ Below w.heap.size w w' := by
  have HC := hide (wholeLines_any a c zs w h hu hc hl)
  have hle := end_le zs
  have hd : wholeZ zs = ((endL (lines zs) : Int) == (zs.length : Int)) := by
    unfold wholeZ
    rw [Bool.eq_iff_iff]; simp; omega
  rw [hd]
  generalize endL (lines zs) = E at *
  clear h hu hd
  go_enter Try.func54, Try.ntmps54
  go_wp2_with fail
  refine HC.out.mono ?_
  rintro e w1 ⟨a', c', rfl, -, hb1⟩
  have HB := hide hb1
  clear hb1
  go_wp2_with fail
  go_ret
  exact ⟨rfl, HB.out⟩
set_option maxHeartbeats 800000 in
theorem isTooLong_any (sa la : Option Addr) (sc lc n m : Nat) (w : World) (hn : n ≤ 1048576) (hm : m ≤ 1048576) :
    Calls Try.prog 53 #[.agg #[.slice sa n sc, .slice la m lc]] w fun e w' => e = .returned (.bool (decide (2000 < n + m))) ∧ Below w.heap.size w w' := by
  have hd : decide (2000 < n + m) = decide (2000 - (n : Int) < (m : Int)) := by apply decide_eq_decide.2; omega
  rw [hd]
  go_enter Try.func53, Try.ntmps53
  go_wp2_with fail
  go_ret
  exact ⟨rfl, below_alloc _ _⟩
end Go.Proofs.Ytpikgmbjgfdcfaa

namespace Go.Proofs.Ytpikgmbjgfdcfaa
open Go.RowKit
set_option linter.unusedVariables false

structure RdL' (w : World) (sa : Option Addr) (sc : Nat) (S : List Int) (la : Option Addr) (lc : Nat) (L : List Int) : Prop where
  sure : Reads .u8 w sa S
  loose : Reads .u8 w la L
  su8 : U8 S
  lu8 : U8 L
  scap : S.length ≤ sc
  lcap : L.length ≤ lc
  slen : S.length ≤ 1048576
  llen : L.length ≤ 1048576
theorem RdL'.below {w w' : World} {sa la : Option Addr} {sc lc : Nat} {S L : List Int} (h : RdL' w sa sc S la lc L) (hb : Below w.heap.size w w') : RdL' w' sa sc S la lc L :=
  ⟨h.sure.below hb, h.loose.below hb, h.su8, h.lu8, h.scap, h.lcap, h.slen, h.llen⟩
theorem logF_many {S L : List Int} (h : 2000 < S.length + L.length) : logF S L = 2 := if_neg (by omega)
theorem logF_text {S L : List Int} (h : ¬ 2000 < S.length + L.length) (hw : (wholeZ S && wholeZ L) = false) : logF S L = 5 := by unfold logF; rw [if_pos (by omega), hw]; rfl
set_option maxRecDepth 100000 in
set_option maxHeartbeats 1600000 in
theorem implLogFault_any (sa la : Option Addr) (sc lc : Nat) (S L : List Int) (w : World) (h : RdL' w sa sc S la lc L) :
    Calls Try.prog 16 #[.agg #[.slice sa S.length sc, .slice la L.length lc]] w fun e w' => e = .returned (.int .i64 (logF S L)) ∧ Below w.heap.size w w' := by
  have A0 := hide (below_alloc w (.cells #[.slice sa S.length sc, .slice la L.length lc] 25))
  have T0 := hide (Two.new w (.slice sa S.length sc) (.slice la L.length lc) 25)
  have HC := hide (fun u => isTooLong_any sa la sc lc S.length L.length u h.slen h.llen)
  have C1 := hide (fun (u : World) (hb : Below w.heap.size w u) => isAllLines_any sa sc S u (h.sure.below hb) h.su8 h.scap h.slen)
  have C2 := hide (fun (u : World) (hb : Below w.heap.size w u) => isAllLines_any la lc L u (h.loose.below hb) h.lu8 h.lcap h.llen)
  by_cases hb : 2000 < S.length + L.length
  · rw [logF_many hb]
    rw [decide_eq_true hb] at HC
    clear h C1 C2 hb
    go_enter Try.func16, Try.ntmps16
    go_wp2_with fail
    refine (HC.out _).mono ?_
    rintro e w1 ⟨rfl, hb1⟩
    have HB := hide (below_next A0.out hb1)
    clear hb1
    go_wp2_with fail
    go_ret
    exact ⟨rfl, HB.out⟩
  · rw [decide_eq_false hb] at HC
    have HF : Hid (logF S L = if (wholeZ S && wholeZ L) = true then 0 else 5) := hide (if_pos (by omega))
    generalize logF S L = F at *
    generalize wholeZ S = x at *
    generalize wholeZ L = y at *
    clear h hb
    cases x
    · have HF' := hide (show F = 5 from HF.out)
      clear HF C2
      go_enter Try.func16, Try.ntmps16
      go_wp2_with fail
      refine (HC.out _).mono ?_
      rintro e w1 ⟨rfl, hb1⟩
      have HB := hide (below_next A0.out hb1)
      obtain ⟨t0, t1⟩ := T0.out.below hb1
      clear hb1
      go_wp2_with fail
      refine (C1.out _ HB.out).mono ?_
      rintro e w2 ⟨rfl, hb2⟩
      have HB2 := hide (below_next HB.out hb2)
      clear hb2
      go_wp2_with fail
      go_ret
      exact ⟨ret_int HF'.out.symm, HB2.out⟩
    · have HF' := hide (show F = if y = true then 0 else 5 from by rw [HF.out, Bool.true_and])
      clear HF
      cases y
      · have HF2 := hide (show F = 5 from HF'.out)
        clear HF'
        go_enter Try.func16, Try.ntmps16
        go_wp2_with fail
        refine (HC.out _).mono ?_
        rintro e w1 ⟨rfl, hb1⟩
        have HB := hide (below_next A0.out hb1)
        have T1 := hide (T0.out.below hb1)
        obtain ⟨t0, t1⟩ := T1.out
        clear hb1
        go_wp2_with fail
        refine (C1.out _ HB.out).mono ?_
        rintro e w2 ⟨rfl, hb2⟩
        have HB2 := hide (below_next HB.out hb2)
        obtain ⟨s0, s1⟩ := T1.out.below hb2
        clear hb2 t0 t1
        go_wp2_with fail
        refine (C2.out _ HB2.out).mono ?_
        rintro e w3 ⟨rfl, hb3⟩
        have HB3 := hide (below_next HB2.out hb3)
        clear hb3
        go_wp2_with fail
        go_ret
        exact ⟨ret_int HF2.out.symm, HB3.out⟩
      · have HF2 := hide (show F = 0 from HF'.out)
        clear HF'
        go_enter Try.func16, Try.ntmps16
        go_wp2_with fail
        refine (HC.out _).mono ?_
        rintro e w1 ⟨rfl, hb1⟩
        have HB := hide (below_next A0.out hb1)
        have T1 := hide (T0.out.below hb1)
        obtain ⟨t0, t1⟩ := T1.out
        clear hb1
        go_wp2_with fail
        refine (C1.out _ HB.out).mono ?_
        rintro e w2 ⟨rfl, hb2⟩
        have HB2 := hide (below_next HB.out hb2)
        obtain ⟨s0, s1⟩ := T1.out.below hb2
        clear hb2 t0 t1
        go_wp2_with fail
        refine (C2.out _ HB2.out).mono ?_
        rintro e w3 ⟨rfl, hb3⟩
        have HB3 := hide (below_next HB2.out hb3)
        clear hb3
        go_wp2_with fail
        go_ret
        exact ⟨ret_int HF2.out.symm, HB3.out⟩
end Go.Proofs.Ytpikgmbjgfdcfaa

namespace Go.Proofs.Ytpikgmbjgfdcfaa
open Go.ChangeShapes Go.WideShapes Go.ChangeAt Go.RowKit
set_option linter.unusedVariables false

def OL (w : World) (g1 g2 : Nat) (S L : List Int) : Prop := Own .u8 w (some ⟨g1, 0, none⟩) S ∧ Own .u8 w (some ⟨g2, 0, none⟩) L
theorem OL.below {w w' : World} {g1 g2 : Nat} {S L : List Int} (h : OL w g1 g2 S L) (hk : Below w.heap.size w w') : OL w' g1 g2 S L :=
  ⟨h.1.below hk, h.2.below hk⟩
theorem OL.rd {w : World} {g1 g2 : Nat} {S L : List Int} (h : OL w g1 g2 S L) (us : U8 S) (ul : U8 L) (ns : S.length ≤ 1048576) (nl : L.length ≤ 1048576) : RdL' w (some ⟨g1, 0, none⟩) S.length S (some ⟨g2, 0, none⟩) L.length L :=
  ⟨h.1.reads, h.2.reads, us, ul, Nat.le_refl _, Nat.le_refl _, ns, nl⟩

theorem szB_fits (a : Option Addr) (n c : Nat) (left : Int) (w : World) (h0 : left ≤ 1048576) (hn : (n : Int) ≤ left) :
    Calls Try.prog 62 #[.slice a n c, .int .i64 left] w fun e w' => e = .returned (.int .i64 (left - n)) ∧ w' = w := by
  have h1 : ¬ (left - n) < 0 := by omega
  go_enter Try.func62, Try.ntmps62
  go_wp2
  go_ret
  exact ⟨rfl, rfl⟩
theorem szB_not (a : Option Addr) (n c : Nat) (left : Int) (w : World) (h0 : 0 ≤ left) (hl : left ≤ 1048576) (hm : (n : Int) ≤ 9223372036854775807) (hn : left < (n : Int)) :
    Calls Try.prog 62 #[.slice a n c, .int .i64 left] w fun e w' => e = .returned (.int .i64 (-1)) ∧ w' = w := by
  have h1 : (left - n) < 0 := by omega
  go_enter Try.func62, Try.ntmps62
  go_wp2
  go_ret
  exact ⟨rfl, rfl⟩
theorem szLog_fits (sa : Option Addr) (n sc : Nat) (la : Option Addr) (m lc : Nat) (w : World) (h : (n : Int) + m ≤ 1048576) :
    Calls Try.prog 30 #[.agg #[.slice sa n sc, .slice la m lc], .int .i64 1048576] w fun e w' => e = .returned (.int .i64 (1048576 - n - m)) ∧ Below w.heap.size w w' := by
  have h1 : ¬ ((1048576 : Int) - n) < 0 := by omega
  have h2 : ¬ ((1048576 : Int) - n - m) < 0 := by omega
  go_enter Try.func30, Try.ntmps30
  go_wp2_with fail
  refine (szB_fits sa n sc 1048576 _ (by decide) (by omega)).mono ?_
  rintro e w1 ⟨rfl, rfl⟩
  go_wp2_with fail
  refine (szB_fits la m lc (1048576 - n) _ (by omega) (by omega)).mono ?_
  rintro e w2 ⟨rfl, rfl⟩
  go_wp2_with fail
  go_ret
  exact ⟨rfl, below_alloc _ _⟩
theorem szLog_not (sa : Option Addr) (n sc : Nat) (la : Option Addr) (m lc : Nat) (w : World) (hn : (n : Int) ≤ 9223372036854775807) (hm : (m : Int) ≤ 9223372036854775807) (h : ¬ (n : Int) + m ≤ 1048576) :
    Calls Try.prog 30 #[.agg #[.slice sa n sc, .slice la m lc], .int .i64 1048576] w fun e w' => e = .returned (.int .i64 (-1)) ∧ Below w.heap.size w w' := by
  by_cases h0 : (n : Int) ≤ 1048576
  · have h1 : ¬ ((1048576 : Int) - n) < 0 := by omega
    go_enter Try.func30, Try.ntmps30
    go_wp2_with fail
    refine (szB_fits sa n sc 1048576 _ (by decide) (by omega)).mono ?_
    rintro e w1 ⟨rfl, rfl⟩
    go_wp2_with fail
    refine (szB_not la m lc (1048576 - n) _ (by omega) (by omega) hm (by omega)).mono ?_
    rintro e w2 ⟨rfl, rfl⟩
    go_wp2_with fail
    go_ret
    exact ⟨rfl, below_alloc _ _⟩
  · go_enter Try.func30, Try.ntmps30
    go_wp2_with fail
    refine (szB_not sa n sc 1048576 _ (by decide) (by decide) hn (by omega)).mono ?_
    rintro e w1 ⟨rfl, rfl⟩
    go_wp2_with fail
    go_ret
    exact ⟨rfl, below_alloc _ _⟩
set_option maxRecDepth 100000 in
set_option maxHeartbeats 800000 in
theorem toLog_any (sa : Option Addr) (sc : Nat) (S : List Int) (la : Option Addr) (lc : Nat) (L : List Int) (w : World) (hs : Reads .u8 w sa S) (hl : Reads .u8 w la L) (ns : S.length ≤ 1048576) (nl : L.length ≤ 1048576) :
    Calls Try.prog 32 #[.agg #[.slice sa S.length sc, .slice la L.length lc]] w fun e w' => ∃ g1 g2, e = .returned (.agg #[.slice (some ⟨g1, 0, none⟩) S.length S.length, .slice (some ⟨g2, 0, none⟩) L.length L.length]) ∧ w.heap.size ≤ g1 ∧ g1 < g2 ∧ g2 < w'.heap.size ∧ OL w' g1 g2 S L ∧ Below w.heap.size w w' := by
  have HS := hide (fun (u : World) (hb : Below w.heap.size w u) => hs.below hb)
  have HL := hide (fun (u : World) (hb : Below w.heap.size w u) => hl.below hb)
  clear hs hl
  have A0 := hide (below_alloc w (.cells #[.slice sa S.length sc, .slice la L.length lc] 50))
  have A1 := hide (below_alloc (w.alloc (.cells #[.slice sa S.length sc, .slice la L.length lc] 50)) (.cells #[.slice none 0 0, .slice none 0 0] 25))
  have A2 := hide (below_alloc ((w.alloc (.cells #[.slice sa S.length sc, .slice la L.length lc] 50)).alloc (.cells #[.slice none 0 0, .slice none 0 0] 25)) (.cells #[.slice none 0 0, .slice none 0 0] 25))
  have B0 := hide (below_next (below_next A0.out A1.out) A2.out)
  have T0 := hide (((Two.new w (.slice sa S.length sc) (.slice la L.length lc) 50).below A1.out).below A2.out)
  have X1 := hide ((Box.new (w.alloc (.cells #[.slice sa S.length sc, .slice la L.length lc] 50)) (.slice none 0 0) (.slice none 0 0) 25).below A2.out)
  have X2 := hide (Box.new ((w.alloc (.cells #[.slice sa S.length sc, .slice la L.length lc] 50)).alloc (.cells #[.slice none 0 0, .slice none 0 0] 25)) (.slice none 0 0) (.slice none 0 0) 25)
  rw [show (w.alloc (.cells #[.slice sa S.length sc, .slice la L.length lc] 50)).heap.size = w.heap.size + 1 by simp] at X1
  rw [show ((w.alloc (.cells #[.slice sa S.length sc, .slice la L.length lc] 50)).alloc (.cells #[.slice none 0 0, .slice none 0 0] 25)).heap.size = w.heap.size + 1 + 1 by simp] at X2
  have HZ0 := hide (show (((w.alloc (.cells #[.slice sa S.length sc, .slice la L.length lc] 50)).alloc (.cells #[.slice none 0 0, .slice none 0 0] 25)).alloc (.cells #[.slice none 0 0, .slice none 0 0] 25)).heap.size = w.heap.size + 3 by simp)
  go_enter Try.func32, Try.ntmps32
  go_wp2_with fail
  clear A0 A1 A2
  generalize ((w.alloc (.cells #[.slice sa S.length sc, .slice la L.length lc] 50)).alloc (.cells #[.slice none 0 0, .slice none 0 0] 25)).alloc (.cells #[.slice none 0 0, .slice none 0 0] 25) = W0 at *
  have hz0 : w.heap.size + 3 ≤ W0.heap.size := by have := HZ0.out; omega
  refine (toByteS_at sa sc S W0 (HS.out W0 B0.out) ns).mono ?_
  rintro e w1 ⟨g1, rfl, hg1, hg1', ho1, hb1⟩
  have B1 := hide (below_next B0.out hb1)
  have T1 := hide (T0.out.below hb1)
  have X11 := hide (X1.out.below hb1)
  have X21 := hide (X2.out.below hb1)
  obtain ⟨⟨y0, y1⟩, y2, y3⟩ := X21.out
  have K1 := hide (Kept.setCell (S := fun b => b = w.heap.size + 1 + 1) (p := ⟨w.heap.size + 1 + 1, 0, none⟩) (Kept.refl _ w1) (fun _ => rfl) (.slice (some ⟨g1, 0, none⟩) S.length S.length))
  have T2 := hide (T1.out.kept K1.out (by omega))
  have X12 := hide (X11.out.kept K1.out (by omega))
  have X22 : Hid (Box (w1.setCell ⟨w.heap.size + 1 + 1, 0, none⟩ (.slice (some ⟨g1, 0, none⟩) S.length S.length)) (w.heap.size + 1 + 1) (.slice (some ⟨g1, 0, none⟩) S.length S.length) (.slice none 0 0)) := hide ⟨⟨cell_set_same y0, (cell_set_other (by simp)).trans y1⟩, by simpa using y2, by simpa using y3⟩
  have O2 := hide (ho1.kept K1.out (fun b hb e => by simp only [blkOf, Option.map_some, Option.some.injEq] at hb; omega))
  have B2 := hide (B1.out.trans (K1.out.below (B := w.heap.size) B1.out.size (fun k hk e => by omega)))
  have hz1 : g1 < (w1.setCell ⟨w.heap.size + 1 + 1, 0, none⟩ (.slice (some ⟨g1, 0, none⟩) S.length S.length)).heap.size := by simp; omega
  clear hb1 ho1 T1 X11 X21 B1 K1
  obtain ⟨t0, t1⟩ := T2.out
  go_wp2_with fail
  clear t0 t1 y0 y1 y2 y3
  generalize w1.setCell ⟨w.heap.size + 1 + 1, 0, none⟩ (.slice (some ⟨g1, 0, none⟩) S.length S.length) = W1 at *
  refine (toByteS_at la lc L W1 (HL.out W1 B2.out) nl).mono ?_
  rintro e w2 ⟨g2, rfl, hg2, hg2', ho2, hb2⟩
  have B3 := hide (below_next B2.out hb2)
  have X13 := hide (X12.out.below hb2)
  have X23 := hide (X22.out.below hb2)
  obtain ⟨⟨y0, y1⟩, y2, y3⟩ := X23.out
  obtain ⟨⟨q0, q1⟩, q2, q3⟩ := X13.out
  have O3 := hide (O2.out.below hb2)
  have O4 := hide ho2
  clear hb2 ho2
  go_wp2_with fail
  have K2 := hide (Kept.setCell (S := fun b => b = w.heap.size + 1 + 1) (p := ⟨w.heap.size + 1 + 1, 1, none⟩) (Kept.refl _ w2) (fun _ => rfl) (.slice (some ⟨g2, 0, none⟩) L.length L.length))
  have K3 := hide (Kept.two (w2.setCell ⟨w.heap.size + 1 + 1, 1, none⟩ (.slice (some ⟨g2, 0, none⟩) L.length L.length)) (w.heap.size + 1) 0 1 (.slice (some ⟨g1, 0, none⟩) S.length S.length) (.slice (some ⟨g2, 0, none⟩) L.length L.length))
  refine bodyPost_ret (v := .agg #[.slice (some ⟨g1, 0, none⟩) S.length S.length, .slice (some ⟨g2, 0, none⟩) L.length L.length]) (by simp [results, Try.results32, go_sem, q0, q1]) rfl ⟨g1, g2, rfl, by omega, by omega, by simp; omega, ⟨?_, ?_⟩, ((B3.out.setCell (p := ⟨w.heap.size + 1 + 1, 1, none⟩) (by show w.heap.size ≤ w.heap.size + 1 + 1; omega) _).setCell (p := ⟨w.heap.size + 1, 0, none⟩) (by show w.heap.size ≤ w.heap.size + 1; omega) _).setCell (p := ⟨w.heap.size + 1, 1, none⟩) (by show w.heap.size ≤ w.heap.size + 1; omega) _⟩
  · exact (O3.out.kept K2.out (fun b hb e => by simp only [blkOf, Option.map_some, Option.some.injEq] at hb; omega)).kept K3.out (fun b hb e => by simp only [blkOf, Option.map_some, Option.some.injEq] at hb; omega)
  · exact (O4.out.kept K2.out (fun b hb e => by simp only [blkOf, Option.map_some, Option.some.injEq] at hb; omega)).kept K3.out (fun b hb e => by simp only [blkOf, Option.map_some, Option.some.injEq] at hb; omega)
set_option maxHeartbeats 800000 in
theorem eqLog_same (sa sb : Option Addr) (sc sd : Nat) (S : List Int) (la lb : Option Addr) (lc ld : Nat) (L : List Int) (w : World) (h1 : Reads .u8 w sa S) (h2 : Reads .u8 w sb S) (h3 : Reads .u8 w la L) (h4 : Reads .u8 w lb L) (ns : S.length ≤ 1048576) (nl : L.length ≤ 1048576) :
    Calls Try.prog 33 #[.agg #[.slice sa S.length sc, .slice la L.length lc], .agg #[.slice sb S.length sd, .slice lb L.length ld]] w fun e w' => e = .returned (.bool true) ∧ Below w.heap.size w w' := by
  have B0 := hide (below_next (below_alloc w (.cells #[.slice sa S.length sc, .slice la L.length lc] 25)) (below_alloc _ (.cells #[.slice sb S.length sd, .slice lb L.length ld] 25)))
  have C1 := hide (fun (u : World) (hb : Below w.heap.size w u) => eqByteS_b sa sb sc sd S u (h1.below hb) (h2.below hb) ns)
  have C2 := hide (fun (u : World) (hb : Below w.heap.size w u) => eqByteS_b la lb lc ld L u (h3.below hb) (h4.below hb) nl)
  have T0 := hide ((Two.new w (.slice sa S.length sc) (.slice la L.length lc) 25).below (below_alloc _ (.cells #[.slice sb S.length sd, .slice lb L.length ld] 25)))
  have U0 := hide (Two.new (w.alloc (.cells #[.slice sa S.length sc, .slice la L.length lc] 25)) (.slice sb S.length sd) (.slice lb L.length ld) 25)
  rw [show (w.alloc (.cells #[.slice sa S.length sc, .slice la L.length lc] 25)).heap.size = w.heap.size + 1 by simp] at U0
  clear h1 h2 h3 h4
  go_enter Try.func33, Try.ntmps33
  go_wp2_with fail
  refine (C1.out _ B0.out).mono ?_
  rintro e w1 ⟨rfl, hb1⟩
  have B1 := hide (below_next B0.out hb1)
  obtain ⟨t0, t1⟩ := T0.out.below hb1
  obtain ⟨u0, u1⟩ := U0.out.below hb1
  clear hb1
  go_wp2_with fail
  refine (C2.out _ B1.out).mono ?_
  rintro e w2 ⟨rfl, hb2⟩
  have B2 := hide (below_next B1.out hb2)
  clear hb2
  go_wp2_with fail
  go_ret
  exact ⟨rfl, B2.out⟩
theorem bytesL_of_trod {H : Type} {enc : TypeId × Value → H} {W : World} {a : Option Addr} {n c fuel : Nat} {x : DataW H × List MemPlace}
    (h : DataW.trod enc Try.prog W 0 (fun _ => true) true fuel 22 [.slice a n c] = some x) : ∃ zs : List Int, zs.length = n ∧ Reads .u8 W a zs ∧ U8 zs ∧ zs.length ≤ maxLen := by
  rcases open_ints Try.underlying22 Try.underlying5 (by kernel_rfl) h with ⟨hcs, _⟩ | ⟨x, l, c, zs, hcs, _, hl, hm, hz, _, hcell, hwz⟩
  · simp at hcs
    obtain ⟨rfl, rfl, rfl⟩ := hcs
    exact ⟨[], rfl, fun h => absurd rfl h, fun z hz => by simp at hz, Nat.zero_le _⟩
  · simp at hcs
    obtain ⟨rfl, rfl, rfl⟩ := hcs
    exact reads_of_row (by simpa using hz) hl hm hcell hwz
theorem trod_twoL {H : Type} {enc : TypeId × Value → H} {P : Program} {w : World} {base : Nat} {spare : Nat → Bool} {held : Bool} {t : TypeId} {f0 f1 : Field} {fuel : Nat} {cs : List Value} {x : DataW H × List MemPlace}
    (he : P.underlying t = some (.struct #[f0, f1])) (ce : P.cellsOf t = 2) (o0 : f0.offset = 0) (o1 : f1.offset = 1)
    (c0 : P.cellsOf f0.type = 1) (c1 : P.cellsOf f1.type = 1) (h : DataW.trod enc P w base spare held fuel t cs = some x) :
    ∃ (v0 v1 : Value) (n : Nat) (y0 y1 : DataW H × List MemPlace), cs = [v0, v1] ∧ DataW.trod enc P w base spare held n f0.type [v0] = some y0 ∧ DataW.trod enc P w base spare held n f1.type [v1] = some y1 := by
  obtain ⟨xs, k, hk, hxy, hlen, hxl, hf⟩ := DataW.trod_struct he h
  rw [ce] at hlen
  match xs, hxl, cs, hlen with
  | [y0, y1], _, [v0, v1], _ =>
    have g0 := hf 0 f0 rfl
    have g1 := hf 1 f1 rfl
    simp [o0, o1, c0, c1] at g0 g1
    exact ⟨v0, v1, k, y0, y1, rfl, g0, g1⟩
theorem log_of_trod {H : Type} {enc : TypeId × Value → H} {W : World} {fuel : Nat} {cs : List Value} {x : DataW H × List MemPlace}
    (h : DataW.trod enc Try.prog W 0 (fun _ => true) true fuel 50 cs = some x) :
    ∃ (sa : Option Addr) (sc : Nat) (S : List Int) (la : Option Addr) (lc : Nat) (L : List Int), cs = [.slice sa S.length sc, .slice la L.length lc] ∧ (Reads .u8 W sa S ∧ Reads .u8 W la L) ∧ (U8 S ∧ U8 L) ∧ S.length ≤ maxLen ∧ L.length ≤ maxLen := by
  obtain ⟨v0, v1, m, y0, y1, rfl, g0, g1⟩ := trod_twoL Try.underlying50 (by kernel_rfl) rfl rfl (by kernel_rfl) (by kernel_rfl) h
  obtain ⟨a0, n0, k0, e0⟩ : ∃ a n k, v0 = .slice a n k := by
    rcases open_ints Try.underlying22 Try.underlying5 (by kernel_rfl) g0 with ⟨hcs, _⟩ | ⟨x, l, c, zs, hcs, _⟩
    · simp at hcs; exact ⟨_, _, _, hcs⟩
    · simp at hcs; exact ⟨_, _, _, hcs⟩
  obtain ⟨a1, n1, k1, e1⟩ : ∃ a n k, v1 = .slice a n k := by
    rcases open_ints Try.underlying22 Try.underlying5 (by kernel_rfl) g1 with ⟨hcs, _⟩ | ⟨x, l, c, zs, hcs, _⟩
    · simp at hcs; exact ⟨_, _, _, hcs⟩
    · simp at hcs; exact ⟨_, _, _, hcs⟩
  subst e0 e1
  obtain ⟨S, rfl, hs, us, ms⟩ := bytesL_of_trod g0
  obtain ⟨L, rfl, hl, ul, ml⟩ := bytesL_of_trod g1
  exact ⟨a0, k0, S, a1, k1, L, rfl, ⟨hs, hl⟩, ⟨us, ul⟩, ms, ml⟩
end Go.Proofs.Ytpikgmbjgfdcfaa

