/-
  Texts put together: LogR PathL Strs LogS Cut PathM LogT LogU.
-/
import Derived.Test.YtpikgmbjgfdcfaaKLogs1
import Derived.Laws.BytesString
import Derived.BigQuiet
import Derived.Lib.Bytealg
import Derived.Lib.Strings
import Derived.Lib.SliceRun
import Derived.Shelf.Abstract
import Derived.Deep.RegionHeld3
namespace Go.Proofs.Ytpikgmbjgfdcfaa
open Go.RowKit
set_option linter.unusedVariables false

theorem conv_reads {w : World} {a : Option Addr} {c : Nat} {zs : List Int} (h : Reads .u8 w a zs) :
    Sem.run Try.prog (convert 22 9 (.slice a zs.length c)) w = .ok (.string (strOfNums zs)) w := by
  by_cases e : zs = []
  · subst e
    rw [List.length_nil, run_convert_bytes_string w 22 9 5 _ 0 c Try.underlying22 Try.underlying5 Try.underlying9]
    cases a <;> simp [Conv.bytesToString, loadCells]
    all_goals rfl
  · obtain ⟨b, off, rfl, hb, hc⟩ := h e
    exact run_convert_bytes_arg (P := Try.prog) w 22 5 Try.underlying22 Try.underlying5 b off zs.length c zs rfl hc 9 Try.underlying9
theorem reads_part {k : IntKind} {w : World} {b off : Nat} {zs : List Int} (h : Reads k w (some ⟨b, off, none⟩) zs) (i j : Nat) (h2 : i + j ≤ zs.length) : Reads k w (some ⟨b, off + i, none⟩) ((zs.drop i).take j) := by
  intro hne
  have hz : zs ≠ [] := fun e => hne (by simp [e])
  obtain ⟨b', off', e, hb, hc⟩ := h hz
  simp only [Option.some.injEq, Addr.mk.injEq, and_true] at e
  obtain ⟨rfl, rfl⟩ := e
  refine ⟨_, _, rfl, hb, fun t ht => ?_⟩
  rw [List.length_take, List.length_drop] at ht
  have := hc (i + t) (by omega)
  rw [← Nat.add_assoc] at this
  rw [this]
  simp only [List.getD_eq_getElem?_getD, List.getElem?_take, List.getElem?_drop]
  rw [if_pos (by omega)]
theorem part_len {zs : List Int} {i j : Nat} (h : i + j ≤ zs.length) : ((zs.drop i).take j).length = j := by rw [List.length_take, List.length_drop]; omega

theorem bEqual_any (a a2 : Option Addr) (c c2 : Nat) (xs ys : List Int) (w : World) (h1 : Reads .u8 w a xs) (h2 : Reads .u8 w a2 ys) (u1 : U8 xs) (u2 : U8 ys) (n : Nat) (hn : n = xs.length) :
    Calls Try.prog 76 #[.slice a n c, .slice a2 ys.length c2] w fun e w' => e = .returned (.bool (decide (xs = ys))) ∧ w' = w := by
  subst hn
  have c1 := conv_reads (c := c) h1
  have c2' := conv_reads (c := c2) h2
  have he : ((strOfNums xs).toList == (strOfNums ys).toList) = decide (xs = ys) := by
    by_cases e : xs = ys
    · subst e; simp
    · rw [decide_eq_false e, beq_eq_false_iff_ne]
      intro h
      exact e (nums_inj u1 u2 (ByteArray.ext (Array.ext' (by rw [ByteArray.toList_eq, ByteArray.toList_eq] at h; exact h))))
  have HE := hide he
  clear he h1 h2 u1 u2
  go_enter Try.func76, Try.ntmps76
  go_wp2_with fail
  go_ret
  exact ⟨ret_bool (by first | exact HE.out | (have := HE.out; simpa using this)), rfl⟩

theorem hasPre_any (b off c : Nat) (a2 : Option Addr) (c2 : Nat) (xs ys : List Int) (w : World) (h1 : Reads .u8 w (some ⟨b, off, none⟩) xs) (h2 : Reads .u8 w a2 ys) (u1 : U8 xs) (u2 : U8 ys) (hc : xs.length ≤ c) (hl : xs.length ≤ 1048576) (hl2 : ys.length ≤ 1048576) :
    Calls Try.prog 75 #[.slice (some ⟨b, off, none⟩) xs.length c, .slice a2 ys.length c2] w fun e w' => e = .returned (.bool (decide (ys = xs.take ys.length))) ∧ w' = w := by
  by_cases hle : ys.length ≤ xs.length
  · have hrd := reads_part h1 0 ys.length (by omega)
    have hpl := part_len (zs := xs) (i := 0) (j := ys.length) (by omega)
    have HC : Hid (∀ (w0 : World) (cc : Nat), w0 = w → Calls Try.prog 76 #[.slice (some ⟨b, off, none⟩) ys.length cc, .slice a2 ys.length c2] w0 fun e w' => e = .returned (.bool (decide (ys = xs.take ys.length))) ∧ w' = w0) := hide fun w0 cc e => by
      subst e
      have := bEqual_any (some ⟨b, off + 0, none⟩) a2 cc c2 _ ys w0 hrd h2 (u8_take (u8_drop u1 0) ys.length) u2 ys.length hpl.symm
      rw [List.drop_zero, show decide (xs.take ys.length = ys) = decide (ys = xs.take ys.length) from decide_eq_decide.2 ⟨Eq.symm, Eq.symm⟩] at this
      exact this
    have hge : decide ((xs.length : Int) ≥ (ys.length : Int)) = true := decide_eq_true (by omega)
    clear hrd h1 h2 u1 u2 hpl
    generalize decide (ys = xs.take ys.length) = B at *
    go_enter Try.func75, Try.ntmps75
    go_wp2_with fail
    refine (HC.out _ _ rfl).mono ?_
    rintro e w1 ⟨rfl, rfl⟩
    go_wp2_with fail
    go_ret
    exact ⟨rfl, rfl⟩
  · have hne : decide (ys = xs.take ys.length) = false := decide_eq_false fun e => by have := congrArg List.length e; rw [List.length_take] at this; omega
    rw [hne]
    have hge : decide ((xs.length : Int) ≥ (ys.length : Int)) = false := decide_eq_false (by omega)
    clear hne h1 h2 u1 u2
    go_enter Try.func75, Try.ntmps75
    go_wp2_with fail
    go_ret
    exact ⟨rfl, rfl⟩

theorem cutPre_any (b off c : Nat) (a2 : Option Addr) (c2 : Nat) (xs ys : List Int) (w : World) (h1 : Reads .u8 w (some ⟨b, off, none⟩) xs) (h2 : Reads .u8 w a2 ys) (u1 : U8 xs) (u2 : U8 ys) (hc : xs.length ≤ c) (hl : xs.length ≤ 1048576) (hl2 : ys.length ≤ 1048576) :
    Calls Try.prog 74 #[.slice (some ⟨b, off, none⟩) xs.length c, .slice a2 ys.length c2] w fun e w' => w' = w ∧ ((ys = xs.take ys.length ∧ ∃ p, (∀ u, Reads .u8 u (some ⟨b, off, none⟩) xs → Reads .u8 u p (xs.drop ys.length)) ∧ e = .returned (.tuple #[.slice p (xs.length - ys.length) (c - ys.length), .bool true])) ∨ (ys ≠ xs.take ys.length ∧ ∃ v, e = .returned (.tuple #[v, .bool false]))) := by
  have HP := hide (hasPre_any b off c a2 c2 xs ys w h1 h2 u1 u2 hc hl hl2)
  have HRD := hide h1
  clear h1 h2 u1 u2
  by_cases hp : ys = xs.take ys.length
  · have hle : ys.length ≤ xs.length := by have := congrArg List.length hp; rw [List.length_take] at this; omega
    have HP' : Hid (Calls Try.prog 75 #[.slice (some ⟨b, off, none⟩) xs.length c, .slice a2 ys.length c2] w fun e w' => e = .returned (.bool true) ∧ w' = w) := hide (by have := HP.out; rw [decide_eq_true hp] at this; exact this)
    have HH := hide hp
    have HR : Hid (∀ u, Reads .u8 u (some ⟨b, off, none⟩) xs → Reads .u8 u (some ⟨b, off + ys.length, none⟩) (xs.drop ys.length)) := hide (fun u hu => by have := reads_part hu ys.length (xs.length - ys.length) (by omega); rwa [List.take_of_length_le (by rw [List.length_drop]; omega)] at this)
    have HR0 : Hid (c = ys.length → ∀ p u, Reads .u8 u p (xs.drop ys.length)) := hide fun e p u h => absurd (List.drop_of_length_le (by omega)) h
    clear HP hp HRD
    go_enter Try.func74, Try.ntmps74
    go_wp2_with fail
    refine HP'.out.mono ?_
    rintro e w1 ⟨rfl, rfl⟩
    by_cases hcc : c = ys.length
    · subst hcc
      go_wp2_with fail
      go_ret2
      refine ⟨rfl, Or.inl ⟨HH.out, some ⟨b, off, none⟩, fun u _ => HR0.out trivial _ u, ?_⟩⟩
      rw [Nat.sub_self, show xs.length - ys.length = 0 from by omega]; rfl
    · go_wp2_with fail
      go_ret2
      exact ⟨rfl, Or.inl ⟨HH.out, _, HR.out, rfl⟩⟩
  · have HP' : Hid (Calls Try.prog 75 #[.slice (some ⟨b, off, none⟩) xs.length c, .slice a2 ys.length c2] w fun e w' => e = .returned (.bool false) ∧ w' = w) := hide (by have := HP.out; rw [decide_eq_false hp] at this; exact this)
    have HH := hide hp
    clear HP hp
    go_enter Try.func74, Try.ntmps74
    go_wp2_with fail
    refine HP'.out.mono ?_
    rintro e w1 ⟨rfl, rfl⟩
    go_wp2_with fail
    go_ret2
    exact ⟨rfl, Or.inr ⟨HH.out, _, rfl⟩⟩
theorem dat_drop {b off : Nat} {w : World} {z : Int} {t : List Int} (h : Reads .u8 w (some ⟨b, off, none⟩) (z :: t)) : w.cell? ⟨b, off, none⟩ = some (.int .u8 z) ∧ b < w.heap.size := by
  obtain ⟨b', off', e, hb, hc⟩ := h (by simp)
  simp only [Option.some.injEq, Addr.mk.injEq, and_true] at e
  obtain ⟨rfl, rfl⟩ := e
  have := hc 0 (by simp)
  exact ⟨by simpa using this, hb⟩

theorem below_dn (w : World) (n : Nat) : Below w.heap.size w (w.drewN n) := ⟨rfl, rfl, rfl, Nat.le_refl _, fun _ _ => rfl⟩
def First (a : Option Addr) (zs : List Int) (c : Nat) (e : Ending) : Prop :=
  (one zs = none ∧ ∃ s v, e = .returned (.tuple #[s, v, .bool false])) ∨
  (∃ l, one zs = some l ∧ ∃ p, (∀ u, Reads .u8 u a zs → Reads .u8 u p (zs.drop (l.length + 5))) ∧ e = .returned (.tuple #[.string (strB l), .slice p (zs.length - (l.length + 5)) (c - (l.length + 5)), .bool true]))

set_option maxRecDepth 100000 in
theorem firstLine_any (a : Option Addr) (c : Nat) (zs : List Int) (w : World) (h : Reads .u8 w a zs) (hu : U8 zs) (hc : zs.length ≤ c) (hl : zs.length ≤ 1048576) :
    Calls Try.prog 71 #[.slice a zs.length c] w fun e w' => First a zs c e ∧ Below w.heap.size w w' := by
  by_cases hz : zs = []
  · subst hz
    clear h
    go_enter Try.func71, Try.ntmps71
    go_wp2_with fail
    go_ret3
    exact ⟨Or.inl ⟨by decide, _, _, rfl⟩, Below.refl _ _⟩
  · obtain ⟨b, off, rfl, hb, -⟩ := h hz
    obtain ⟨z, t, rfl⟩ : ∃ z t, zs = z :: t := by cases zs with | nil => exact absurd rfl hz | cons z t => exact ⟨z, t, rfl⟩
    have hcell := (dat_drop h).1
    obtain ⟨z0, z1⟩ := hu z (by simp)
    obtain ⟨k, rfl⟩ : ∃ k : Nat, z = k := ⟨z.toNat, by omega⟩
    by_cases hend : k ≤ t.length
    · have hln : lnOf ((k : Int) :: t) = bys (t.take k) := by simp [lnOf]
      have hR1 := reads_part h 1 k (by simp; omega)
      have hlt : (t.take k).length = k := by rw [List.length_take]; omega
      simp only [List.drop_succ_cons, List.drop_zero] at hR1
      have hcv := conv_reads (c := c - 1) hR1
      rw [hlt, nums_bys] at hcv
      have hlb : (bys (t.take k)).length = k := by rw [bys_len, hlt]
      have hone : one ((k : Int) :: t) = if lineF (bys (t.take k)) = 0 ∧ packZ (bys (t.take k)) = ((k : Int) :: t).take (k + 5) then some (bys (t.take k)) else none := by unfold one; rw [hln, hlb]
      generalize bys (t.take k) = l at *
      have HO := hide hone
      have HR := hide h
      have HU := hide hu
      clear hone h hu hR1 hlt hln hz
      by_cases h0 : lineF l = 0
      · have HP : Hid (∀ w : World, Calls Try.prog 17 #[.string (strB l)] w fun e w' => ∃ a c, e = .returned (.agg #[.int .i64 0, .slice a (packZ l).length c]) ∧ GB w.heap.size w'.heap.size w' (.slice a (packZ l).length c) (packZ l) ∧ Below w.heap.size w w') := hide fun w => by have := implPackLine_ok (strB l) w (by rw [strB_list]; exact h0); rw [strB_list] at this; exact this
        have hpu := packZ_u8 (l := l) (by omega)
        have hpl := packZ_len l
        rw [hlb] at hpl
        have HO' : Hid (one ((k : Int) :: t) = if packZ l = ((k : Int) :: t).take (k + 5) then some l else none) := hide (by rw [HO.out]; simp only [h0, true_and])
        have HK := hide (lineF_len h0).1
        clear HO h0
        generalize packZ l = pk at *
        have hk1 : 1 ≤ k := by rw [← hlb]; exact HK.out
        have hc1 : ¬ c = 1 := by simp at hc; omega
        have HPU := hide hpu
        have HPL := hide hpl
        have HLB := hide hlb
        have hTL : ((k : Int) :: t).length = t.length + 1 := rfl
        have HTL := hide hTL
        rw [hTL] at hl hc ⊢
        clear hpu hpl hlb hTL
        go_enter Try.func71, Try.ntmps71
        go_wp2_with fail
        refine (HP.out _).mono ?_
        rintro e w1 ⟨pa, pc, rfl, g1, b1⟩
        have n1 := b1.size
        have G1 := hide (g1.below (below_alloc w1 (.cells #[.int .i64 0, .slice pa pk.length pc] 39)))
        have B1 := hide (below_next b1 (below_alloc w1 (.cells #[.int .i64 0, .slice pa pk.length pc] 39)))
        have R1 := hide (HR.out.below B1.out)
        have U1 := hide (Two.new w1 (.int .i64 0) (.slice pa pk.length pc) 39)
        clear g1 b1 HR
        obtain ⟨Ut0, Ut1⟩ := U1.out
        go_wp2_with fail
        refine (cutPre_any b off c pa pc ((k : Int) :: t) pk _ R1.out G1.out.own.reads HU.out HPU.out hc hl (by rw [HPL.out]; omega)).mono ?_
        rintro e w2 ⟨rfl, hh⟩
        rcases hh with ⟨hpre, p, hp, rfl⟩ | ⟨hpre, v, rfl⟩
        · rw [HPL.out] at hpre
          have HW := hide (fun u (hu : Reads .u8 u (some ⟨b, off, none⟩) ((k : Int) :: t)) => (congrArg (fun m => Reads .u8 u p (((k : Int) :: t).drop m)) HPL.out).mp (hp u hu))
          have HN : Hid (one ((k : Int) :: t) = some l) := hide (by rw [HO'.out]; exact if_pos hpre)
          clear hpre hp HO' HP
          go_wp2_with fail
          go_quiet (fail)
          go_wp2_with fail
          go_ret3
          exact ⟨Or.inr ⟨l, HN.out, p, by rw [HLB.out]; exact HW.out, by rw [HLB.out, ← HPL.out]; rfl⟩, below_next B1.out (below_dn _ nq)⟩
        · rw [HPL.out] at hpre
          have HN : Hid (one ((k : Int) :: t) = none) := hide (by rw [HO'.out]; exact if_neg hpre)
          clear hpre HO' HP
          go_wp2_with fail
          go_quiet (fail)
          go_wp2_with fail
          go_ret3
          exact ⟨Or.inl ⟨HN.out, _, _, rfl⟩, below_next B1.out (below_dn _ nq)⟩
      · have hN : one ((k : Int) :: t) = none := by rw [HO.out]; exact if_neg fun e => h0 e.1
        have HN := hide hN
        have hq : lineF (strB l).data.toList ≠ 0 := by rw [strB_list]; exact h0
        have HP : Hid (∀ w : World, Calls Try.prog 17 #[.string (strB l)] w fun e w' => ∃ a c, e = .returned (.agg #[.int .i64 (lineF (strB l).data.toList), .slice a 0 c]) ∧ GB w.heap.size w'.heap.size w' (.slice a 0 c) [] ∧ Below w.heap.size w w') := hide fun w => implPackLine_bad (strB l) w (by rw [strB_size]; omega) hq
        generalize lineF (strB l).data.toList = q at *
        have hqd : (q == 0) = false := by simp [hq]
        have HLB := hide hlb
        have hTL : ((k : Int) :: t).length = t.length + 1 := rfl
        rw [hTL] at hl hc ⊢
        clear HO hN h0 hlb hTL
        have hcv1 : ∀ c' p, Sem.run Try.prog (convert 22 9 (.slice p 0 c')) w = .ok (.string (strOfNums [])) w := fun c' p => conv_reads (c := c') (a := p) (zs := []) (fun e => absurd rfl e)
        have HK0 : Hid (k = 0 → strB l = strOfNums []) := hide fun e => by have : l = [] := List.eq_nil_of_length_eq_zero (by rw [HLB.out]; exact e); rw [this]; rfl
        by_cases hc1 : c = 1
        · subst hc1
          have hk0 : k = 0 := by omega
          have ht0 : t.length = 0 := by omega
          subst hk0
          have hcv2 : ∀ p, Sem.run Try.prog (convert 22 9 (.slice p 0 0)) w = .ok (.string (strB l)) w := fun p => by rw [HK0.out rfl]; exact hcv1 0 p
          clear hcv1 HK0 hcv
          have hcv := hcv2 (some ⟨b, off, none⟩)
          clear hcv2
          rw [ht0]
          go_enter Try.func71, Try.ntmps71
          go_wp2_with fail
          refine (HP.out _).mono ?_
          rintro e w1 ⟨pa, pc, rfl, g1, b1⟩
          have n1 := b1.size
          have G1 := hide (g1.below (below_alloc w1 (.cells #[.int .i64 q, .slice pa 0 pc] 39)))
          have B1 := hide (below_next b1 (below_alloc w1 (.cells #[.int .i64 q, .slice pa 0 pc] 39)))
          have R1 := hide (HR.out.below B1.out)
          have U1 := hide (Two.new w1 (.int .i64 q) (.slice pa 0 pc) 39)
          clear g1 b1 HR
          obtain ⟨Ut0, Ut1⟩ := U1.out
          go_wp2_with fail
          have HX := hide (cutPre_any b off 1 pa pc (((0 : Nat) : Int) :: t) [] _ R1.out (fun e => absurd rfl e) HU.out (fun z hz => by simp at hz) (by simp [ht0]) (by simp [ht0]) (by simp))
          rw [show ((((0 : Nat) : Int) :: t).length) = 1 from by simp [ht0]] at HX
          refine HX.out.mono ?_
          rintro e w2 ⟨rfl, hh⟩
          rcases hh with ⟨hpre, p, hp, rfl⟩ | ⟨hpre, v, rfl⟩
          · clear hpre hp HX HP
            go_wp2_with fail
            go_quiet (fail)
            go_wp2_with fail
            go_ret3
            exact ⟨Or.inl ⟨HN.out, _, _, rfl⟩, below_next B1.out (below_dn _ nq)⟩
          · exact absurd rfl hpre
        · clear hcv1 HK0
          go_enter Try.func71, Try.ntmps71
          go_wp2_with fail
          refine (HP.out _).mono ?_
          rintro e w1 ⟨pa, pc, rfl, g1, b1⟩
          have n1 := b1.size
          have G1 := hide (g1.below (below_alloc w1 (.cells #[.int .i64 q, .slice pa 0 pc] 39)))
          have B1 := hide (below_next b1 (below_alloc w1 (.cells #[.int .i64 q, .slice pa 0 pc] 39)))
          have R1 := hide (HR.out.below B1.out)
          have U1 := hide (Two.new w1 (.int .i64 q) (.slice pa 0 pc) 39)
          clear g1 b1 HR
          obtain ⟨Ut0, Ut1⟩ := U1.out
          go_wp2_with fail
          refine (cutPre_any b off c pa pc ((k : Int) :: t) [] _ R1.out (fun e => absurd rfl e) HU.out (fun z hz => by simp at hz) hc hl (by simp)).mono ?_
          rintro e w2 ⟨rfl, hh⟩
          rcases hh with ⟨hpre, p, hp, rfl⟩ | ⟨hpre, v, rfl⟩
          · clear hpre hp HP
            go_wp2_with fail
            go_quiet (fail)
            go_wp2_with fail
            go_ret3
            exact ⟨Or.inl ⟨HN.out, _, _, rfl⟩, below_next B1.out (below_dn _ nq)⟩
          · exact absurd rfl hpre
    · have hone : one ((k : Int) :: t) = none := by
        cases hO : one ((k : Int) :: t) with
        | none => rfl
        | some l =>
          obtain ⟨-, -, h3, h4⟩ := one_some hO
          have e := congrArg (fun q : List Int => q.getD 0 0) h4
          simp only [packZ, headZ, List.cons_append, List.getD_cons_zero] at e
          simp only [List.length_cons] at h3
          omega
      have HO := hide hone
      clear hone h hu hz
      go_enter Try.func71, Try.ntmps71
      go_wp2_with fail
      go_ret3
      exact ⟨Or.inl ⟨HO.out, _, _, rfl⟩, Below.refl _ _⟩
end Go.Proofs.Ytpikgmbjgfdcfaa

namespace Go.Proofs.Ytpikgmbjgfdcfaa
set_option linter.unusedVariables false

abbrev Bs := List UInt8
def str (l : Bs) : ByteArray := ⟨l.toArray⟩
theorem str_size (l : Bs) : (str l).size = l.length := by simp [str, ByteArray.size]
end Go.Proofs.Ytpikgmbjgfdcfaa

namespace Go.Proofs.Ytpikgmbjgfdcfaa
open Go.RowKit
set_option linter.unusedVariables false

def vS (p : Bs) : Value := .string (str p)
def OwnS (B : Nat) (w : World) (v : Value) (ps : List Bs) : Prop := w.ownsRow B 9 1 v ps.length (ps.map vS)
namespace OwnS
variable {B : Nat} {w w' : World} {v : Value} {ps : List Bs}
theorem nil (B : Nat) (w : World) : OwnS B w (.slice none 0 0) [] := World.ownsRow_nil _ _ _ _
theorem shape (h : OwnS B w v ps) : ∃ a c, v = .slice a ps.length c := ownsRow_shape h
theorem below (h : OwnS B w v ps) (hk : Below w.heap.size w w') : OwnS B w' v ps := ownsRow_below h hk
theorem mono {B' : Nat} (h : OwnS B w v ps) (hb : B' ≤ B) : OwnS B' w v ps := ownsRow_mono h hb
end OwnS

theorem OwnS.snoc {B : Nat} {w : World} {v : Value} {ps : List Bs} {p : Bs} {s : ByteArray} (h : w.ownsRow B 9 1 v (ps.length + 1) (ps.map vS ++ #[Value.string s].toList)) (hs : s = str p) : OwnS B w v (ps ++ [p]) := by
  unfold OwnS
  subst hs
  simpa [vS] using h

end Go.Proofs.Ytpikgmbjgfdcfaa

namespace Go.Proofs.Ytpikgmbjgfdcfaa
open Go.RowKit
set_option linter.unusedVariables false

structure Hears (fn : FuncId) (cap : Array Value) (ls : List Bs) (w0 : World) (P : Nat → Value → World → Prop) : Prop where
  enter : ∀ args w, (callFunc fn args).run Try.prog w = .ok (.enter fn args) w
  next : ∀ k l v w, ls[k]? = some l → P k v w → Calls Try.prog fn (#[v, .string (strB l)] ++ cap) w fun e w' => ∃ v', e = .returned v' ∧ P (k + 1) v' w'
  still : ∀ k v w w', P k v w → Below w.heap.size w w' → P k v w'
  old : ∀ k v w, P k v w → Below w0.heap.size w0 w
def lenV : Value → Nat
  | .slice _ n _ => n
  | _ => 0
def moreV (v : Value) : Value → Nat
  | .bool true => lenV v + 1
  | _ => 0
def AtL (zs : List Int) (c : Nat) (w0 : World) (k : Nat) (s v : Value) (b : Bool) : Prop :=
  (b = false ∧ k = (lines zs).length) ∨
  (b = true ∧ ∃ l rs p c', s = .string (strB l) ∧ v = .slice p rs.length c' ∧ rs.length ≤ c' ∧ rs.length ≤ zs.length ∧ U8 rs ∧ (∀ u, Below w0.heap.size w0 u → Reads .u8 u p rs) ∧ (lines zs).drop k = l :: lines rs)
theorem first_at {a : Option Addr} {w0 : World} {zs rs : List Int} {c k : Nat} {e : Ending} (h : First a rs c e) (hr : ∀ u, Below w0.heap.size w0 u → Reads .u8 u a rs) (hd : (lines zs).drop k = lines rs) (hk : k ≤ (lines zs).length) (hu : U8 rs) (hc : rs.length ≤ c) (hl : rs.length ≤ zs.length) :
    ∃ s v b, e = .returned (.tuple #[s, v, .bool b]) ∧ AtL zs c w0 k s v b ∧ (b = true → lenV v + 6 ≤ rs.length) := by
  rcases h with ⟨h1, s, v, rfl⟩ | ⟨l, h1, p, hp, rfl⟩
  · refine ⟨s, v, false, rfl, .inl ⟨rfl, ?_⟩, fun h => by cases h⟩
    rw [lines_none h1] at hd
    have := congrArg List.length hd
    rw [List.length_drop, List.length_nil] at this
    omega
  · obtain ⟨h2, -, h3, -⟩ := one_some h1
    have h4 := lineF_len h2
    refine ⟨_, _, true, rfl, .inr ⟨rfl, l, rs.drop (l.length + 5), p, c - (l.length + 5), rfl, by rw [List.length_drop], by rw [List.length_drop]; omega, by rw [List.length_drop]; omega, u8_drop hu _, fun u hb => hp u (hr u hb), by rw [hd, lines_some h1]⟩, fun _ => ?_⟩
    simp only [lenV]; omega
theorem drop_line {ls : List Bs} {k : Nat} {l : Bs} {t : List Bs} (h : ls.drop k = l :: t) : ls[k]? = some l ∧ ls.drop (k + 1) = t ∧ k < ls.length := by
  have hk : k < ls.length := by
    by_cases hk : k < ls.length
    · exact hk
    · rw [List.drop_eq_nil_of_le (by omega)] at h; cases h
  have e := List.getElem_cons_drop hk
  rw [h] at e
  injection e with e1 e2
  exact ⟨by rw [List.getElem?_eq_getElem hk, e1], e2, hk⟩
set_option maxRecDepth 100000 in
set_option maxHeartbeats 1600000 in
theorem tellN_any (a : Option Addr) (c : Nat) (zs : List Int) (v0 : Value) (fn : FuncId) (cap : Array Value) (P : Nat → Value → World → Prop) (w : World) (h : Reads .u8 w a zs) (hu : U8 zs) (hc : zs.length ≤ c) (hl : zs.length ≤ 1048576) (hf : Hears fn cap (lines zs) w P) (h0 : P 0 v0 w) :
    Calls Try.prog 68 #[.slice a zs.length c, v0, .func (.func fn) #[] cap] w fun e w' => ∃ v', e = .returned v' ∧ P (lines zs).length v' w' := by
  have eg := hf.enter
  have HF := hide hf
  have HP0 := hide h0
  have HU := hide hu
  have HR := hide (fun u (hb : Below w.heap.size w u) => h.below hb)
  clear h hu hf h0
  go_enter Try.func68, Try.ntmps68
  go_wp2_with fail
  refine (firstLine_any a c zs w (HR.out _ (Below.refl _ _)) HU.out hc hl).mono ?_
  rintro e w1 ⟨hfi, hb1⟩
  obtain ⟨s, v, b, rfl, hat, hm⟩ := first_at hfi HR.out (k := 0) (zs := zs) rfl (Nat.zero_le _) HU.out hc (Nat.le_refl _)
  have HAT := hide hat
  have HP1 := hide (HF.out.still _ _ _ _ HP0.out hb1)
  clear hfi hat hm hb1 HP0
  go_wp2_with fail
  go_loopw [1, 7, 8, 9] (fun m s v b wr => ∃ (k : Nat) (q : Bool), b = .bool q ∧ Hid (AtL zs c w k s v q) ∧ Hid (P k m wr)) (fun _ _ v b _ => moreV v b)
  case atStart => exact ⟨0, _, rfl, HAT, HP1⟩
  case round =>
    obtain ⟨k, q, rfl, HA, HPk⟩ := hrel
    rcases HA.out with ⟨rfl, rfl⟩ | ⟨rfl, l, rs, p, c', rfl, rfl, h1, h2, hu2, hr2, hd⟩
    · go_wp2_with fail
      go_ret
      exact ⟨_, rfl, HPk.out⟩
    · obtain ⟨e1, e2, e3⟩ := drop_line hd
      have HE2 := hide e2
      have HU2 := hide hu2
      have HR2 := hide hr2
      have HN := hide (HF.out.next k l _ _ e1 HPk.out)
      clear hd e1 e2 hu2 hr2 HA
      go_wp2_with fail
      refine HN.out.mono ?_
      rintro e w2 ⟨v2, rfl, hp2⟩
      have HP2 := hide hp2
      clear hp2
      go_wp2_with fail
      refine (firstLine_any p c' rs w2 (HR2.out _ (HF.out.old _ _ _ HP2.out)) HU2.out h1 (by omega)).mono ?_
      rintro e w3 ⟨hfi, hb3⟩
      obtain ⟨s, v, b, rfl, hat, hm⟩ := first_at hfi HR2.out (k := k + 1) (zs := zs) HE2.out e3 HU2.out h1 h2
      have HAT := hide hat
      have HM := hide hm
      have HP3 := hide (HF.out.still _ _ _ _ HP2.out hb3)
      clear hfi hat hm hb3 HP2
      go_wp2_with fail
      go_roundw
      case rel => exact ⟨k + 1, _, rfl, HAT, HP3⟩
      case measure =>
        have := HM.out
        cases b
        · simp [moreV]
        · have := this rfl
          show lenV v + 1 < rs.length + 1
          omega
set_option maxRecDepth 100000 in
set_option maxHeartbeats 1600000 in
theorem tellC_any (a : Option Addr) (c : Nat) (zs : List Int) (v0 : Value) (fn : FuncId) (cap : Array Value) (P : Nat → Value → World → Prop) (w : World) (h : Reads .u8 w a zs) (hu : U8 zs) (hc : zs.length ≤ c) (hl : zs.length ≤ 1048576) (hf : Hears fn cap (lines zs) w P) (h0 : P 0 v0 w) :
    Calls Try.prog 67 #[.slice a zs.length c, v0, .func (.func fn) #[] cap] w fun e w' => ∃ v', e = .returned v' ∧ P (lines zs).length v' w' := by
  have eg := hf.enter
  have HF := hide hf
  have HP0 := hide h0
  have HU := hide hu
  have HR := hide (fun u (hb : Below w.heap.size w u) => h.below hb)
  clear h hu hf h0
  go_enter Try.func67, Try.ntmps67
  go_wp2_with fail
  refine (firstLine_any a c zs w (HR.out _ (Below.refl _ _)) HU.out hc hl).mono ?_
  rintro e w1 ⟨hfi, hb1⟩
  obtain ⟨s, v, b, rfl, hat, hm⟩ := first_at hfi HR.out (k := 0) (zs := zs) rfl (Nat.zero_le _) HU.out hc (Nat.le_refl _)
  have HAT := hide hat
  have HP1 := hide (HF.out.still _ _ _ _ HP0.out hb1)
  clear hfi hat hm hb1 HP0
  go_wp2_with fail
  go_loopw [1, 7, 8, 9] (fun m s v b wr => ∃ (k : Nat) (q : Bool), b = .bool q ∧ Hid (AtL zs c w k s v q) ∧ Hid (P k m wr)) (fun _ _ v b _ => moreV v b)
  case atStart => exact ⟨0, _, rfl, HAT, HP1⟩
  case round =>
    obtain ⟨k, q, rfl, HA, HPk⟩ := hrel
    rcases HA.out with ⟨rfl, rfl⟩ | ⟨rfl, l, rs, p, c', rfl, rfl, h1, h2, hu2, hr2, hd⟩
    · go_wp2_with fail
      go_ret
      exact ⟨_, rfl, HPk.out⟩
    · obtain ⟨e1, e2, e3⟩ := drop_line hd
      have HE2 := hide e2
      have HU2 := hide hu2
      have HR2 := hide hr2
      have HN := hide (HF.out.next k l _ _ e1 HPk.out)
      clear hd e1 e2 hu2 hr2 HA
      go_wp2_with fail
      refine HN.out.mono ?_
      rintro e w2 ⟨v2, rfl, hp2⟩
      have HP2 := hide hp2
      clear hp2
      go_wp2_with fail
      refine (firstLine_any p c' rs w2 (HR2.out _ (HF.out.old _ _ _ HP2.out)) HU2.out h1 (by omega)).mono ?_
      rintro e w3 ⟨hfi, hb3⟩
      obtain ⟨s, v, b, rfl, hat, hm⟩ := first_at hfi HR2.out (k := k + 1) (zs := zs) HE2.out e3 HU2.out h1 h2
      have HAT := hide hat
      have HM := hide hm
      have HP3 := hide (HF.out.still _ _ _ _ HP2.out hb3)
      clear hfi hat hm hb3 HP2
      go_wp2_with fail
      go_roundw
      case rel => exact ⟨k + 1, _, rfl, HAT, HP3⟩
      case measure =>
        have := HM.out
        cases b
        · simp [moreV]
        · have := this rfl
          show lenV v + 1 < rs.length + 1
          omega
set_option maxRecDepth 100000 in
set_option maxHeartbeats 1600000 in
theorem tellS_any (a : Option Addr) (c : Nat) (zs : List Int) (v0 : Value) (fn : FuncId) (cap : Array Value) (P : Nat → Value → World → Prop) (w : World) (h : Reads .u8 w a zs) (hu : U8 zs) (hc : zs.length ≤ c) (hl : zs.length ≤ 1048576) (hf : Hears fn cap (lines zs) w P) (h0 : P 0 v0 w) :
    Calls Try.prog 51 #[.slice a zs.length c, v0, .func (.func fn) #[] cap] w fun e w' => ∃ v', e = .returned v' ∧ P (lines zs).length v' w' := by
  have eg := hf.enter
  have HF := hide hf
  have HP0 := hide h0
  have HU := hide hu
  have HR := hide (fun u (hb : Below w.heap.size w u) => h.below hb)
  clear h hu hf h0
  go_enter Try.func51, Try.ntmps51
  go_wp2_with fail
  refine (firstLine_any a c zs w (HR.out _ (Below.refl _ _)) HU.out hc hl).mono ?_
  rintro e w1 ⟨hfi, hb1⟩
  obtain ⟨s, v, b, rfl, hat, hm⟩ := first_at hfi HR.out (k := 0) (zs := zs) rfl (Nat.zero_le _) HU.out hc (Nat.le_refl _)
  have HAT := hide hat
  have HP1 := hide (HF.out.still _ _ _ _ HP0.out hb1)
  clear hfi hat hm hb1 HP0
  go_wp2_with fail
  go_loopw [1, 7, 8, 9] (fun m s v b wr => ∃ (k : Nat) (q : Bool), b = .bool q ∧ Hid (AtL zs c w k s v q) ∧ Hid (P k m wr)) (fun _ _ v b _ => moreV v b)
  case atStart => exact ⟨0, _, rfl, HAT, HP1⟩
  case round =>
    obtain ⟨k, q, rfl, HA, HPk⟩ := hrel
    rcases HA.out with ⟨rfl, rfl⟩ | ⟨rfl, l, rs, p, c', rfl, rfl, h1, h2, hu2, hr2, hd⟩
    · go_wp2_with fail
      go_ret
      exact ⟨_, rfl, HPk.out⟩
    · obtain ⟨e1, e2, e3⟩ := drop_line hd
      have HE2 := hide e2
      have HU2 := hide hu2
      have HR2 := hide hr2
      have HN := hide (HF.out.next k l _ _ e1 HPk.out)
      clear hd e1 e2 hu2 hr2 HA
      go_wp2_with fail
      refine HN.out.mono ?_
      rintro e w2 ⟨v2, rfl, hp2⟩
      have HP2 := hide hp2
      clear hp2
      go_wp2_with fail
      refine (firstLine_any p c' rs w2 (HR2.out _ (HF.out.old _ _ _ HP2.out)) HU2.out h1 (by omega)).mono ?_
      rintro e w3 ⟨hfi, hb3⟩
      obtain ⟨s, v, b, rfl, hat, hm⟩ := first_at hfi HR2.out (k := k + 1) (zs := zs) HE2.out e3 HU2.out h1 h2
      have HAT := hide hat
      have HM := hide hm
      have HP3 := hide (HF.out.still _ _ _ _ HP2.out hb3)
      clear hfi hat hm hb3 HP2
      go_wp2_with fail
      go_roundw
      case rel => exact ⟨k + 1, _, rfl, HAT, HP3⟩
      case measure =>
        have := HM.out
        cases b
        · simp [moreV]
        · have := this rfl
          show lenV v + 1 < rs.length + 1
          omega
end Go.Proofs.Ytpikgmbjgfdcfaa

namespace Go.Proofs.Ytpikgmbjgfdcfaa
open Go.RowKit
set_option linter.unusedVariables false

theorem reads_news {w : World} {b off : Nat} {zs : List Int} {k : IntKind} (hc : ∀ i, i < zs.length → w.cell? ⟨b, off + i, none⟩ = some (.int k (zs.getD i 0))) :
    ∀ j u, (zs.map (Value.int k))[j]? = some u → w.cell? ((⟨b, off, none⟩ : Addr).add j) = some u := by
  intro j u hj
  have hadd : (⟨b, off, none⟩ : Addr).add j = ⟨b, off + j, none⟩ := by unfold Addr.add; split <;> simp_all
  have hjl : j < zs.length := by
    rcases Nat.lt_or_ge j zs.length with h | h
    · exact h
    · rw [List.getElem?_eq_none (by simpa using h)] at hj; simp at hj
  rw [hadd, hc j hjl]
  simp [hjl] at hj
  simp [List.getD_eq_getElem?_getD, hjl, hj]

theorem ints_one (k : IntKind) (zs : List Int) : ∀ u ∈ zs.map (Value.int k), u.oneCell' = true := by
  intro u hu
  obtain ⟨z, _, rfl⟩ := List.mem_map.1 hu
  rfl

end Go.Proofs.Ytpikgmbjgfdcfaa

namespace Go.Proofs.Ytpikgmbjgfdcfaa
open Go.RowKit
set_option linter.unusedVariables false

theorem infoS : (Try.prog.info? 9).map (fun i => (i.zero, i.size, i.bytes)) = some (some (.string ⟨#[]⟩), 1, 16) := by kernel_rfl

end Go.Proofs.Ytpikgmbjgfdcfaa

namespace Go.Proofs.Ytpikgmbjgfdcfaa
open Go.RowKit
set_option linter.unusedVariables false

theorem wpList_app_rd {P : Program} {w : World} {ops : Array Oper} {rest : List Oper} {o : Oper} {a : Act} {Q : Exit → Act → World → Prop} (hgd : o.guard = none) (s x : Operand) (t : TypeId)
    (ho : o.op = .call { callee := .builtin .append, args := #[s, x], argTypes := #[t, t] })
    (base : Nat) (e : TypeId) (i : TypeInfo) (hu : P.underlying t = some (.slice e)) (hi : P.info? e = some i) (hz : i.zero = some (.int .u8 0)) (hsize : i.size = 1) (hby : i.bytes = 1)
    (v : Value) (n : Nat) (ys : List Int) (hs : a.eval s = v) (hown : w.ownsRow base e 1 v n (ys.map (Value.int .u8)))
    (xa : Option Addr) (m cap : Nat) (zs : List Int) (hx : a.eval x = .slice xa m cap) (hm : m = zs.length) (hr : Reads .u8 w xa zs)
    (N : Nat) (hN : n + m = N) (h63 : n + m ≤ maxLen) (hbytes : (n + m) * 1 ≤ 140737488355328) (hbase : base ≤ w.heap.size)
    (h : ∀ av cv w', w'.ownsRow base e 1 (.slice av N cv) N ((ys ++ zs).map (Value.int .u8)) → Kept (fun b => v.ownBlock = some b) w w' → wpList P ops Q rest (a.put o.dst (.slice av N cv)) w') :
    wpList P ops Q (o :: rest) a w := by
  cases xa with
  | some ad =>
    refine wpList_append_own _ hgd s x t ho base e i (.int .u8 0) 1 1 hu hi hz hsize hby rfl (by decide) _ n _ hs hown ad m cap (zs.map (Value.int .u8)) hx (by simp [hm]) (fun j u hj => ?_) (ints_one _ _) h63 hbytes hbase ?_
    · have h0 : zs ≠ [] := fun e => by subst e; simp at hj
      obtain ⟨b, off, e1, hb, hc⟩ := hr h0
      simp only [Option.some.injEq] at e1
      subst e1
      exact reads_news hc j u hj
    · intro v' w' ho' hg _
      rw [← List.map_append, hN] at ho'
      obtain ⟨av, cv, rfl⟩ := ownsRow_shape ho'
      exact h av cv w' ho' ⟨hg.os, hg.tape, hg.output, hg.size, fun q hq hn => hg.block q hq (fun e => hn e.symm)⟩
  | none =>
    have h0 : zs = [] := by
      by_cases h0 : zs = []
      · exact h0
      · obtain ⟨b, off, e1, _⟩ := hr h0; cases e1
    subst h0
    simp only [List.length_nil] at hm
    subst hm
    rw [Nat.add_zero] at hN
    subst hN
    obtain ⟨av, cv, rfl⟩ := ownsRow_shape hown
    have hc : n ≤ cv := ownsRow_cap hown
    have hrun : (Builtin.append_ #[t, t] o.type #[.slice av n cv, .slice none 0 cap]).run P w = .ok (.slice av n cv) w := by
      rcases hown.2 with ⟨h1, h2⟩ | ⟨g, cap', cur, h1, _⟩
      · simp only [Value.slice.injEq] at h1
        obtain ⟨rfl, rfl, rfl⟩ := h1
        simp [Builtin.append_, run_underlying hu, sizeOf, typeInfo, hi, Builtin.lenOf, Builtin.firstCells]
      · simp only [Value.slice.injEq] at h1
        obtain ⟨rfl, -, rfl⟩ := h1
        simp [Builtin.append_, run_underlying hu, sizeOf, typeInfo, hi, Builtin.lenOf, Builtin.firstCells, storeCells, hc]
    refine wpList_plain hgd fun K hK => ?_
    unfold Oper.wp execOp
    simp only [ho, resolve, invoke, builtin, Sem.run_bind, Sem.run_pure, Result.andThen_ok, List.map_toArray, List.map_cons, List.map_nil, hs, hx, hrun]
    exact hK _ _ (h _ _ w (by simpa using hown) (Kept.refl _ _))

abbrev Pq := Option Addr × List Int × Nat
def partsZ (ps : List Pq) : List Int := (ps.map (fun p => p.2.1)).flatten
theorem partsZ_step {ps : List Pq} {j : Nat} {p : Pq} (h : ps[j]? = some p) : partsZ (ps.take (j + 1)) = partsZ (ps.take j) ++ p.2.1 := by
  unfold partsZ; rw [List.take_add_one, h]; simp
theorem partsZ_le {ps : List Pq} (j : Nat) : (partsZ (ps.take j)).length ≤ (partsZ ps).length := by
  have : partsZ ps = partsZ (ps.take j) ++ partsZ (ps.drop j) := by unfold partsZ; rw [← List.flatten_append, ← List.map_append, List.take_append_drop]
  rw [this, List.length_append]; omega
set_option maxRecDepth 100000 in
set_option maxHeartbeats 3200000 in
theorem joinedR_any (g c : Nat) (ps : List Pq) (w : World) (hg : g < w.heap.size) (hcell : ∀ j p, ps[j]? = some p → w.cell? ⟨g, j, none⟩ = some (.slice p.1 p.2.1.length p.2.2)) (hrd : ∀ p ∈ ps, Reads .u8 w p.1 p.2.1) (hl : ps.length ≤ 1048576) (ht : (partsZ ps).length ≤ 1048576) :
    Calls Try.prog 45 #[.slice (some ⟨g, 0, none⟩) ps.length c] w fun e w' => ∃ a' c', e = .returned (.slice a' (partsZ ps).length c') ∧ GB w.heap.size w'.heap.size w' (.slice a' (partsZ ps).length c') (partsZ ps) ∧ Below w.heap.size w w' := by
  obtain ⟨i1, ki, kz0, kz1, kz2⟩ := info_parts Try.infoU8
  have HP := hide hcell
  have HL := hide hrd
  clear hcell hrd
  go_enter Try.func45, Try.ntmps45
  go_wp2_with fail
  go_loopw [3, 5, 8] (fun v _ i wr => ∃ j : Nat, j ≤ ps.length ∧ i = .int .i64 j ∧ Hid (wr.ownsRow w.heap.size 5 1 v (partsZ (ps.take j)).length ((partsZ (ps.take j)).map (Value.int .u8))) ∧ Hid (Below w.heap.size w wr)) (fun _ _ i _ => ps.length - (intOf i).toNat)
  case atStart => exact ⟨0, Nat.zero_le _, rfl, hide (World.ownsRow_nil _ _ _ _), hide (Below.refl _ _)⟩
  case round =>
    obtain ⟨j, hj, rfl, HO, HW⟩ := hrel
    obtain ⟨lv, lc, hv⟩ := ownsRow_shape HO.out
    subst hv
    by_cases hlt : j < ps.length
    · have he : ps[j]? = some (ps[j]'hlt) := List.getElem?_eq_getElem hlt
      generalize ps[j]'hlt = p at he
      obtain ⟨px, pbs, pcc⟩ := p
      have hpm := List.mem_of_getElem? he
      have HR := hide ((HL.out _ hpm).below HW.out)
      have hcn := (HW.out.cell (p := ⟨g, j, none⟩) hg).trans (HP.out j _ he)
      have HST := hide (partsZ_step he)
      have h1 := partsZ_le (ps := ps) (j + 1)
      rw [HST.out, List.length_append] at h1
      simp only at hcn h1 HR HST
      generalize partsZ (ps.take j) = ys at *
      have hsz := HW.out.size
      have hm1 : ys.length + pbs.length ≤ maxLen := by unfold maxLen; omega
      have hm2 : (ys.length + pbs.length) * 1 ≤ 140737488355328 := by omega
      clear he hpm
      go_wp2_with (at_builtin; refine wpList_app_rd rfl (.tmp 12) (.tmp 13) 22 rfl w.heap.size 5 i1 Try.underlying22 ki kz0 kz1 kz2 _ _ ys rfl HO.out px _ pcc pbs rfl rfl HR.out _ rfl hm1 hm2 hsz ?_; intro av cv w3 hown2 hkept; have O2 := hide hown2; have K2 := hide hkept; clear hown2 hkept)
      go_roundw
      case rel => exact ⟨j + 1, by omega, by go_num, by rw [HST.out, List.length_append]; exact O2, hide (Kept.below_own HW.out hsz HO.out K2.out)⟩
      case measure => simp [intOf]; omega
    · have hke : ps.take j = ps := List.take_of_length_le (by omega)
      rw [hke] at HO ⊢
      clear hke
      go_wp2_with fail
      go_ret
      exact ⟨_, _, rfl, GB.mk HO.out rfl, HW.out⟩

theorem hearS (zs : List Int) (w : World) (hl : zs.length ≤ 1048576) : Hears 52 #[] (lines zs) w (fun k v wr => k ≤ (lines zs).length ∧ OwnS w.heap.size wr v ((lines zs).take k) ∧ Below w.heap.size w wr) where
  enter := enters_of Try.func52 (by kernel_rfl) rfl
  next := by
    intro k l v wr hk ⟨h1, h2, h3⟩
    obtain ⟨i1, ki, kz0, kz1, kz2⟩ := info_parts infoS
    have hlen := lines_count zs
    have hk' := (List.getElem?_eq_some_iff.1 hk).1
    have hsz := h3.size
    obtain ⟨va, vc, rfl⟩ := h2.shape
    have hlt : ((lines zs).take k).length = k := by rw [List.length_take]; omega
    have HO := hide h2
    have HB := hide h3
    have HT : Hid ((lines zs).take (k + 1) = (lines zs).take k ++ [l]) := hide (by rw [List.take_add_one, hk]; rfl)
    generalize (lines zs).take k = q at *
    have hm1 : q.length + 1 ≤ maxLen := by unfold maxLen; omega
    have hm2 : (q.length + 1) * 16 ≤ 140737488355328 := by omega
    clear h2 h3 hk
    go_enter Try.func52, Try.ntmps52
    go_wp2_with (at_builtin; refine wpList_append_one rfl (.tmp 5) (.tmp 7) 31 rfl w.heap.size 9 i1 (.string ⟨#[]⟩) 1 16 Try.underlying31 ki kz0 kz1 kz2 rfl (by decide) _ _ _ rfl HO.out rfl rfl (by intro u hu; simp at hu; subst hu; rfl) hm1 hm2 hsz ?_; intro v' w2 hown2 hkept; have O2 := hide hown2; have K2 := hide hkept; clear hown2 hkept)
    go_ret
    exact ⟨_, rfl, by omega, by rw [HT.out]; exact OwnS.snoc O2.out rfl, Kept.below_own HB.out hsz HO.out K2.out⟩
  still := fun k v u u' ⟨h1, h2, h3⟩ hb => ⟨h1, h2.below hb, below_next h3 hb⟩
  old := fun k v u h => h.2.2
theorem hearN (zs : List Int) (w : World) (hl : zs.length ≤ 1048576) : Hears 69 #[] (lines zs) w (fun k v wr => v = .int .i64 (endL ((lines zs).take k)) ∧ Below w.heap.size w wr) where
  enter := enters_of Try.func69 (by kernel_rfl) rfl
  next := by
    intro k l v wr hk ⟨h1, h3⟩
    subst h1
    have HB := hide h3
    have he := end_le zs
    have HT : Hid (endL ((lines zs).take (k + 1)) = endL ((lines zs).take k) + (l.length + 5)) := hide (by rw [List.take_add_one, hk, endL_app]; simp [endL])
    have hle : endL ((lines zs).take k) + (l.length + 5) ≤ endL (lines zs) := by
      rw [← HT.out]
      conv => rhs; rw [← List.take_append_drop (k + 1) (lines zs), endL_app]
      omega
    have hsl : (strB l).size = l.length := strB_size l
    generalize endL ((lines zs).take k) = q at *
    clear h3 hk
    go_enter Try.func69, Try.ntmps69
    go_wp2_with fail
    go_ret
    exact ⟨_, rfl, by rw [HT.out]; go_num, HB.out⟩
  still := fun k v u u' ⟨h1, h3⟩ hb => ⟨h1, below_next h3 hb⟩
  old := fun k v u h => h.2
theorem hearC (c0 : Nat) (zs : List Int) (w : World) (hl : zs.length ≤ 1048576) (h0 : c0 ≤ 1048576) : Hears 66 #[] (lines zs) w (fun k v wr => k ≤ (lines zs).length ∧ v = .int .i64 ((c0 + k : Nat) : Int) ∧ Below w.heap.size w wr) where
  enter := enters_of Try.func66 (by kernel_rfl) rfl
  next := by
    intro k l v wr hk ⟨h2, h1, h3⟩
    subst h1
    have HB := hide h3
    have hlen := lines_count zs
    have hk' := (List.getElem?_eq_some_iff.1 hk).1
    clear h3 hk
    go_enter Try.func66, Try.ntmps66
    go_wp2_with fail
    go_ret
    exact ⟨_, rfl, by omega, by go_num, HB.out⟩
  still := fun k v u u' ⟨h2, h1, h3⟩ hb => ⟨h2, h1, below_next h3 hb⟩
  old := fun k v u h => h.2.2
end Go.Proofs.Ytpikgmbjgfdcfaa

namespace Go.Proofs.Ytpikgmbjgfdcfaa
open Go.RowKit
set_option linter.unusedVariables false

def wholeZ (zs : List Int) : Bool := decide (endL (lines zs) = zs.length)
theorem wholeZ_iff {zs : List Int} : wholeZ zs = true ↔ Whole zs := by simp [wholeZ, Whole]
def logF (S L : List Int) : Int := if S.length + L.length ≤ 2000 then (if wholeZ S && wholeZ L then 0 else 5) else 2
def ResN' (q : Int) (ps : List Bs) (w : World) (r : Ending) (w' : World) : Prop :=
  ∃ a c, r = .returned (.agg #[.int .i64 q, .slice a ps.length c]) ∧ OwnS w.heap.size w' (.slice a ps.length c) ps ∧ Below w.heap.size w w'
def readQ (zs : List Int) : Int := if zs.length ≤ 2000 then 0 else 2
def readL (zs : List Int) : List Bs := if zs.length ≤ 2000 then lines zs else []

set_option maxRecDepth 100000 in
set_option maxHeartbeats 1600000 in
theorem implReadLines_any (a : Option Addr) (c : Nat) (zs : List Int) (w : World) (h : Reads .u8 w a zs) (hu : U8 zs) (hc : zs.length ≤ c) (hl : zs.length ≤ 1048576) :
    Calls Try.prog 13 #[.slice a zs.length c] w (ResN' (readQ zs) (readL zs) w) := by
  by_cases hb : zs.length ≤ 2000
  · have e1 : readQ zs = 0 := if_pos hb
    have e2 : readL zs = lines zs := if_pos hb
    rw [e1, e2]
    have hb' : ¬ (2000 : Int) < (zs.length : Int) := by omega
    have X0 := hide (Box.new w (.int .i64 0) (.slice none 0 0) 33)
    have A0 := hide (below_alloc w (.cells #[.int .i64 0, .slice none 0 0] 33))
    have HC := hide (tellS_any a c zs (.slice none 0 0) 52 #[] _ (w.alloc (.cells #[.int .i64 0, .slice none 0 0] 33)) (h.below A0.out) hu hc hl (hearS zs (w.alloc (.cells #[.int .i64 0, .slice none 0 0] 33)) hl) ⟨Nat.zero_le _, OwnS.nil _ _, Below.refl _ _⟩)
    clear h hu e1 e2 hb
    go_enter Try.func13, Try.ntmps13
    go_wp2_with fail
    refine HC.out.mono ?_
    rintro e w1 ⟨v1, rfl, -, ho, hb1⟩
    rw [List.take_length] at ho
    obtain ⟨va, vc, rfl⟩ := ho.shape
    have HO := hide ho
    have HB1 := hide hb1
    have HB := hide (below_next A0.out hb1)
    obtain ⟨⟨t0, t1⟩, t2, t3⟩ := X0.out.below hb1
    clear ho hb1
    go_wp2_with fail
    refine bodyPost_ret (v := .agg #[.int .i64 0, .slice va (lines zs).length vc]) (by simp [results, Try.results13, go_sem, t0, t1]) rfl ⟨va, vc, rfl, ?_, (HB.out.setCell (Nat.le_refl _) _).setCell (Nat.le_refl _) _⟩
    exact OwnS.mono (ownsRow_kept (S := fun b => b = w.heap.size) HO.out (Kept.two w1 w.heap.size 0 1 (.int .i64 0) (.slice va (lines zs).length vc)) (fun b hb e => by have := (World.ownsRow.lt HO.out b hb).1; simp at this; omega)) (by simp)
  · have e1 : readQ zs = 2 := if_neg hb
    have e2 : readL zs = [] := if_neg hb
    rw [e1, e2]
    have hb' : (2000 : Int) < (zs.length : Int) := by omega
    clear h hu e1 e2 hb
    go_enter Try.func13, Try.ntmps13
    go_wp2_with fail
    exact bodyPost_ret (v := .agg #[.int .i64 2, .slice none 0 0]) (by simp [results, Try.results13, go_sem]) rfl ⟨none, 0, rfl, OwnS.nil _ _, by first | exact below_alloc _ _ | exact (Below.refl _ _).alloc (Nat.le_refl _) _ | exact ((below_alloc _ _).setCell (Nat.le_refl _) _).setCell (Nat.le_refl _) _⟩

def Box4r (w : World) (b : Nat) (u0 u1 u2 u3 : Value) : Prop := (w.cell? ⟨b, 0, none⟩ = some u0 ∧ w.cell? ⟨b, 1, none⟩ = some u1 ∧ w.cell? ⟨b, 2, none⟩ = some u2 ∧ w.cell? ⟨b, 3, none⟩ = some u3) ∧ ∀ i, w.frozen? ⟨b, i, none⟩ = false
theorem Box4r.new (w : World) (u0 u1 u2 u3 : Value) (t : TypeId) : Box4r (w.alloc (.cells #[u0, u1, u2, u3] t)) w.heap.size u0 u1 u2 u3 := ⟨⟨by simp, by simp, by simp, by simp⟩, fun i => by simp⟩
theorem Box4r.below {w w' : World} {b : Nat} {u0 u1 u2 u3 : Value} (h : Box4r w b u0 u1 u2 u3) (hk : Below w.heap.size w w') : Box4r w' b u0 u1 u2 u3 := by
  obtain ⟨⟨h0, h1, h2, h3⟩, hf⟩ := h
  have hb : b < w.heap.size := World.block_lt_of_cell? w ⟨b, 0, none⟩ h0
  exact ⟨⟨(hk.cell (p := ⟨b, 0, none⟩) hb).trans h0, (hk.cell (p := ⟨b, 1, none⟩) hb).trans h1, (hk.cell (p := ⟨b, 2, none⟩) hb).trans h2, (hk.cell (p := ⟨b, 3, none⟩) hb).trans h3⟩, fun i => (hk.frozen (p := ⟨b, i, none⟩) hb).trans (hf i)⟩
theorem Kept.four4 (w : World) (b : Nat) (u0 u1 u2 u3 : Value) : Kept (fun x => x = b) w ((((w.setCell ⟨b, 0, none⟩ u0).setCell ⟨b, 1, none⟩ u1).setCell ⟨b, 2, none⟩ u2).setCell ⟨b, 3, none⟩ u3) :=
  Kept.setCell (S := fun x => x = b) (p := ⟨b, 3, none⟩) (Kept.setCell (S := fun x => x = b) (p := ⟨b, 2, none⟩) (Kept.setCell (S := fun x => x = b) (p := ⟨b, 1, none⟩) (Kept.setCell (S := fun x => x = b) (p := ⟨b, 0, none⟩) (Kept.refl _ w) (fun _ => rfl) u0) (fun _ => rfl) u1) (fun _ => rfl) u2) (fun _ => rfl) u3
theorem below_four {w w' : World} {B b : Nat} (h : Below B w w') (hb : B ≤ b) (u0 u1 u2 u3 : Value) : Below B w ((((w'.setCell ⟨b, 0, none⟩ u0).setCell ⟨b, 1, none⟩ u1).setCell ⟨b, 2, none⟩ u2).setCell ⟨b, 3, none⟩ u3) :=
  (((h.setCell (p := ⟨b, 0, none⟩) hb _).setCell (p := ⟨b, 1, none⟩) hb _).setCell (p := ⟨b, 2, none⟩) hb _).setCell (p := ⟨b, 3, none⟩) hb _
set_option maxRecDepth 100000 in
set_option maxHeartbeats 1600000 in
theorem wholeLines_any (a : Option Addr) (c : Nat) (zs : List Int) (w : World) (h : Reads .u8 w a zs) (hu : U8 zs) (hc : zs.length ≤ c) (hl : zs.length ≤ 1048576) :
    Calls Try.prog 46 #[.slice a zs.length c] w fun e w' => ∃ a' c', e = .returned (.slice a' (endL (lines zs)) c') ∧ (∀ u, Reads .u8 u a zs → Reads .u8 u a' (zs.take (endL (lines zs)))) ∧ Below w.heap.size w w' := by
  have hle := end_le zs
  have HC := hide (tellN_any a c zs (.int .i64 0) 69 #[] _ w h hu hc hl (hearN zs w hl) ⟨rfl, Below.refl _ _⟩)
  rw [List.take_length] at HC
  by_cases hz : zs = []
  · subst hz
    have HE := hide (fun (u : World) (a' : Option Addr) => show Reads .u8 u a' [] from fun h => absurd rfl h)
    clear hu h hle
    have HC' : Hid (Calls Try.prog 68 #[.slice a 0 c, .int .i64 0, .func (.func 69) #[] #[]] w fun e w' => ∃ v', e = .returned v' ∧ v' = .int .i64 0 ∧ Below w.heap.size w w') := hide HC.out
    clear HC
    show Calls Try.prog 46 #[.slice a 0 c] w fun e w' => ∃ a' c', e = .returned (.slice a' 0 c') ∧ (∀ u, Reads .u8 u a [] → Reads .u8 u a' []) ∧ Below w.heap.size w w'
    cases a with
    | none =>
      go_enter Try.func46, Try.ntmps46
      go_wp2_with fail
      refine HC'.out.mono ?_
      rintro e w1 ⟨v1, rfl, rfl, hb1⟩
      have HB := hide hb1
      clear hb1
      go_wp2_with fail
      go_ret
      exact ⟨_, _, rfl, fun u _ => HE.out u _, HB.out⟩
    | some ad =>
      go_enter Try.func46, Try.ntmps46
      go_wp2_with fail
      refine HC'.out.mono ?_
      rintro e w1 ⟨v1, rfl, rfl, hb1⟩
      have HB := hide hb1
      clear hb1
      go_wp2_with fail
      go_ret
      exact ⟨_, _, rfl, fun u _ => HE.out u _, HB.out⟩
  · obtain ⟨b, off, rfl, -, -⟩ := h hz
    have HE := hide (fun (u : World) (hr : Reads .u8 u (some ⟨b, off, none⟩) zs) => reads_part hr 0 (endL (lines zs)) (by omega))
    have hx : endL (lines zs) ≤ c := by omega
    generalize endL (lines zs) = E at *
    clear h hu
    go_enter Try.func46, Try.ntmps46
    go_wp2_with fail
    refine HC.out.mono ?_
    rintro e w1 ⟨v1, rfl, rfl, hb1⟩
    have HB := hide hb1
    clear hb1
    go_wp2_with fail
    go_ret
    exact ⟨_, _, rfl, fun u hr => HE.out u hr, HB.out⟩
set_option maxHeartbeats 800000 in
theorem isAllLines_any (a : Option Addr) (c : Nat) (zs : List Int) (w : World) (h : Reads .u8 w a zs) (hu : U8 zs) (hc : zs.length ≤ c) (hl : zs.length ≤ 1048576) :
    Calls Try.prog 54 #[.slice a zs.length c] w fun e w' => e = .returned (.bool (wholeZ zs)) ∧ Below w.heap.size w w' := by
  have HC := hide (wholeLines_any a c zs w h hu hc hl)
  have hle := end_le zs
  have hd : wholeZ zs = ((endL (lines zs) : Int) == (zs.length : Int)) := by
    unfold wholeZ
    rw [Bool.eq_iff_iff]; simp; omega
  rw [hd]
  generalize endL (lines zs) = E at *
  clear h hu hd
  go_enter Try.func54, Try.ntmps54
  go_wp2_with fail
  refine HC.out.mono ?_
  rintro e w1 ⟨a', c', rfl, -, hb1⟩
  have HB := hide hb1
  clear hb1
  go_wp2_with fail
  go_ret
  exact ⟨rfl, HB.out⟩
set_option maxHeartbeats 800000 in
theorem isTooLong_any (sa la : Option Addr) (sc lc n m : Nat) (w : World) (hn : n ≤ 1048576) (hm : m ≤ 1048576) :
    Calls Try.prog 53 #[.agg #[.slice sa n sc, .slice la m lc]] w fun e w' => e = .returned (.bool (decide (2000 < n + m))) ∧ Below w.heap.size w w' := by
  have hd : decide (2000 < n + m) = decide (2000 - (n : Int) < (m : Int)) := by apply decide_eq_decide.2; omega
  rw [hd]
  go_enter Try.func53, Try.ntmps53
  go_wp2_with fail
  go_ret
  exact ⟨rfl, below_alloc _ _⟩
theorem countC_any (a : Option Addr) (c c0 : Nat) (zs : List Int) (w : World) (h : Reads .u8 w a zs) (hu : U8 zs) (hc : zs.length ≤ c) (hl : zs.length ≤ 1048576) (h0 : c0 ≤ 1048576) :
    Calls Try.prog 67 #[.slice a zs.length c, .int .i64 (c0 : Int), .func (.func 66) #[] #[]] w fun e w' => e = .returned (.int .i64 ((c0 + (lines zs).length : Nat) : Int)) ∧ Below w.heap.size w w' := by
  refine (tellC_any a c zs (.int .i64 (c0 : Int)) 66 #[] _ w h hu hc hl (hearC c0 zs w hl h0) ⟨Nat.zero_le _, by simp, Below.refl _ _⟩).mono ?_
  rintro e w' ⟨v, rfl, -, rfl, hb⟩
  exact ⟨rfl, hb⟩
set_option maxRecDepth 100000 in
set_option maxHeartbeats 400000 in
theorem counted_any (sa la : Option Addr) (sc lc : Nat) (S L : List Int) (w : World) (hs : Reads .u8 w sa S) (hl : Reads .u8 w la L) (us : U8 S) (ul : U8 L) (cs : S.length ≤ sc) (cl : L.length ≤ lc) (ns : S.length ≤ 1048576) (nl : L.length ≤ 1048576) :
    Calls Try.prog 44 #[.agg #[.slice sa S.length sc, .slice la L.length lc]] w fun e w' => e = .returned (.agg #[.int .i64 0, .int .i64 (((lines S).length + (lines L).length : Nat) : Int), .slice sa S.length sc, .slice la L.length lc]) ∧ Below w.heap.size w w' := by
  have hcs := lines_count S
  have A0 := hide (below_alloc w (.cells #[.slice sa S.length sc, .slice la L.length lc] 25))
  have A1 := hide (below_alloc (w.alloc (.cells #[.slice sa S.length sc, .slice la L.length lc] 25)) (.cells #[.int .i64 0, .int .i64 0, .slice none 0 0, .slice none 0 0] 29))
  have B0 := hide (below_next A0.out A1.out)
  have T0 := hide ((Two.new w (.slice sa S.length sc) (.slice la L.length lc) 25).below A1.out)
  have C1 := hide (fun (u : World) (hb : Below w.heap.size w u) => countC_any sa sc 0 S u (hs.below hb) us cs ns (by omega))
  have C2 := hide (fun (u : World) (hb : Below w.heap.size w u) => countC_any la lc (lines S).length L u (hl.below hb) ul cl nl (by omega))
  rw [Nat.zero_add] at C1
  generalize (lines S).length = p at *
  generalize (lines L).length = q at *
  clear hs hl us ul cs cl
  go_enter Try.func44, Try.ntmps44
  go_wp2_with fail
  have HK := hide (fun (u : World) (hb : Below ((w.alloc (.cells #[.slice sa S.length sc, .slice la L.length lc] 25)).alloc (.cells #[.int .i64 0, .int .i64 0, .slice none 0 0, .slice none 0 0] 29)).heap.size ((w.alloc (.cells #[.slice sa S.length sc, .slice la L.length lc] 25)).alloc (.cells #[.int .i64 0, .int .i64 0, .slice none 0 0, .slice none 0 0] 29)) u) => T0.out.below hb)
  unfold Two at HK
  have X4 := hide (show _ from Box4r.new (w.alloc (.cells #[.slice sa S.length sc, .slice la L.length lc] 25)) (.int .i64 0) (.int .i64 0) (.slice none 0 0) (.slice none 0 0) 29)
  have hz1 : (w.alloc (.cells #[.slice sa S.length sc, .slice la L.length lc] 25)).heap.size = w.heap.size + 1 := by simp
  rw [hz1] at X4
  have hz2 : ((w.alloc (.cells #[.slice sa S.length sc, .slice la L.length lc] 25)).alloc (.cells #[.int .i64 0, .int .i64 0, .slice none 0 0, .slice none 0 0] 29)).heap.size = w.heap.size + 2 := by simp
  generalize (w.alloc (.cells #[.slice sa S.length sc, .slice la L.length lc] 25)).alloc (.cells #[.int .i64 0, .int .i64 0, .slice none 0 0, .slice none 0 0] 29) = W0 at *
  have HZ2 := hide hz2
  clear hz1 hz2 A0 A1 T0
  obtain ⟨k0, k1⟩ := HK.out W0 (Below.refl _ _)
  go_region_held3 (fun u => u.cell? ⟨w.heap.size, 0, none⟩ = some (.slice sa S.length sc) ∧ u.cell? ⟨w.heap.size, 1, none⟩ = some (.slice la L.length lc)) (first | exact HK.out _ BB2.out | exact HK.out _ BB1.out | exact HK.out _ (Below.refl _ _).drew | go_keep)
    ((first
      | (go_at_call 67; have BX := BB1; clear BX; refine (C2.out _ (below_next B0.out BB1.out)).mono ?_; rintro r wr2 ⟨rfl, hb7⟩; have BB2 := hide (below_next BB1.out hb7); clear hb7; obtain ⟨⟨x0, x1, x2, x3⟩, xf⟩ := X4.out.below BB2.out; have xf0 := xf 0; have xf1 := xf 1; have xf2 := xf 2; have xf3 := xf 3; clear xf)
      | (go_at_call 67; refine (C1.out _ (below_next B0.out (Below.refl _ _).drew)).mono ?_; rintro r wr1 ⟨rfl, hb6⟩; have BB1 := hide ((Below.refl W0.heap.size W0).drew.trans hb6); clear hb6)))
  have HB2 := hide (below_next B0.out BB2.out)
  obtain ⟨⟨y0, y1, y2, y3⟩, -⟩ := X4.out.below BB2.out
  go_wp2_with fail
  refine bodyPost_ret (v := .agg #[.int .i64 0, .int .i64 ((p + q : Nat) : Int), .slice sa S.length sc, .slice la L.length lc]) (by simp [results, Try.results44, go_sem, y0, y1, y2, y3]) rfl ⟨rfl, ?_⟩
  exact below_four HB2.out (by omega) _ _ _ _
end Go.Proofs.Ytpikgmbjgfdcfaa

