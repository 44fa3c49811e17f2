/-
  Texts put together: IteH TreJ.
-/
import Derived.Test.YtebgfaohhhgdpaaGreatKMounts3
import Derived.Test.YtebgfaohhhgdpaaGreatKMounts6
import Derived.Test.YtebgfaohhhgdpaaGreatKMounts16
import Derived.Test.YtebgfaohhhgdpaaGreatKMounts21
namespace Go.Proofs.YtebgfaohhhgdpaaGreat
open Go.RowKit
set_option linter.unusedVariables false

set_option maxHeartbeats 800000 in
theorem equal_any (a b : Option Addr) (ca cb : Nat) (xs ys : List Int) (w : World) (ha : Reads .i64 w a xs) (hb : Reads .i64 w b ys) (hl : xs.length ≤ 1048576) (hl2 : ys.length ≤ 1048576) :
    Calls Tryz.prog 155 #[.slice a xs.length ca, .slice b ys.length cb] w fun e w' => e = .returned (.bool (xs == ys)) ∧ ∃ n, w' = w.drewN n := by
  by_cases hlen : xs.length = ys.length
  · have hne : ((xs.length : Int) != (ys.length : Int)) = false := by simp [hlen]
    go_enter Tryz.func155, Tryz.ntmps155
    go_wp2
    go_loopw [13] (fun i wr => ∃ k : Nat, k ≤ xs.length ∧ i = .int .i64 k ∧ xs.take k = ys.take k ∧ ∃ n, wr = w.drewN n) (fun i _ => xs.length - (intOf i).toNat)
    case atStart => exact ⟨0, Nat.zero_le _, rfl, rfl, 0, rfl⟩
    case round =>
      obtain ⟨k, hk, rfl, htk, n, rfl⟩ := hrel
      have HT := hide htk
      clear htk
      by_cases hlt : k < xs.length
      · obtain ⟨b1, o1, rfl, hb1, hc1⟩ := ha (by intro e; simp [e] at hlt)
        obtain ⟨b2, o2, rfl, hb2, hc2⟩ := hb (by intro e; rw [e] at hlen; simp at hlen; simp [hlen] at hlt)
        obtain ⟨x, hx⟩ : ∃ x, x = xs.getD k 0 := ⟨_, rfl⟩
        obtain ⟨y, hy⟩ : ∃ y, y = ys.getD k 0 := ⟨_, rfl⟩
        have c1 : w.cell? ⟨b1, o1 + k, none⟩ = some (.int .i64 x) := by rw [hx]; exact hc1 k hlt
        have c2 : w.cell? ⟨b2, o2 + k, none⟩ = some (.int .i64 y) := by rw [hy]; exact hc2 k (by omega)
        have HX := hide hx
        have HY := hide hy
        clear hc1 hc2 ha hb hx hy
        have hk2 : k < ys.length := by omega
        by_cases heq : x = y
        · have hb : (x != y) = false := by simp [heq]
          have HE := hide heq
          clear heq
          go_wp2
          go_quiet (fail)
          go_wp2
          go_roundw
          case rel => exact ⟨k + 1, by omega, by go_num, take_eq_step hlt hk2 HT.out (by rw [← HX.out, ← HY.out]; exact HE.out), _, rfl⟩
          case measure => simp [intOf]; omega
        · have hb : (x != y) = true := by simp [heq]
          go_wp2
          go_quiet (fail)
          go_wp2
          go_ret
          exact ⟨ret_bool (ne_of_getD (k := k) (by rw [← HX.out, ← HY.out]; exact heq)).symm, _, World.drewN_drewN _ _ _⟩
      · go_wp2
        go_ret
        exact ⟨ret_bool (eq_of_take (k := k) (by omega) (by omega) HT.out).symm, _, rfl⟩
  · have hne : ((xs.length : Int) != (ys.length : Int)) = true := by simp; omega
    go_enter Tryz.func155, Tryz.ntmps155
    go_wp2
    go_ret
    have e : (xs == ys) = false := by simp; intro e; exact hlen (by rw [e])
    exact ⟨ret_bool e.symm, 0, rfl⟩

set_option maxHeartbeats 800000 in
theorem sameBytes_any (z y : Int) (a b : Option Addr) (ca cb : Nat) (xs ys : List Int) (w : World) (ha : Reads .i64 w a xs) (hb : Reads .i64 w b ys) (hl : xs.length ≤ 1048576) (hl2 : ys.length ≤ 1048576) :
    Calls Tryz.prog 107 #[.agg #[.int .i64 z, .slice a xs.length ca], .agg #[.int .i64 y, .slice b ys.length cb]] w fun e w' => e = .returned (.bool (decide (z = y) && (xs == ys))) ∧ Below w.heap.size w w' := by
  have HB := hide (below_next (below_alloc w (.cells #[.int .i64 z, .slice a xs.length ca] 64)) (below_alloc _ (.cells #[.int .i64 y, .slice b ys.length cb] 64)))
  have HR := hide ha
  have HR2 := hide hb
  clear ha hb
  by_cases h : z = y
  · have hb : (z == y) = true := by simp [h]
    have HE := hide (show (decide (z = y) && (xs == ys)) = (xs == ys) from by simp [h])
    clear h
    rw [HE.out]
    obtain ⟨Z, hZ⟩ : ∃ Z : Bool, Z = (xs == ys) := ⟨_, rfl⟩
    rw [← hZ]
    have HZ := hide hZ
    clear hZ HE
    go_enter Tryz.func107, Tryz.ntmps107
    go_wp2_with fail
    refine (equal_any a b ca cb xs ys _ (HR.out.below HB.out) (HR2.out.below HB.out) hl hl2).mono ?_
    rintro r w1 ⟨rfl, n, rfl⟩
    rw [← HZ.out]
    go_wp2_with fail
    cases Z
    · go_ret
      exact ⟨rfl, below_drewN HB.out n⟩
    · go_ret
      exact ⟨rfl, below_drewN HB.out n⟩
  · have hb : (z == y) = false := by simp [h]
    have HE := hide (show (decide (z = y) && (xs == ys)) = false from by simp [h])
    clear h
    rw [HE.out]
    go_enter Tryz.func107, Tryz.ntmps107
    go_wp2_with fail
    go_ret
    exact ⟨rfl, HB.out⟩

set_option maxHeartbeats 800000 in
theorem same_any (e f : En) (a b : Option Addr) (ca cb : Nat) (w : World) (ha : Reads .i64 w a e.chunks) (hb : Reads .i64 w b f.chunks) (hl : e.chunks.length ≤ 1048576) (hl2 : f.chunks.length ≤ 1048576) :
    Calls Tryz.prog 56 #[.agg #[.int .i64 e.size, .slice a e.chunks.length ca, .string (str e.path), .int .i64 e.kind], .agg #[.int .i64 f.size, .slice b f.chunks.length cb, .string (str f.path), .int .i64 f.kind]] w fun r w' => r = .returned (.bool (decide (e = f))) ∧ Below w.heap.size w w' := by
  have HB := hide (below_next (below_alloc w (.cells #[.int .i64 e.size, .slice a e.chunks.length ca, .string (str e.path), .int .i64 e.kind] 66)) (below_alloc _ (.cells #[.int .i64 f.size, .slice b f.chunks.length cb, .string (str f.path), .int .i64 f.kind] 66)))
  have HR := hide ha
  have HR2 := hide hb
  clear ha hb
  by_cases hp : e.path = f.path
  · have hs1 := str_yes hp
    by_cases hk : e.kind = f.kind
    · have hk1 : (e.kind == f.kind) = true := by simp [hk]
      have HE := hide (show decide (e = f) = (decide (e.size = f.size) && (e.chunks == f.chunks)) from by
        by_cases h1 : e.size = f.size
        · by_cases h2 : e.chunks = f.chunks
          · rw [decide_eq_true (En.same hp hk h1 h2)]; simp [h1, h2]
          · rw [decide_eq_false (fun x => h2 (by rw [x]))]; simp [h2]
        · rw [decide_eq_false (fun x => h1 (by rw [x]))]; simp [h1])
      clear hp hk
      generalize decide (e = f) = Z at HE ⊢
      go_enter Tryz.func56, Tryz.ntmps56
      go_wp2_with fail
      refine (sameBytes_any _ _ a b ca cb e.chunks f.chunks _ (HR.out.below HB.out) (HR2.out.below HB.out) hl hl2).mono ?_
      rintro r w1 ⟨rfl, hb1⟩
      rw [← HE.out]
      have HB1 := hide (below_next HB.out hb1)
      clear hb1 HE
      go_wp2_with fail
      cases Z
      · go_ret
        exact ⟨rfl, HB1.out⟩
      · go_ret
        exact ⟨rfl, HB1.out⟩
    · have hk1 : (e.kind == f.kind) = false := by simp [hk]
      have HE := hide (show decide (e = f) = false from decide_eq_false (fun x => hk (by rw [x])))
      clear hp hk
      generalize decide (e = f) = Z at HE ⊢
      go_enter Tryz.func56, Tryz.ntmps56
      go_wp2_with fail
      go_ret
      exact ⟨ret_bool HE.out.symm, HB.out⟩
  · have hs1 := str_no hp
    have HE := hide (show decide (e = f) = false from decide_eq_false (fun x => hp (by rw [x])))
    clear hp
    generalize decide (e = f) = Z at HE ⊢
    go_enter Tryz.func56, Tryz.ntmps56
    go_wp2_with fail
    go_ret
    exact ⟨ret_bool HE.out.symm, HB.out⟩

set_option maxHeartbeats 1600000 in
theorem sameLit_any (e f : En) (a b : Option Addr) (ca cb : Nat) (w : World) (ha : Reads .i64 w a e.chunks) (hb : Reads .i64 w b f.chunks) (hl : e.chunks.length ≤ 1048576) (hl2 : f.chunks.length ≤ 1048576) :
    Calls Tryz.prog 55 #[.agg #[.string (str e.path), .int .i64 e.kind, .int .i64 e.size, .slice a e.chunks.length ca], .agg #[.string (str f.path), .int .i64 f.kind, .int .i64 f.size, .slice b f.chunks.length cb]] w fun r w' => r = .returned (.bool (decide (e = f))) ∧ Below w.heap.size w w' := by
  have HB := hide (below_next (below_alloc w (.cells #[.string (str e.path), .int .i64 e.kind, .int .i64 e.size, .slice a e.chunks.length ca] 53)) (below_alloc _ (.cells #[.string (str f.path), .int .i64 f.kind, .int .i64 f.size, .slice b f.chunks.length cb] 53)))
  have F1 := hide ((Four.new w (.string (str e.path)) (.int .i64 e.kind) (.int .i64 e.size) (.slice a e.chunks.length ca) 53).below (below_alloc _ (.cells #[.string (str f.path), .int .i64 f.kind, .int .i64 f.size, .slice b f.chunks.length cb] 53)))
  have F2 := hide (Four.new (w.alloc (.cells #[.string (str e.path), .int .i64 e.kind, .int .i64 e.size, .slice a e.chunks.length ca] 53)) (.string (str f.path)) (.int .i64 f.kind) (.int .i64 f.size) (.slice b f.chunks.length cb) 53)
  have h1 : (w.alloc (.cells #[.string (str e.path), .int .i64 e.kind, .int .i64 e.size, .slice a e.chunks.length ca] 53)).heap.size = w.heap.size + 1 := by simp
  rw [h1] at F2
  clear h1
  have HR := hide (ha.below HB.out)
  have HR2 := hide (hb.below HB.out)
  clear ha hb
  obtain ⟨Z, hZ⟩ : ∃ Z : Bool, Z = decide (e = f) := ⟨_, rfl⟩
  rw [← hZ]
  have HZ := hide hZ
  clear hZ
  go_enter Tryz.func55, Tryz.ntmps55
  go_wp2_with fail
  generalize (w.alloc (.cells #[.string (str e.path), .int .i64 e.kind, .int .i64 e.size, .slice a e.chunks.length ca] 53)).alloc (.cells #[.string (str f.path), .int .i64 f.kind, .int .i64 f.size, .slice b f.chunks.length cb] 53) = W at *
  have KC : Hid (∀ w' : World, Below W.heap.size W w' → (w'.cell? ⟨w.heap.size, 0, none⟩ = some (.string (str e.path)) ∧ w'.cell? ⟨w.heap.size, 1, none⟩ = some (.int .i64 e.kind) ∧ w'.cell? ⟨w.heap.size, 2, none⟩ = some (.int .i64 e.size) ∧ w'.cell? ⟨w.heap.size, 3, none⟩ = some (.slice a e.chunks.length ca)) ∧ w'.cell? ⟨w.heap.size + 1, 0, none⟩ = some (.string (str f.path)) ∧ w'.cell? ⟨w.heap.size + 1, 1, none⟩ = some (.int .i64 f.kind) ∧ w'.cell? ⟨w.heap.size + 1, 2, none⟩ = some (.int .i64 f.size) ∧ w'.cell? ⟨w.heap.size + 1, 3, none⟩ = some (.slice b f.chunks.length cb)) := hide (fun w' hb => ⟨F1.out.below hb, F2.out.below hb⟩)
  obtain ⟨p0, p1, p2, p3⟩ := F1.out
  obtain ⟨q0, q1, q2, q3⟩ := F2.out
  go_region_held3 (fun w' => (w'.cell? ⟨w.heap.size, 0, none⟩ = some (.string (str e.path)) ∧ w'.cell? ⟨w.heap.size, 1, none⟩ = some (.int .i64 e.kind) ∧ w'.cell? ⟨w.heap.size, 2, none⟩ = some (.int .i64 e.size) ∧ w'.cell? ⟨w.heap.size, 3, none⟩ = some (.slice a e.chunks.length ca)) ∧ w'.cell? ⟨w.heap.size + 1, 0, none⟩ = some (.string (str f.path)) ∧ w'.cell? ⟨w.heap.size + 1, 1, none⟩ = some (.int .i64 f.kind) ∧ w'.cell? ⟨w.heap.size + 1, 2, none⟩ = some (.int .i64 f.size) ∧ w'.cell? ⟨w.heap.size + 1, 3, none⟩ = some (.slice b f.chunks.length cb)) (first | exact KC.out _ BB3.out | exact KC.out _ BB2.out | exact KC.out _ BB1.out | go_keep)
    ((first
      | (go_at_call 49; refine (itemOf_any _ _ _ _ _ _ _).mono ?_; rintro r w2 ⟨rfl, hb2⟩; have BB2 := hide (below_next BB1.out hb2); clear hb2)
      | (go_at_call 49; refine (itemOf_any _ _ _ _ _ _ _).mono ?_; rintro r w1 ⟨rfl, hb1⟩; have BB1 := hide ((Below.refl W.heap.size W).drew.trans hb1); clear hb1)
      | (go_at_call 56; refine (same_any e f _ _ _ _ _ (HR.out.below BB2.out) (HR2.out.below BB2.out) hl hl2).mono ?_; rintro r w3 ⟨rfl, hb3⟩; rw [← HZ.out]; have BB3 := hide (below_next BB2.out hb3); clear hb3)))
  go_wp2_with fail
  go_ret
  exact ⟨rfl, below_next HB.out BB3.out⟩

set_option maxRecDepth 100000 in
set_option maxHeartbeats 1600000 in
theorem equalFunc_any (a b : Option Addr) (c d n m : Nat) (es fs : List En) (w : World) (h : RdE w a es) (h2 : RdE w b fs) (hn : n = es.length) (hm : m = fs.length) (hl : es.length ≤ 1048576) (hl2 : fs.length ≤ 1048576) (hs : SmallE es) (hs2 : SmallE fs) :
    Calls Tryz.prog 54 #[.slice a n c, .slice b m d, .func (.func 55) #[] #[]] w fun r w' => r = .returned (.bool (decide (es = fs))) ∧ Below w.heap.size w w' := by
  subst hn hm
  obtain ⟨Z, hZ⟩ : ∃ Z : Bool, Z = decide (es = fs) := ⟨_, rfl⟩
  rw [← hZ]
  have HZ := hide hZ
  clear hZ
  have HA := hide h
  have HB := hide h2
  have HS := hide hs
  have HS2 := hide hs2
  clear h h2 hs hs2
  by_cases hlen : es.length = fs.length
  · have hne : ((es.length : Int) != (fs.length : Int)) = false := by simp [hlen]
    have HL := hide hlen
    clear hlen
    go_enter Tryz.func54, Tryz.ntmps54
    go_wp2_with fail
    go_loopw [17] (fun i wr => ∃ k : Nat, k ≤ es.length ∧ i = .int .i64 k ∧ Hid (es.take k = fs.take k) ∧ Hid (Below w.heap.size w wr)) (fun i _ => es.length - (intOf i).toNat)
    case atStart => exact ⟨0, Nat.zero_le _, rfl, hide rfl, hide (Below.refl _ _)⟩
    case round =>
      obtain ⟨k, hk, rfl, HT, HW⟩ := hrel
      by_cases hlt : k < es.length
      · obtain ⟨b1, o1, e, x1, c1, rfl, hb1, he, p0, p1, p2, p3, r1⟩ := (HA.out.below HW.out).at hlt
        obtain ⟨b2, o2, f, x2, c2, rfl, hb2, hf, q0, q1, q2, q3, r2⟩ := (HB.out.below HW.out).at (show k < fs.length by have := HL.out; omega)
        have hsm := HS.out e (List.mem_of_getElem? he)
        have hsm2 := HS2.out f (List.mem_of_getElem? hf)
        have HX := hide he
        have HX2 := hide hf
        have R1 := hide r1
        have R2 := hide r2
        clear he hf r1 r2
        have hkl : (k : Int) < (fs.length : Int) := by have := HL.out; omega
        have BA := hide (below_next (below_alloc wr (.cells #[.string (str e.path), .int .i64 e.kind, .int .i64 e.size, .slice x1 e.chunks.length c1] 53)) (below_alloc _ (.cells #[.string (str f.path), .int .i64 f.kind, .int .i64 f.size, .slice x2 f.chunks.length c2] 53)))
        go_wp2_with fail
        refine (sameLit_any e f _ _ _ _ _ (R1.out.below BA.out) (R2.out.below BA.out) hsm.2 hsm2.2).mono ?_
        rintro r w3 ⟨rfl, hb3⟩
        have HW3 := hide (below_next HW.out (below_next BA.out hb3))
        clear hb3 p0 p1 p2 p3 q0 q1 q2 q3
        by_cases hef : e = f
        · rw [decide_eq_true hef]
          have HT2 := hide (take_both HX.out HX2.out HT.out hef)
          clear hef
          go_wp2_with fail
          go_roundw
          case rel => exact ⟨k + 1, by omega, by go_num, HT2, HW3⟩
          case measure => simp [intOf]; omega
        · rw [decide_eq_false hef]
          have HE := hide (show Z = false from by rw [HZ.out]; exact ne_at HX.out HX2.out hef)
          clear hef
          go_wp2_with fail
          go_ret
          exact ⟨ret_bool HE.out.symm, HW3.out⟩
      · have hke : k = es.length := by omega
        have HE := hide (show Z = true from by rw [HZ.out]; exact decide_eq_true (take_whole HT.out (by omega) (by have := HL.out; omega)))
        clear hke
        go_wp2_with fail
        go_ret
        exact ⟨ret_bool HE.out.symm, HW.out⟩
  · have hne : ((es.length : Int) != (fs.length : Int)) = true := by simp; omega
    have HE := hide (show Z = false from by rw [HZ.out]; exact decide_eq_false (fun x => hlen (by rw [x])))
    clear hlen
    go_enter Tryz.func54, Tryz.ntmps54
    go_wp2_with fail
    go_ret
    exact ⟨ret_bool HE.out.symm, Below.refl _ _⟩

set_option maxRecDepth 100000 in
theorem implSameLayers_any (a b : Option Addr) (c d n m : Nat) (es fs : List En) (w : World) (h : RdE w a es) (h2 : RdE w b fs) (hn : n = es.length) (hm : m = fs.length) (hl : es.length ≤ 1048576) (hl2 : fs.length ≤ 1048576) (hs : SmallE es) (hs2 : SmallE fs) :
    Calls Tryz.prog 18 #[.slice a n c, .slice b m d] w fun r w' => r = .returned (.bool (decide (es = fs))) ∧ Below w.heap.size w w' := by
  have HF := hide (equalFunc_any a b c d n m es fs w h h2 hn hm hl hl2 hs hs2)
  clear h h2 hn hm hl hl2 hs hs2
  generalize decide (es = fs) = Z at HF ⊢
  go_enter Tryz.func18, Tryz.ntmps18
  go_wp2_with fail
  refine HF.out.mono ?_
  rintro r w1 ⟨rfl, hb⟩
  have HB := hide hb
  clear hb
  go_wp2_with fail
  go_ret
  exact ⟨rfl, HB.out⟩

end Go.Proofs.YtebgfaohhhgdpaaGreat

namespace Go.Proofs.YtebgfaohhhgdpaaGreat
open Go.RowKit Go.Maps
set_option linter.unusedVariables false
attribute [local go_sem ↓] Go.wp_at_zero Go.wp_at_succ

def wrCode (es : List En) (p : Bs) (ds : List Int) : Int := if askT es p = 0 then (if 24 < ds.length then 2 else 0) else askT es p
def wrRep (es : List En) (p : Bs) (ds : List Int) : Int := if wrCode es p ds = 0 then writeC es p else 0
def wrList (es : List En) (p : Bs) (ds : List Int) : List En := if wrCode es p ds = 0 then writeL es p ds else []
theorem wr_ask {es : List En} {p : Bs} {ds : List Int} (h : askT es p ≠ 0) : wrCode es p ds = askT es p ∧ wrRep es p ds = 0 ∧ wrList es p ds = [] := by
  have h1 : wrCode es p ds = askT es p := by rw [wrCode, if_neg h]
  exact ⟨h1, by rw [wrRep, if_neg (by rw [h1]; exact h)], by rw [wrList, if_neg (by rw [h1]; exact h)]⟩
theorem wr_many {es : List En} {p : Bs} {ds : List Int} (h : askT es p = 0) (hl : 24 < ds.length) : wrCode es p ds = 2 ∧ wrRep es p ds = 0 ∧ wrList es p ds = [] := by
  have h1 : wrCode es p ds = 2 := by rw [wrCode, if_pos h, if_pos hl]
  exact ⟨h1, by rw [wrRep, if_neg (by rw [h1]; decide)], by rw [wrList, if_neg (by rw [h1]; decide)]⟩
theorem wr_ok {es : List En} {p : Bs} {ds : List Int} (h : askT es p = 0) (hl : ¬ 24 < ds.length) : wrCode es p ds = 0 ∧ wrRep es p ds = writeC es p ∧ wrList es p ds = writeL es p ds := by
  have h1 : wrCode es p ds = 0 := by rw [wrCode, if_pos h, if_neg hl]
  exact ⟨h1, by rw [wrRep, if_pos h1], by rw [wrList, if_pos h1]⟩
theorem put_write {es : List En} {p : Bs} {ds : List Int} (hR : RightT es) (hp : faultP p = 0) (h : writeC es p = 0) : putAt (offE es p) (fileE p ds) = writeL es p ds := by
  rw [writeL, if_pos h, putE, base_off (.inr (write_bare hR hp h))]
  rfl
theorem put_make {es : List En} {p : Bs} (h : makeC es p = 0) : putAt (offE es p) (dirE p) = makeL es p := by
  rw [makeL, if_pos h, putE, base_off (.inl rfl)]
  rfl
theorem small_writeL {es : List En} {p : Bs} {ds : List Int} (hR : RightT es) (hp : faultP p = 0) (hl : ds.length ≤ 24) : SmallE (writeL es p ds) := (rightT_writeL hR hp (fit_file hp hl)).small
theorem small_makeL {es : List En} {p : Bs} (hR : RightT es) (hp : faultP p = 0) : SmallE (makeL es p) := (rightT_makeL hR hp).small

set_option maxRecDepth 100000 in
set_option maxHeartbeats 3200000 in
theorem implWriteTree_any (a : Option Addr) (c n : Nat) (es : List En) (p : Bs) (da : Option Addr) (dc : Nat) (ds : List Int) (w : World) (h : RdE w a es) (hn : n = es.length) (hl : es.length ≤ 1048576) (hs : SmallE es) (hp : p.length ≤ 1048576) (hd : Reads .u8 w da ds) (hu : U8 ds) (hc : ds.length ≤ dc) (hdl : ds.length ≤ 1048576) :
    Calls Tryz.prog 15 #[.slice a n c, .string (str p), .slice da ds.length dc] w (ResT (wrCode es p ds) (wrRep es p ds) (wrList es p ds) w) := by
  subst hn
  have X0 := hide (Box3.new w (.int .i64 0) (.int .i64 0) (.slice none 0 0) 29)
  have B0 := hide (below_alloc w (.cells #[.int .i64 0, .int .i64 0, .slice none 0 0] 29))
  have HR := hide h
  have HS := hide hs
  have HD := hide hd
  have HU := hide hu
  clear h hs hd hu
  go_enter Tryz.func15, Tryz.ntmps15
  go_wp2_with fail
  refine (implAskT_any a c es.length es p _ (HR.out.below B0.out) rfl hl HS.out hp).mono ?_
  rintro r w1 ⟨rfl, hb1⟩
  have B1 := hide (below_next B0.out hb1)
  have X1 := hide (X0.out.below hb1)
  have hb0 : w.heap.size < w1.heap.size := X1.out.lt
  clear hb1 X0 B0
  by_cases hz : askT es p = 0
  · obtain ⟨hRT, hpf⟩ := ask_tree hz
    have HRT := hide hRT
    have HZ := hide hz
    rw [hz]
    clear hz hRT
    go_wp2_with fail
    refine (implFileEntry_any p da dc ds.length ds w1 (HD.out.below B1.out) rfl HU.out hc hp hdl).mono ?_
    rintro r w2 ⟨av2, cv2, rfl, hG2, hb2⟩
    by_cases h24 : 24 < ds.length
    · have hfc : fileCode p ds = 2 := by rw [fileCode, if_pos hpf, if_pos h24]
      have HCC := hide (wr_many (es := es) (p := p) HZ.out h24)
      rw [hfc]
      generalize fileList p ds = FL at *
      have BB2 := hide (below_next hb2 (below_alloc w2 (.cells #[.int .i64 2, .slice av2 FL.length cv2] 42)))
      obtain ⟨⟨t0, t1, t2⟩, t3, t4, t5⟩ := X1.out.below BB2.out
      have B2 := hide (below_next B1.out BB2.out)
      clear hG2 hb2 hfc
      go_wp2_with fail
      exact bodyPost_ret (v := .agg #[.int .i64 2, .int .i64 0, .slice none 0 0]) (by simp [results, Tryz.results15, go_sem, t0, t1, t2]) rfl (by rw [HCC.out.1, HCC.out.2.1, HCC.out.2.2]; exact ResT.bad (Nat.le_refl _) B2.out)
    · have hfc : fileCode p ds = 0 := by rw [fileCode, if_pos hpf, if_neg h24]
      have hfl : fileList p ds = [fileE p ds] := by rw [fileList, if_pos hfc]
      have hfn : (fileList p ds).length = 1 := by rw [hfl]; rfl
      rw [hfn, hfl] at hG2
      rw [hfc, hfn]
      have HCC := hide (wr_ok (es := es) (p := p) HZ.out h24)
      have hchl : (fileE p ds).chunks.length = (cut ds).length := digs_len ds
      have hcl : (cut ds).length ≤ 3 := by rw [cut_length]; omega
      obtain ⟨g, rfl, -⟩ := hG2.addr rfl (.inl (by decide))
      have A2 := hide (below_alloc w2 (.cells #[.int .i64 0, .slice (some ⟨g, 0, none⟩) 1 cv2] 42))
      have BB2 := hide (below_next hb2 A2.out)
      have Y2 := hide (Box.new w2 (.int .i64 0) (.slice (some ⟨g, 0, none⟩) 1 cv2) 42)
      have G2 := hide (hG2.below A2.out)
      clear hG2 hb2 hfc hfl hfn A2
      go_wp2_with fail
      generalize w2.alloc (.cells #[.int .i64 0, .slice (some ⟨g, 0, none⟩) 1 cv2] 42) = W2 at *
      generalize w2.heap.size = b2 at *
      refine (treeOf_any a c es.length es _ (HR.out.below (below_next B1.out BB2.out)) rfl hl).mono ?_
      rintro r w3 ⟨av, cv, rfl, hL, hb3⟩
      have RI := hide (hL.rd hb3)
      have B3 := hide hb3
      clear hL hb3
      go_wp2_with fail
      refine (writeReply_any av cv es.length es p _ RI.out rfl HRT.out hpf).mono ?_
      rintro r w4 ⟨rfl, hb4⟩
      have RI4 := hide (RI.out.below hb4)
      have B4 := hide (below_next B3.out hb4)
      have BB4 := hide (below_next BB2.out B4.out)
      clear hb4 RI B3
      by_cases hr : writeC es p = 0
      · have HPW := hide (put_write (ds := ds) HRT.out hpf hr)
        have HSM := hide (small_writeL (ds := ds) HRT.out hpf (by omega))
        have hwl := (rightT_writeL (ds := ds) HRT.out hpf (fit_file hpf (by omega))).len
        have HWC := hide hr
        rw [hr]
        clear hr
        obtain ⟨⟨y0, y1⟩, y2, y3⟩ := Y2.out.below B4.out
        obtain ⟨b, off, e', x, cc, hbb, hb, he, c0, c1, c2, c3, hrd⟩ := (G2.out.below B4.out).rd.at (k := 0) (by simp)
        simp only [Option.some.injEq, Addr.mk.injEq, and_true] at hbb
        obtain ⟨rfl, rfl⟩ := hbb
        simp only [List.getElem?_cons_zero, Option.some.injEq] at he
        subst he
        have c0' : w4.cell? ⟨g, 0, none⟩ = some (.string (str p)) := by simpa [fileE] using c0
        have c1' : w4.cell? ⟨g, 1, none⟩ = some (.int .i64 1) := by simpa [fileE] using c1
        have c2' : w4.cell? ⟨g, 2, none⟩ = some (.int .i64 ds.length) := by simpa [fileE] using c2
        have c3' : w4.cell? ⟨g, 3, none⟩ = some (.slice x (cut ds).length cc) := by rw [hchl] at c3; simpa using c3
        have HRD := hide hrd
        clear c0 c1 c2 c3 hrd
        go_wp2_with fail
        refine (itemOf_any (str p) 1 ds.length x (cut ds).length cc _).mono ?_
        rintro r w5 ⟨rfl, hb5⟩
        have RI5 := hide (RI4.out.below hb5)
        have R5 := hide (HRD.out.below hb5)
        have BB5 := hide (below_next BB4.out hb5)
        clear hb5 c0' c1' c2' c3' y0 y1 y2 y3
        have HWI : Hid (Calls Tryz.prog 48 #[.slice av es.length cv, .agg #[.int .i64 ds.length, .slice x (cut ds).length cc, .string (str p), .int .i64 1]] w5 fun r w' => ∃ g cv, r = .returned (.slice (some ⟨g, 0, none⟩) (writeL es p ds).length cv) ∧ RdI w' (some ⟨g, 0, none⟩) (writeL es p ds) ∧ Below w5.heap.size w5 w') := hide (by
          have h1 := withItem_any av cv es.length es (fileE p ds) x cc w5 RI5.out rfl (by have := HRT.out.len; omega) HRT.out.small HRT.out.rise R5.out
          have e1 : putAt (offE es (fileE p ds).path) (fileE p ds) = writeL es p ds := HPW.out
          rw [e1, hchl] at h1
          exact h1)
        go_wp2_with fail
        refine HWI.out.mono ?_
        rintro r w6 ⟨g6, cv6, rfl, hri6, hb6⟩
        have RI6 := hide hri6
        have BB6 := hide (below_next BB5.out hb6)
        clear hri6 hb6
        go_wp2_with fail
        refine (entriesOf_any _ _ _ (writeL es p ds) _ RI6.out rfl (by omega) HSM.out).mono ?_
        rintro r w7 ⟨av7, cv7, rfl, hG7, hb7⟩
        have hs6 := BB6.out.size
        have BB7 := hide (below_next BB6.out hb7)
        obtain ⟨⟨t0, t1, t2⟩, t3, t4, t5⟩ := X1.out.below BB7.out
        have G7 := hide hG7
        have B7 := hide (below_next B1.out BB7.out)
        clear hG7 hb7
        go_wp2_with fail
        exact bodyPost_ret (v := .agg #[.int .i64 0, .int .i64 0, .slice av7 (writeL es p ds).length cv7]) (by simp [results, Tryz.results15, go_sem, t0, t1, t2]) rfl (by rw [HCC.out.1, HCC.out.2.1, HCC.out.2.2, HWC.out]; exact ResT.of (by omega) (Nat.le_refl _) rfl G7.out B7.out)
      · have HCD := hide (show writeL es p ds = es from by rw [writeL, if_neg hr])
        generalize writeC es p = G at *
        have hr2 : (G != 0) = true := by simp; exact hr
        clear hr
        go_wp2_with fail
        refine (entriesOf_any _ _ _ es _ RI4.out rfl hl HS.out).mono ?_
        rintro r w6 ⟨av6, cv6, rfl, hG6, hb6⟩
        have hs4 := BB4.out.size
        have BB6 := hide (below_next BB4.out hb6)
        obtain ⟨⟨t0, t1, t2⟩, t3, t4, t5⟩ := X1.out.below BB6.out
        have G6 := hide hG6
        have B6 := hide (below_next B1.out BB6.out)
        clear hG6 hb6
        go_wp2_with fail
        exact bodyPost_ret (v := .agg #[.int .i64 0, .int .i64 G, .slice av6 es.length cv6]) (by simp [results, Tryz.results15, go_sem, t0, t1, t2]) rfl (by rw [HCC.out.1, HCC.out.2.1, HCC.out.2.2, HCD.out]; exact ResT.of (by omega) (Nat.le_refl _) rfl G6.out B6.out)
  · have HCC := hide (wr_ask (ds := ds) hz)
    generalize askT es p = F at *
    have hz2 : (F != 0) = true := by simp; exact hz
    clear hz
    obtain ⟨⟨t0, t1, t2⟩, t3, t4, t5⟩ := X1.out
    go_wp2_with fail
    exact bodyPost_ret (v := .agg #[.int .i64 F, .int .i64 0, .slice none 0 0]) (by simp [results, Tryz.results15, go_sem, t0, t1, t2]) rfl (by rw [HCC.out.1, HCC.out.2.1, HCC.out.2.2]; exact ResT.bad (Nat.le_refl _) B1.out)

def mkRep (es : List En) (p : Bs) : Int := if askT es p = 0 then makeC es p else 0
def mkList (es : List En) (p : Bs) : List En := if askT es p = 0 then makeL es p else []
set_option maxRecDepth 100000 in
set_option maxHeartbeats 3200000 in
theorem implMakeDir_any (a : Option Addr) (c n : Nat) (es : List En) (p : Bs) (w : World) (h : RdE w a es) (hn : n = es.length) (hl : es.length ≤ 1048576) (hs : SmallE es) (hp : p.length ≤ 1048576) :
    Calls Tryz.prog 16 #[.slice a n c, .string (str p)] w (ResT (askT es p) (mkRep es p) (mkList es p) w) := by
  subst hn
  have X0 := hide (Box3.new w (.int .i64 0) (.int .i64 0) (.slice none 0 0) 29)
  have B0 := hide (below_alloc w (.cells #[.int .i64 0, .int .i64 0, .slice none 0 0] 29))
  have HR := hide h
  have HS := hide hs
  clear h hs
  go_enter Tryz.func16, Tryz.ntmps16
  go_wp2_with fail
  refine (implAskT_any a c es.length es p _ (HR.out.below B0.out) rfl hl HS.out hp).mono ?_
  rintro r w1 ⟨rfl, hb1⟩
  have B1 := hide (below_next B0.out hb1)
  have X1 := hide (X0.out.below hb1)
  have hb0 : w.heap.size < w1.heap.size := X1.out.lt
  clear hb1 X0 B0
  by_cases hz : askT es p = 0
  · obtain ⟨hRT, hpf⟩ := ask_tree hz
    have HRT := hide hRT
    have HCC := hide (show askT es p = 0 ∧ mkRep es p = makeC es p ∧ mkList es p = makeL es p from ⟨hz, by rw [mkRep, if_pos hz], by rw [mkList, if_pos hz]⟩)
    rw [hz]
    clear hz hRT
    go_wp2_with fail
    refine (treeOf_any a c es.length es _ (HR.out.below B1.out) rfl hl).mono ?_
    rintro r w3 ⟨av, cv, rfl, hL, hb3⟩
    have RI := hide (hL.rd hb3)
    have B3 := hide hb3
    clear hL hb3
    go_wp2_with fail
    refine (makeReply_any av cv es.length es p _ RI.out rfl HRT.out hpf).mono ?_
    rintro r w4 ⟨rfl, hb4⟩
    have RI4 := hide (RI.out.below hb4)
    have BB4 := hide (below_next B3.out hb4)
    clear hb4 RI B3
    by_cases hr : makeC es p = 0
    · have HPW := hide (put_make hr)
      have HSM := hide (small_makeL HRT.out hpf)
      have hwl := (rightT_makeL HRT.out hpf).len
      have HWC := hide hr
      rw [hr]
      clear hr
      have HWI : Hid (Calls Tryz.prog 48 #[.slice av es.length cv, .agg #[.int .i64 0, .slice none 0 0, .string (str p), .int .i64 2]] w4 fun r w' => ∃ g cv, r = .returned (.slice (some ⟨g, 0, none⟩) (makeL es p).length cv) ∧ RdI w' (some ⟨g, 0, none⟩) (makeL es p) ∧ Below w4.heap.size w4 w') := hide (by
        have h1 := withItem_any av cv es.length es (dirE p) none 0 w4 RI4.out rfl (by have := HRT.out.len; omega) HRT.out.small HRT.out.rise (fun h => absurd rfl h)
        have e1 : putAt (offE es (dirE p).path) (dirE p) = makeL es p := HPW.out
        rw [e1] at h1
        exact h1)
      go_wp2_with fail
      refine HWI.out.mono ?_
      rintro r w6 ⟨g6, cv6, rfl, hri6, hb6⟩
      have RI6 := hide hri6
      have BB6 := hide (below_next BB4.out hb6)
      clear hri6 hb6
      go_wp2_with fail
      refine (entriesOf_any _ _ _ (makeL es p) _ RI6.out rfl (by omega) HSM.out).mono ?_
      rintro r w7 ⟨av7, cv7, rfl, hG7, hb7⟩
      have hs6 := BB6.out.size
      have BB7 := hide (below_next BB6.out hb7)
      obtain ⟨⟨t0, t1, t2⟩, t3, t4, t5⟩ := X1.out.below BB7.out
      have G7 := hide hG7
      have B7 := hide (below_next B1.out BB7.out)
      clear hG7 hb7
      go_wp2_with fail
      exact bodyPost_ret (v := .agg #[.int .i64 0, .int .i64 0, .slice av7 (makeL es p).length cv7]) (by simp [results, Tryz.results16, go_sem, t0, t1, t2]) rfl (by rw [HCC.out.1, HCC.out.2.1, HCC.out.2.2, HWC.out]; exact ResT.of (by omega) (Nat.le_refl _) rfl G7.out B7.out)
    · have HCD := hide (show makeL es p = es from by rw [makeL, if_neg hr])
      generalize makeC es p = G at *
      have hr2 : (G != 0) = true := by simp; exact hr
      clear hr
      go_wp2_with fail
      refine (entriesOf_any _ _ _ es _ RI4.out rfl hl HS.out).mono ?_
      rintro r w6 ⟨av6, cv6, rfl, hG6, hb6⟩
      have hs4 := BB4.out.size
      have BB6 := hide (below_next BB4.out hb6)
      obtain ⟨⟨t0, t1, t2⟩, t3, t4, t5⟩ := X1.out.below BB6.out
      have G6 := hide hG6
      have B6 := hide (below_next B1.out BB6.out)
      clear hG6 hb6
      go_wp2_with fail
      exact bodyPost_ret (v := .agg #[.int .i64 0, .int .i64 G, .slice av6 es.length cv6]) (by simp [results, Tryz.results16, go_sem, t0, t1, t2]) rfl (by rw [HCC.out.1, HCC.out.2.1, HCC.out.2.2, HCD.out]; exact ResT.of (by omega) (Nat.le_refl _) rfl G6.out B6.out)
  · have HCC := hide (show mkRep es p = 0 ∧ mkList es p = [] from ⟨by rw [mkRep, if_neg hz], by rw [mkList, if_neg hz]⟩)
    generalize askT es p = F at *
    have hz2 : (F != 0) = true := by simp; exact hz
    clear hz
    obtain ⟨⟨t0, t1, t2⟩, t3, t4, t5⟩ := X1.out
    go_wp2_with fail
    exact bodyPost_ret (v := .agg #[.int .i64 F, .int .i64 0, .slice none 0 0]) (by simp [results, Tryz.results16, go_sem, t0, t1, t2]) rfl (by rw [HCC.out.1, HCC.out.2]; exact ResT.bad (Nat.le_refl _) B1.out)
end Go.Proofs.YtebgfaohhhgdpaaGreat

