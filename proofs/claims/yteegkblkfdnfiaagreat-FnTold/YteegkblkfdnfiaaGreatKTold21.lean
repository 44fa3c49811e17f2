/-
  Texts put together: SnpZ IteH.
-/
import Derived.Test.YteegkblkfdnfiaaGreatKTold20
import Derived.Test.YteegkblkfdnfiaaGreatKTold2
import Derived.Test.YteegkblkfdnfiaaGreatKTold4
namespace Go.Proofs.YteegkblkfdnfiaaGreat
open Go.RowKit Go.Maps
set_option linter.unusedVariables false
attribute [local go_sem ↓] Go.wp_at_zero Go.wp_at_succ

theorem run_convert_at {P : Program} (u : World) (t e : TypeId) (C : Array Value) (b n c : Nat) (hb : u.heap[b]? = some (.cells C e)) (ht : P.underlying t = some (.slice e)) (he : P.underlying e = some (.int .u8)) :
    (convert t t (.slice (some ⟨b, 0, none⟩) n c)).run P u = .ok (.slice (some ⟨b, 0, none⟩) n c) (u.freeze ⟨b, C.size, none⟩ 1) := by
  have hsh : u.shape? b = some (e, C.size) := by unfold World.shape?; rw [hb]
  simp [convert, run_underlying ht, run_underlying he, markStringish, hsh]
theorem freeze_kept (u : World) (b k : Nat) : Kept (fun x => x = b) u (u.freeze ⟨b, k, none⟩ 1) := by
  unfold World.freeze
  rw [if_neg (by decide)]
  refine ⟨rfl, rfl, rfl, by simp, fun i hi hn => ?_⟩
  show (u.heap.modify b _)[i]? = u.heap[i]?
  rw [Array.getElem?_modify]
  have : ¬ b = i := fun e => hn e.symm
  simp [this]
theorem freeze_cells (u : World) (b k : Nat) {C : Array Value} {e : TypeId} (hb : u.heap[b]? = some (.cells C e)) (i : Nat) : (u.freeze ⟨b, k, none⟩ 1).cell? ⟨b, i, none⟩ = C[i]? := by
  unfold World.freeze
  rw [if_neg (by decide)]
  unfold World.cell?
  simp only [Array.getElem?_modify, if_true, hb, Option.map_some]
  simp
def tdX : List Int := [120, 121, 122]
theorem td_x8 (r : Nat) : U8 (tdX.take r) := fun z hz => by have := List.mem_of_mem_take hz; simp [tdX] at this; omega
theorem xyz_reads (u : World) (b : Nat) (hb : u.heap[b]? = some (.cells #[.int .u8 120, .int .u8 121, .int .u8 122] 5)) : Reads .u8 (u.freeze ⟨b, 3, none⟩ 1) (some ⟨b, 0, none⟩) tdX := by
  intro _
  have hlt : b < u.heap.size := (Array.getElem?_eq_some_iff.1 hb).1
  refine ⟨b, 0, rfl, Nat.lt_of_lt_of_le hlt (freeze_kept u b 3).size, fun i hi => ?_⟩
  have h3 : i < 3 := hi
  rw [Nat.zero_add, freeze_cells u b 3 hb]
  match i, h3 with
  | 0, _ => rfl
  | 1, _ => rfl
  | 2, _ => rfl
theorem Reads.take {k : IntKind} {w : World} {a : Option Addr} {zs : List Int} (h : Reads k w a zs) (r : Nat) : Reads k w a (zs.take r) := by
  intro hz
  obtain ⟨b, off, e, hb, hc⟩ := h (fun h0 => hz (by rw [h0]; simp))
  refine ⟨b, off, e, hb, fun i hi => ?_⟩
  rw [List.length_take] at hi
  rw [hc i (by omega)]
  have h1 : i < r := by omega
  simp [List.getD_eq_getElem?_getD, h1]
set_option maxRecDepth 100000 in
set_option maxHeartbeats 1600000 in
theorem lwAt_any (a0 : Option Addr) (cap : Nat) (zs : List Int) (i n : Int) (w : World) (h : Reads .u8 w a0 zs) (hu : U8 zs) (hl : zs.length ≤ 1048576) (hi : 0 ≤ i) (hi2 : i ≤ 1000) (hn : 2 ≤ n) (hn2 : n ≤ 200) :
    Calls Tryz.prog 21 #[.slice a0 zs.length cap, .int .i64 i, .int .i64 n] w fun e w' => ∃ r, e = .returned (.int .i64 r) ∧ 0 ≤ r ∧ r < n ∧ Below w.heap.size w w' := by
  have h1 : ¬ n ≤ 1 := by omega
  have h2 : ¬ (200 : Int) < n := by omega
  have hn0 : (n == 0) = false := by simp; omega
  have hn1 : (n == -1) = false := by simp; omega
  by_cases hz : zs = []
  · subst hz
    have hmod : 0 ≤ i * 7 % n ∧ i * 7 % n < n := ⟨Int.emod_nonneg _ (by omega), Int.emod_lt_of_pos _ (by omega)⟩
    go_enter Tryz.func21, Tryz.ntmps21
    go_wp2_with fail
    go_ret
    exact ⟨_, rfl, hmod.1, hmod.2, Below.refl _ _⟩
  · obtain ⟨b, off, rfl, hb, hc⟩ := h hz
    have hk0 : 0 < zs.length := List.length_pos_iff.2 hz
    have hkz : ((zs.length : Int) == 0) = false := by simp; omega
    obtain ⟨hm0, hm1⟩ : 0 ≤ i % (zs.length : Int) ∧ i % (zs.length : Int) < (zs.length : Int) := ⟨Int.emod_nonneg _ (by omega), Int.emod_lt_of_pos _ (by omega)⟩
    have hz1 := hu.get (i % (zs.length : Int)).toNat
    have c1 := hc (i % (zs.length : Int)).toNat (by omega)
    generalize zs.getD (i % (zs.length : Int)).toNat 0 = z1 at hz1 c1
    have hdiv : 0 ≤ i / (zs.length : Int) ∧ i / (zs.length : Int) ≤ i := ⟨Int.ediv_nonneg hi (by omega), Int.ediv_le_self _ hi⟩
    have hmod : ∀ v : Int, 0 ≤ v % n ∧ v % n < n := fun v => ⟨Int.emod_nonneg _ (by omega), Int.emod_lt_of_pos _ (by omega)⟩
    have HMD := hide hmod
    clear h hc hmod
    go_enter Tryz.func21, Tryz.ntmps21
    go_wp2_with fail
    go_quiet (fail)
    go_wp2_with fail
    go_ret
    exact ⟨_, rfl, (HMD.out _).1, (HMD.out _).2, below_drewN (Below.refl _ _) _⟩
theorem rdE_one {w : World} {b : Nat} {e : En} (h : Four w b (.string (str e.path)) (.int .i64 e.kind) (.int .i64 e.size) (.slice none 0 0)) (hc : e.chunks = []) : RdE w (some ⟨b, 0, none⟩) [e] := by
  intro _
  refine ⟨b, 0, fun _ => none, fun _ => 0, rfl, h.lt, fun i x hx => ?_⟩
  cases i with
  | zero =>
    simp only [List.getElem?_cons_zero, Option.some.injEq] at hx
    subst hx
    obtain ⟨h0, h1, h2, h3⟩ := h
    rw [hc]
    exact ⟨h0, h1, h2, h3, fun hz => absurd rfl hz⟩
  | succ j => simp at hx
theorem right_smallS {l : List Sn} (h : RightS l) (hp : ∀ s ∈ l, s.parent.length ≤ 1048576) : SmallS l := h.small hp (fun s hs => right_small (right_P.1 (h.own s hs).2.2))
theorem td_sm1 : SmallS [tdA] := right_smallS td_right1 (fun s hs => by simp at hs; subst hs; decide)
theorem td_sm2 : SmallS [tdA, tdB 1 []] := right_smallS td_right2 (fun s hs => by simp at hs; rcases hs with rfl | rfl <;> decide)
theorem td_sm3 : SmallS [tdA, tdB 1 tdU] := right_smallS td_right3 (fun s hs => by simp at hs; rcases hs with rfl | rfl <;> (simp [tdA, tdB]))
theorem td_sm4 : SmallS [tdA, tdB 2 tdU] := right_smallS td_right4 (fun s hs => by simp at hs; rcases hs with rfl | rfl <;> (simp [tdA, tdB]))
theorem td_smL {U : List En} (h : RightS (tdL U)) : SmallS (tdL U) := right_smallS h (fun s hs => by simp [tdL] at hs; rcases hs with rfl | rfl | rfl <;> (simp [tdA, tdB, tdC]))
theorem td_u8 : U8 tdH := fun z hz => by simp [tdH] at hz; omega
def Snd (rep : Int) (l : List Sn) (w : World) (r : Ending) (w' : World) : Prop := ∃ av cv, r = .returned (.agg #[.int .i64 0, .int .i64 rep, .slice av l.length cv]) ∧ HeldS w.heap.size w' av l ∧ Below w.heap.size w w'
theorem Snd.of {rep : Int} {l : List Sn} {w : World} {r : Ending} {w' : World} (h : ResS 0 rep l w r w') : Snd rep l w r w' := by
  obtain ⟨av, cv, h1, h2, h3⟩ := h
  exact ⟨av, cv, h1, h2, h3⟩
theorem told1 (b : Nat) (w : World) (h : Four w b (.string (str [47, 97])) (.int .i64 2) (.int .i64 0) (.slice none 0 0)) :
    Calls Tryz.prog 20 #[.slice none 0 0, .string ⟨#[97]⟩, .string ⟨#[]⟩, .slice (some ⟨b, 0, none⟩) 1 1] w (Snd 0 [tdA] w) := by
  have h1 := implAddSnap_ok none 0 0 [] [97] [] (some ⟨b, 0, none⟩) 1 1 [tdD] w (RdS.nil _ _) rfl td_right0 ⟨by simp, fun s hs => by simp at hs⟩ (by simp) (by simp) (rdE_one (e := tdD) h rfl) rfl td_dir (fun e he => by simp at he; subst he; simp [tdD])
  rw [show growR [] ⟨[97], [], 2, false, [tdD]⟩ = 0 from td_g1] at h1
  exact (show Calls Tryz.prog 20 #[.slice none 0 0, .string ⟨#[97]⟩, .string ⟨#[]⟩, .slice (some ⟨b, 0, none⟩) 1 1] w _ from h1).mono fun r w' hr => Snd.of hr
theorem told2 (a : Option Addr) (c : Nat) (w : World) (h : RdS w a [tdA]) :
    Calls Tryz.prog 16 #[.slice a 1 c, .string ⟨#[98]⟩, .string ⟨#[97]⟩] w (Snd 0 [tdA, tdB 1 []] w) := by
  have h1 := implPrepareSnap_ok a c 1 [tdA] [98] [97] w h rfl td_right1 td_sm1 (by simp) (by simp)
  rw [show growR [tdA] ⟨[98], [97], 1, false, []⟩ = 0 from td_g2] at h1
  exact (show Calls Tryz.prog 16 #[.slice a 1 c, .string ⟨#[98]⟩, .string ⟨#[97]⟩] w _ from h1).mono fun r w' hr => Snd.of hr
theorem told5 (a : Option Addr) (c : Nat) (w : World) (h : RdS w a [tdA, tdB 2 tdU]) :
    Calls Tryz.prog 16 #[.slice a 2 c, .string ⟨#[99]⟩, .string ⟨#[98]⟩] w (Snd 0 (tdL []) w) := by
  have h1 := implPrepareSnap_ok a c 2 [tdA, tdB 2 tdU] [99] [98] w h rfl td_right4 td_sm4 (by simp) (by simp)
  rw [show growR [tdA, tdB 2 tdU] ⟨[99], [98], 1, false, []⟩ = 0 from td_g5] at h1
  exact (show Calls Tryz.prog 16 #[.slice a 2 c, .string ⟨#[99]⟩, .string ⟨#[98]⟩] w _ from h1).mono fun r w' hr => Snd.of hr
theorem told3 (a : Option Addr) (c : Nat) (d : Option Addr) (w : World) (h : RdS w a [tdA, tdB 1 []]) (hd : Reads .u8 w d tdH) :
    Calls Tryz.prog 8 #[.slice a 2 c, .string ⟨#[98]⟩, .string ⟨#[47, 97, 47, 99]⟩, .slice d 5 5, .int .i64 1] w (Snd 0 [tdA, tdB 1 tdU] w) := by
  have h1 := implWriteSnap_ok a c 2 [tdA, tdB 1 []] [98] tdP d 5 5 tdH 1 (tdB 1 []) w h rfl td_right2 td_sm2 (.inl rfl) td_at2 (by simp [tdP]) hd rfl td_u8 (by decide) (by decide)
  refine (show Calls Tryz.prog 8 #[.slice a 2 c, .string ⟨#[98]⟩, .string ⟨#[47, 97, 47, 99]⟩, .slice d 5 5, .int .i64 1] w _ from h1).mono ?_
  rintro r w' ⟨m, rep, hP, hr⟩
  rcases hP with ⟨h9, -⟩ | ⟨-, q, rp, V, hD, rfl, rfl⟩
  · exact absurd h9 (by decide)
  · rw [td_low2] at hD
    obtain ⟨rfl, rfl, rfl⟩ := td_deed hD
    exact Snd.of hr
theorem told8 (U : List En) (hR : RightS (tdL U)) (a : Option Addr) (c : Nat) (p : Bs) (d : Option Addr) (dn dc : Nat) (zs : List Int) (k : Int) (w : World) (h : RdS w a (tdL U)) (hk : k = 1 ∨ k = 2 ∨ k = 3) (hp : p.length ≤ 1048576) (hd : Reads .u8 w d zs) (hdn : dn = zs.length) (hu : U8 zs) (hdc : zs.length ≤ dc) (hdl : zs.length ≤ 1048576) :
    Calls Tryz.prog 8 #[.slice a 3 c, .string ⟨#[99]⟩, .string (str p), .slice d dn dc, .int .i64 k] w fun r w' => ∃ rep V, RightS (tdL V) ∧ Snd rep (tdL V) w r w' := by
  have h1 := implWriteSnap_ok a c 3 (tdL U) [99] p d dn dc zs k (tdC U) w h rfl hR (td_smL hR) hk (td_atC U) hp hd hdn hu hdc hdl
  refine (show Calls Tryz.prog 8 #[.slice a 3 c, .string ⟨#[99]⟩, .string (str p), .slice d dn dc, .int .i64 k] w _ from h1).mono ?_
  rintro r w' ⟨m, rep, hP, hr⟩
  by_cases h0 : rep = 0
  · subst h0
    obtain ⟨-, V, hV, rfl⟩ := wriP_right hk hP
    exact ⟨0, V, td_turn hR hV, Snd.of hr⟩
  · refine ⟨rep, U, hR, Snd.of ?_⟩
    unfold aft at hr
    rwa [if_neg h0] at hr
theorem told11 (U : List En) (hR : RightS (tdL U)) (a : Option Addr) (c : Nat) (w : World) (h : RdS w a (tdL U)) :
    Calls Tryz.prog 8 #[.slice a 3 c, .string ⟨#[98]⟩, .string ⟨#[47, 113]⟩, .slice none 0 0, .int .i64 2] w fun r w' => (∃ av cv, r = .returned (.agg #[.int .i64 0, .int .i64 10, .slice av 3 cv])) ∧ Below w.heap.size w w' := by
  have h1 := implWriteSnap_ok a c 3 (tdL U) [98] [47, 113] none 0 0 [] 2 (tdB 2 tdU) w h rfl hR (td_smL hR) (.inr (.inl rfl)) (td_atB U) (by simp) (fun hz => absurd rfl hz) rfl (fun z hz => by simp at hz) (by simp) (by simp)
  refine (show Calls Tryz.prog 8 #[.slice a 3 c, .string ⟨#[98]⟩, .string ⟨#[47, 113]⟩, .slice none 0 0, .int .i64 2] w _ from h1).mono ?_
  rintro r w' ⟨m, rep, hP, av, cv, hr, -, hb⟩
  rcases hP with ⟨-, rfl⟩ | ⟨h9, -⟩
  · exact ⟨⟨av, cv, hr⟩, hb⟩
  · exact absurd rfl h9
theorem told4 (a : Option Addr) (c : Nat) (w : World) (h : RdS w a [tdA, tdB 1 tdU]) :
    Calls Tryz.prog 14 #[.slice a 2 c, .string ⟨#[98]⟩] w (Snd 0 [tdA, tdB 2 tdU] w) := by
  have h1 := implCommitSnap_ok a c 2 [tdA, tdB 1 tdU] [98] (tdB 1 tdU) w h rfl td_right3 td_sm3 td_at3
  exact (show Calls Tryz.prog 14 #[.slice a 2 c, .string ⟨#[98]⟩] w _ from h1).mono fun r w' hr => Snd.of hr
theorem told6 (U : List En) (hR : RightS (tdL U)) (a : Option Addr) (c : Nat) (w : World) (h : RdS w a (tdL U)) :
    Calls Tryz.prog 11 #[.slice a 3 c, .string ⟨#[98]⟩] w fun r w' => ∃ av cv, r = .returned (.agg #[.int .i64 0, .slice av 2 cv]) ∧ RdL w' av [[tdD], tdU] ∧ Below w.heap.size w w' := by
  have h1 := implChainOf_ok a c 3 (tdL U) [98] (tdB 2 tdU) w h rfl hR (td_smL hR) (td_atB U)
  rw [td_chain] at h1
  exact (show Calls Tryz.prog 11 #[.slice a 3 c, .string ⟨#[98]⟩] w _ from h1).mono fun r w' ⟨av, cv, h2, h3, _, h5⟩ => ⟨av, cv, h2, h3, h5⟩
theorem td_smE : SmallE tdU := right_small td_layU
theorem told7 (a : Option Addr) (c : Nat) (w : World) (h : RdL w a [[tdD], tdU]) :
    Calls Tryz.prog 13 #[.slice a 2 c] w fun r w' => ∃ av cv, r = .returned (.agg #[.int .i64 0, .int .i64 0, .slice av 2 cv]) ∧ RdE w' av tdU ∧ 2 ≤ cv ∧ Below w.heap.size w w' := by
  have h1 := implMergeAll_any a c 2 [[tdD], tdU] w h rfl (by decide) (fun es he => by
    simp at he
    rcases he with rfl | rfl
    · exact ⟨by decide, fun e he => by simp at he; subst he; simp [tdD]⟩
    · exact ⟨by decide, td_smE⟩)
  rw [td_tree.1, td_tree.2] at h1
  refine h1.mono fun r w' ⟨av, cv, h2, h3, h5⟩ => ⟨av, cv, h2, h3.rd, ?_, h5⟩
  obtain ⟨rs, -, g2, -⟩ := GW.of h3
  rcases g2.2 with ⟨-, h0⟩ | ⟨g', cap, cur, h9, -, -, h8, -⟩
  · cases h0
  · simp only [Value.slice.injEq] at h9
    have h8' : 2 ≤ cap := h8
    omega
theorem told9 (d : Option Addr) (w : World) (hd : Reads .u8 w d tdH) :
    Calls Tryz.prog 22 #[.string ⟨#[47, 97, 47, 99]⟩, .slice d 5 5] w fun r w' => ∃ av cv, r = .returned (.agg #[.int .i64 0, .slice av 1 cv]) ∧ RdE w' av [tdF] ∧ Below w.heap.size w w' := by
  have h1 := implFileEntry_any tdP d 5 5 tdH w hd rfl td_u8 (by decide) (by simp [tdP]) (by decide)
  rw [td_code, show fileList tdP tdH = [tdF] by unfold fileList; rw [if_pos td_code]; rfl] at h1
  exact (show Calls Tryz.prog 22 #[.string ⟨#[47, 97, 47, 99]⟩, .slice d 5 5] w _ from h1).mono fun r w' ⟨av, cv, h2, h3, h5⟩ => ⟨av, cv, h2, h3.rd, h5⟩
end Go.Proofs.YteegkblkfdnfiaaGreat

namespace Go.Proofs.YteegkblkfdnfiaaGreat
open Go.RowKit
set_option linter.unusedVariables false

set_option maxHeartbeats 800000 in
theorem equal_any (a b : Option Addr) (ca cb : Nat) (xs ys : List Int) (w : World) (ha : Reads .i64 w a xs) (hb : Reads .i64 w b ys) (hl : xs.length ≤ 1048576) (hl2 : ys.length ≤ 1048576) :
    Calls Tryz.prog 136 #[.slice a xs.length ca, .slice b ys.length cb] w fun e w' => e = .returned (.bool (xs == ys)) ∧ ∃ n, w' = w.drewN n := by
  by_cases hlen : xs.length = ys.length
  · have hne : ((xs.length : Int) != (ys.length : Int)) = false := by simp [hlen]
    go_enter Tryz.func136, Tryz.ntmps136
    go_wp2
    go_loopw [13] (fun i wr => ∃ k : Nat, k ≤ xs.length ∧ i = .int .i64 k ∧ xs.take k = ys.take k ∧ ∃ n, wr = w.drewN n) (fun i _ => xs.length - (intOf i).toNat)
    case atStart => exact ⟨0, Nat.zero_le _, rfl, rfl, 0, rfl⟩
    case round =>
      obtain ⟨k, hk, rfl, htk, n, rfl⟩ := hrel
      have HT := hide htk
      clear htk
      by_cases hlt : k < xs.length
      · obtain ⟨b1, o1, rfl, hb1, hc1⟩ := ha (by intro e; simp [e] at hlt)
        obtain ⟨b2, o2, rfl, hb2, hc2⟩ := hb (by intro e; rw [e] at hlen; simp at hlen; simp [hlen] at hlt)
        obtain ⟨x, hx⟩ : ∃ x, x = xs.getD k 0 := ⟨_, rfl⟩
        obtain ⟨y, hy⟩ : ∃ y, y = ys.getD k 0 := ⟨_, rfl⟩
        have c1 : w.cell? ⟨b1, o1 + k, none⟩ = some (.int .i64 x) := by rw [hx]; exact hc1 k hlt
        have c2 : w.cell? ⟨b2, o2 + k, none⟩ = some (.int .i64 y) := by rw [hy]; exact hc2 k (by omega)
        have HX := hide hx
        have HY := hide hy
        clear hc1 hc2 ha hb hx hy
        have hk2 : k < ys.length := by omega
        by_cases heq : x = y
        · have hb : (x != y) = false := by simp [heq]
          have HE := hide heq
          clear heq
          go_wp2
          go_quiet (fail)
          go_wp2
          go_roundw
          case rel => exact ⟨k + 1, by omega, by go_num, take_eq_step hlt hk2 HT.out (by rw [← HX.out, ← HY.out]; exact HE.out), _, rfl⟩
          case measure => simp [intOf]; omega
        · have hb : (x != y) = true := by simp [heq]
          go_wp2
          go_quiet (fail)
          go_wp2
          go_ret
          exact ⟨ret_bool (ne_of_getD (k := k) (by rw [← HX.out, ← HY.out]; exact heq)).symm, _, World.drewN_drewN _ _ _⟩
      · go_wp2
        go_ret
        exact ⟨ret_bool (eq_of_take (k := k) (by omega) (by omega) HT.out).symm, _, rfl⟩
  · have hne : ((xs.length : Int) != (ys.length : Int)) = true := by simp; omega
    go_enter Tryz.func136, Tryz.ntmps136
    go_wp2
    go_ret
    have e : (xs == ys) = false := by simp; intro e; exact hlen (by rw [e])
    exact ⟨ret_bool e.symm, 0, rfl⟩

set_option maxHeartbeats 800000 in
theorem sameBytes_any (z y : Int) (a b : Option Addr) (ca cb : Nat) (xs ys : List Int) (w : World) (ha : Reads .i64 w a xs) (hb : Reads .i64 w b ys) (hl : xs.length ≤ 1048576) (hl2 : ys.length ≤ 1048576) :
    Calls Tryz.prog 92 #[.agg #[.int .i64 z, .slice a xs.length ca], .agg #[.int .i64 y, .slice b ys.length cb]] w fun e w' => e = .returned (.bool (decide (z = y) && (xs == ys))) ∧ Below w.heap.size w w' := by
  have HB := hide (below_next (below_alloc w (.cells #[.int .i64 z, .slice a xs.length ca] 91)) (below_alloc _ (.cells #[.int .i64 y, .slice b ys.length cb] 91)))
  have HR := hide ha
  have HR2 := hide hb
  clear ha hb
  by_cases h : z = y
  · have hb : (z == y) = true := by simp [h]
    have HE := hide (show (decide (z = y) && (xs == ys)) = (xs == ys) from by simp [h])
    clear h
    rw [HE.out]
    obtain ⟨Z, hZ⟩ : ∃ Z : Bool, Z = (xs == ys) := ⟨_, rfl⟩
    rw [← hZ]
    have HZ := hide hZ
    clear hZ HE
    go_enter Tryz.func92, Tryz.ntmps92
    go_wp2_with fail
    refine (equal_any a b ca cb xs ys _ (HR.out.below HB.out) (HR2.out.below HB.out) hl hl2).mono ?_
    rintro r w1 ⟨rfl, n, rfl⟩
    rw [← HZ.out]
    go_wp2_with fail
    cases Z
    · go_ret
      exact ⟨rfl, below_drewN HB.out n⟩
    · go_ret
      exact ⟨rfl, below_drewN HB.out n⟩
  · have hb : (z == y) = false := by simp [h]
    have HE := hide (show (decide (z = y) && (xs == ys)) = false from by simp [h])
    clear h
    rw [HE.out]
    go_enter Tryz.func92, Tryz.ntmps92
    go_wp2_with fail
    go_ret
    exact ⟨rfl, HB.out⟩

set_option maxHeartbeats 800000 in
theorem same_any (e f : En) (a b : Option Addr) (ca cb : Nat) (w : World) (ha : Reads .i64 w a e.chunks) (hb : Reads .i64 w b f.chunks) (hl : e.chunks.length ≤ 1048576) (hl2 : f.chunks.length ≤ 1048576) :
    Calls Tryz.prog 51 #[.agg #[.int .i64 e.size, .slice a e.chunks.length ca, .string (str e.path), .int .i64 e.kind], .agg #[.int .i64 f.size, .slice b f.chunks.length cb, .string (str f.path), .int .i64 f.kind]] w fun r w' => r = .returned (.bool (decide (e = f))) ∧ Below w.heap.size w w' := by
  have HB := hide (below_next (below_alloc w (.cells #[.int .i64 e.size, .slice a e.chunks.length ca, .string (str e.path), .int .i64 e.kind] 93)) (below_alloc _ (.cells #[.int .i64 f.size, .slice b f.chunks.length cb, .string (str f.path), .int .i64 f.kind] 93)))
  have HR := hide ha
  have HR2 := hide hb
  clear ha hb
  by_cases hp : e.path = f.path
  · have hs1 := str_yes hp
    by_cases hk : e.kind = f.kind
    · have hk1 : (e.kind == f.kind) = true := by simp [hk]
      have HE := hide (show decide (e = f) = (decide (e.size = f.size) && (e.chunks == f.chunks)) from by
        by_cases h1 : e.size = f.size
        · by_cases h2 : e.chunks = f.chunks
          · rw [decide_eq_true (En.same hp hk h1 h2)]; simp [h1, h2]
          · rw [decide_eq_false (fun x => h2 (by rw [x]))]; simp [h2]
        · rw [decide_eq_false (fun x => h1 (by rw [x]))]; simp [h1])
      clear hp hk
      generalize decide (e = f) = Z at HE ⊢
      go_enter Tryz.func51, Tryz.ntmps51
      go_wp2_with fail
      refine (sameBytes_any _ _ a b ca cb e.chunks f.chunks _ (HR.out.below HB.out) (HR2.out.below HB.out) hl hl2).mono ?_
      rintro r w1 ⟨rfl, hb1⟩
      rw [← HE.out]
      have HB1 := hide (below_next HB.out hb1)
      clear hb1 HE
      go_wp2_with fail
      cases Z
      · go_ret
        exact ⟨rfl, HB1.out⟩
      · go_ret
        exact ⟨rfl, HB1.out⟩
    · have hk1 : (e.kind == f.kind) = false := by simp [hk]
      have HE := hide (show decide (e = f) = false from decide_eq_false (fun x => hk (by rw [x])))
      clear hp hk
      generalize decide (e = f) = Z at HE ⊢
      go_enter Tryz.func51, Tryz.ntmps51
      go_wp2_with fail
      go_ret
      exact ⟨ret_bool HE.out.symm, HB.out⟩
  · have hs1 := str_no hp
    have HE := hide (show decide (e = f) = false from decide_eq_false (fun x => hp (by rw [x])))
    clear hp
    generalize decide (e = f) = Z at HE ⊢
    go_enter Tryz.func51, Tryz.ntmps51
    go_wp2_with fail
    go_ret
    exact ⟨ret_bool HE.out.symm, HB.out⟩

set_option maxHeartbeats 1600000 in
theorem sameLit_any (e f : En) (a b : Option Addr) (ca cb : Nat) (w : World) (ha : Reads .i64 w a e.chunks) (hb : Reads .i64 w b f.chunks) (hl : e.chunks.length ≤ 1048576) (hl2 : f.chunks.length ≤ 1048576) :
    Calls Tryz.prog 49 #[.agg #[.string (str e.path), .int .i64 e.kind, .int .i64 e.size, .slice a e.chunks.length ca], .agg #[.string (str f.path), .int .i64 f.kind, .int .i64 f.size, .slice b f.chunks.length cb]] w fun r w' => r = .returned (.bool (decide (e = f))) ∧ Below w.heap.size w w' := by
  have HB := hide (below_next (below_alloc w (.cells #[.string (str e.path), .int .i64 e.kind, .int .i64 e.size, .slice a e.chunks.length ca] 50)) (below_alloc _ (.cells #[.string (str f.path), .int .i64 f.kind, .int .i64 f.size, .slice b f.chunks.length cb] 50)))
  have F1 := hide ((Four.new w (.string (str e.path)) (.int .i64 e.kind) (.int .i64 e.size) (.slice a e.chunks.length ca) 50).below (below_alloc _ (.cells #[.string (str f.path), .int .i64 f.kind, .int .i64 f.size, .slice b f.chunks.length cb] 50)))
  have F2 := hide (Four.new (w.alloc (.cells #[.string (str e.path), .int .i64 e.kind, .int .i64 e.size, .slice a e.chunks.length ca] 50)) (.string (str f.path)) (.int .i64 f.kind) (.int .i64 f.size) (.slice b f.chunks.length cb) 50)
  have h1 : (w.alloc (.cells #[.string (str e.path), .int .i64 e.kind, .int .i64 e.size, .slice a e.chunks.length ca] 50)).heap.size = w.heap.size + 1 := by simp
  rw [h1] at F2
  clear h1
  have HR := hide (ha.below HB.out)
  have HR2 := hide (hb.below HB.out)
  clear ha hb
  obtain ⟨Z, hZ⟩ : ∃ Z : Bool, Z = decide (e = f) := ⟨_, rfl⟩
  rw [← hZ]
  have HZ := hide hZ
  clear hZ
  go_enter Tryz.func49, Tryz.ntmps49
  go_wp2_with fail
  generalize (w.alloc (.cells #[.string (str e.path), .int .i64 e.kind, .int .i64 e.size, .slice a e.chunks.length ca] 50)).alloc (.cells #[.string (str f.path), .int .i64 f.kind, .int .i64 f.size, .slice b f.chunks.length cb] 50) = W at *
  have KC : Hid (∀ w' : World, Below W.heap.size W w' → (w'.cell? ⟨w.heap.size, 0, none⟩ = some (.string (str e.path)) ∧ w'.cell? ⟨w.heap.size, 1, none⟩ = some (.int .i64 e.kind) ∧ w'.cell? ⟨w.heap.size, 2, none⟩ = some (.int .i64 e.size) ∧ w'.cell? ⟨w.heap.size, 3, none⟩ = some (.slice a e.chunks.length ca)) ∧ w'.cell? ⟨w.heap.size + 1, 0, none⟩ = some (.string (str f.path)) ∧ w'.cell? ⟨w.heap.size + 1, 1, none⟩ = some (.int .i64 f.kind) ∧ w'.cell? ⟨w.heap.size + 1, 2, none⟩ = some (.int .i64 f.size) ∧ w'.cell? ⟨w.heap.size + 1, 3, none⟩ = some (.slice b f.chunks.length cb)) := hide (fun w' hb => ⟨F1.out.below hb, F2.out.below hb⟩)
  obtain ⟨p0, p1, p2, p3⟩ := F1.out
  obtain ⟨q0, q1, q2, q3⟩ := F2.out
  go_region_held3 (fun w' => (w'.cell? ⟨w.heap.size, 0, none⟩ = some (.string (str e.path)) ∧ w'.cell? ⟨w.heap.size, 1, none⟩ = some (.int .i64 e.kind) ∧ w'.cell? ⟨w.heap.size, 2, none⟩ = some (.int .i64 e.size) ∧ w'.cell? ⟨w.heap.size, 3, none⟩ = some (.slice a e.chunks.length ca)) ∧ w'.cell? ⟨w.heap.size + 1, 0, none⟩ = some (.string (str f.path)) ∧ w'.cell? ⟨w.heap.size + 1, 1, none⟩ = some (.int .i64 f.kind) ∧ w'.cell? ⟨w.heap.size + 1, 2, none⟩ = some (.int .i64 f.size) ∧ w'.cell? ⟨w.heap.size + 1, 3, none⟩ = some (.slice b f.chunks.length cb)) (first | exact KC.out _ BB3.out | exact KC.out _ BB2.out | exact KC.out _ BB1.out | go_keep)
    ((first
      | (go_at_call 50; refine (itemOf_any _ _ _ _ _ _ _).mono ?_; rintro r w2 ⟨rfl, hb2⟩; have BB2 := hide (below_next BB1.out hb2); clear hb2)
      | (go_at_call 50; refine (itemOf_any _ _ _ _ _ _ _).mono ?_; rintro r w1 ⟨rfl, hb1⟩; have BB1 := hide ((Below.refl W.heap.size W).drew.trans hb1); clear hb1)
      | (go_at_call 51; refine (same_any e f _ _ _ _ _ (HR.out.below BB2.out) (HR2.out.below BB2.out) hl hl2).mono ?_; rintro r w3 ⟨rfl, hb3⟩; rw [← HZ.out]; have BB3 := hide (below_next BB2.out hb3); clear hb3)))
  go_wp2_with fail
  go_ret
  exact ⟨rfl, below_next HB.out BB3.out⟩

set_option maxRecDepth 100000 in
set_option maxHeartbeats 1600000 in
theorem equalFunc_any (a b : Option Addr) (c d n m : Nat) (es fs : List En) (w : World) (h : RdE w a es) (h2 : RdE w b fs) (hn : n = es.length) (hm : m = fs.length) (hl : es.length ≤ 1048576) (hl2 : fs.length ≤ 1048576) (hs : SmallE es) (hs2 : SmallE fs) :
    Calls Tryz.prog 48 #[.slice a n c, .slice b m d, .func (.func 49) #[] #[]] w fun r w' => r = .returned (.bool (decide (es = fs))) ∧ Below w.heap.size w w' := by
  subst hn hm
  obtain ⟨Z, hZ⟩ : ∃ Z : Bool, Z = decide (es = fs) := ⟨_, rfl⟩
  rw [← hZ]
  have HZ := hide hZ
  clear hZ
  have HA := hide h
  have HB := hide h2
  have HS := hide hs
  have HS2 := hide hs2
  clear h h2 hs hs2
  by_cases hlen : es.length = fs.length
  · have hne : ((es.length : Int) != (fs.length : Int)) = false := by simp [hlen]
    have HL := hide hlen
    clear hlen
    go_enter Tryz.func48, Tryz.ntmps48
    go_wp2_with fail
    go_loopw [17] (fun i wr => ∃ k : Nat, k ≤ es.length ∧ i = .int .i64 k ∧ Hid (es.take k = fs.take k) ∧ Hid (Below w.heap.size w wr)) (fun i _ => es.length - (intOf i).toNat)
    case atStart => exact ⟨0, Nat.zero_le _, rfl, hide rfl, hide (Below.refl _ _)⟩
    case round =>
      obtain ⟨k, hk, rfl, HT, HW⟩ := hrel
      by_cases hlt : k < es.length
      · obtain ⟨b1, o1, e, x1, c1, rfl, hb1, he, p0, p1, p2, p3, r1⟩ := (HA.out.below HW.out).at hlt
        obtain ⟨b2, o2, f, x2, c2, rfl, hb2, hf, q0, q1, q2, q3, r2⟩ := (HB.out.below HW.out).at (show k < fs.length by have := HL.out; omega)
        have hsm := HS.out e (List.mem_of_getElem? he)
        have hsm2 := HS2.out f (List.mem_of_getElem? hf)
        have HX := hide he
        have HX2 := hide hf
        have R1 := hide r1
        have R2 := hide r2
        clear he hf r1 r2
        have hkl : (k : Int) < (fs.length : Int) := by have := HL.out; omega
        have BA := hide (below_next (below_alloc wr (.cells #[.string (str e.path), .int .i64 e.kind, .int .i64 e.size, .slice x1 e.chunks.length c1] 50)) (below_alloc _ (.cells #[.string (str f.path), .int .i64 f.kind, .int .i64 f.size, .slice x2 f.chunks.length c2] 50)))
        go_wp2_with fail
        refine (sameLit_any e f _ _ _ _ _ (R1.out.below BA.out) (R2.out.below BA.out) hsm.2 hsm2.2).mono ?_
        rintro r w3 ⟨rfl, hb3⟩
        have HW3 := hide (below_next HW.out (below_next BA.out hb3))
        clear hb3 p0 p1 p2 p3 q0 q1 q2 q3
        by_cases hef : e = f
        · rw [decide_eq_true hef]
          have HT2 := hide (take_both HX.out HX2.out HT.out hef)
          clear hef
          go_wp2_with fail
          go_roundw
          case rel => exact ⟨k + 1, by omega, by go_num, HT2, HW3⟩
          case measure => simp [intOf]; omega
        · rw [decide_eq_false hef]
          have HE := hide (show Z = false from by rw [HZ.out]; exact ne_at HX.out HX2.out hef)
          clear hef
          go_wp2_with fail
          go_ret
          exact ⟨ret_bool HE.out.symm, HW3.out⟩
      · have hke : k = es.length := by omega
        have HE := hide (show Z = true from by rw [HZ.out]; exact decide_eq_true (take_whole HT.out (by omega) (by have := HL.out; omega)))
        clear hke
        go_wp2_with fail
        go_ret
        exact ⟨ret_bool HE.out.symm, HW.out⟩
  · have hne : ((es.length : Int) != (fs.length : Int)) = true := by simp; omega
    have HE := hide (show Z = false from by rw [HZ.out]; exact decide_eq_false (fun x => hlen (by rw [x])))
    clear hlen
    go_enter Tryz.func48, Tryz.ntmps48
    go_wp2_with fail
    go_ret
    exact ⟨ret_bool HE.out.symm, Below.refl _ _⟩

set_option maxRecDepth 100000 in
theorem implSameLayers_any (a b : Option Addr) (c d n m : Nat) (es fs : List En) (w : World) (h : RdE w a es) (h2 : RdE w b fs) (hn : n = es.length) (hm : m = fs.length) (hl : es.length ≤ 1048576) (hl2 : fs.length ≤ 1048576) (hs : SmallE es) (hs2 : SmallE fs) :
    Calls Tryz.prog 12 #[.slice a n c, .slice b m d] w fun r w' => r = .returned (.bool (decide (es = fs))) ∧ Below w.heap.size w w' := by
  have HF := hide (equalFunc_any a b c d n m es fs w h h2 hn hm hl hl2 hs hs2)
  clear h h2 hn hm hl hl2 hs hs2
  generalize decide (es = fs) = Z at HF ⊢
  go_enter Tryz.func12, Tryz.ntmps12
  go_wp2_with fail
  refine HF.out.mono ?_
  rintro r w1 ⟨rfl, hb⟩
  have HB := hide hb
  clear hb
  go_wp2_with fail
  go_ret
  exact ⟨rfl, HB.out⟩

end Go.Proofs.YteegkblkfdnfiaaGreat

