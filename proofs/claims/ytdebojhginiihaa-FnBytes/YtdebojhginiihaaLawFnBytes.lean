/-
  At every byte slice the law FnBytes returns true: bytes that were put are joined from their chunks, and nothing of them is missing. No condition.
-/
import Derived.Test.YtdebojhginiihaaTold
import Derived.Test.YtdebojhginiihaaDrawB
import Derived.ProofKit
import Derived.OpenShut
import Derived.ShutString
import Derived.ChangeOld
import Derived.Laws.BytesArg
namespace Go.Proofs.Ytdebojhginiihaa.fnBytes
open Go.ChangeShapes Go.WideShapes Go.ChangeAt Go.RowKit
set_option linter.unusedVariables false
attribute [local go_sem ↓] Go.wp_at_zero Go.wp_at_succ

theorem own : ownKnob Try.prog.godebug = none := by kernel_rfl
theorem laidOut : laidOutB Try.prog = true := by kernel_rfl

theorem lwBig_no (a : Option Addr) (cap : Nat) (n : Nat) (w : World) (h : n ≤ 1048576) :
    Calls Try.prog 6 #[.slice a n cap] w fun e w' => e = .returned (.bool false) ∧ w' = w := by
  have hb : ¬ (1048576 : Int) < (n : Int) := by omega
  go_enter Try.func6, Try.ntmps6
  go_wp2
  go_ret
  exact ⟨ret_bool (by simp <;> omega), rfl⟩
theorem lwBig_yes (a : Option Addr) (cap : Nat) (n : Nat) (w : World) (h : 1048576 < n) (h2 : n ≤ maxLen) :
    Calls Try.prog 6 #[.slice a n cap] w fun e w' => e = .returned (.bool true) ∧ w' = w := by
  have hb : (1048576 : Int) < (n : Int) := by omega
  unfold maxLen at h2
  go_enter Try.func6, Try.ntmps6
  go_wp2
  go_ret
  exact ⟨ret_bool (by simp <;> omega), rfl⟩

/-- What the program and the model answer alike. -/
def Alike (D : Nat → Int) (P : Nat → List Int) (n cv : Nat) (g : Nat) (av : Option Addr) (ac : Nat) (ds : List Int) (q : Int) (D0 : Nat → Int) (P0 : Nat → List Int) : Prop :=
  (∀ u : World, RdC u (some ⟨g, 0, none⟩) D P n → Reads .u8 u av ds → Calls Try.prog 24 #[.slice (some ⟨g, 0, none⟩) n cv, .slice av ds.length ac] u (ResC q D0 P0 0 u)) ∧
  (∀ u : World, RdC u (some ⟨g, 0, none⟩) D P n → Reads .u8 u av ds → Calls Try.prog 25 #[.slice (some ⟨g, 0, none⟩) n cv, .slice av ds.length ac] u (ResC q D0 P0 0 u))
/-- What there is behind it, zs being the digests and X what was missing. -/
structure There (D : Nat → Int) (P : Nat → List Int) (n cv : Nat) (g : Nat) (av : Option Addr) (ac : Nat) (ds : List Int) (D' : Nat → Int) (P' : Nat → List Int) (n' : Nat) (zs X : List Int) (q0 : Int) (ys y0 : List Int) : Prop where
  put : ∀ u : World, RdC u (some ⟨g, 0, none⟩) D P n → Reads .u8 u av ds → Calls Try.prog 24 #[.slice (some ⟨g, 0, none⟩) n cv, .slice av ds.length ac] u (ResC 0 D' P' n' u)
  dig : ∀ u : World, Reads .u8 u av ds → Calls Try.prog 9 #[.slice av ds.length ac] u (ResI 0 zs u)
  join : ∀ (u : World) (a : Option Addr) (c : Nat) (a2 : Option Addr) (c2 : Nat), RdC u a D' P' n' → Reads .i64 u a2 zs → Calls Try.prog 26 #[.slice a n' c, .slice a2 zs.length c2] u (ResB 0 ys u)
  mis : ∀ (u : World) (a : Option Addr) (c : Nat) (a2 : Option Addr) (c2 : Nat), RdC u a D' P' n' → Reads .i64 u a2 zs → Calls Try.prog 27 #[.slice a n' c, .slice a2 zs.length c2] u (ResI 0 [] u)
  mis0 : ∀ (u : World) (a2 : Option Addr) (c2 : Nat), RdC u (some ⟨g, 0, none⟩) D P n → Reads .i64 u a2 zs → Calls Try.prog 27 #[.slice (some ⟨g, 0, none⟩) n cv, .slice a2 zs.length c2] u (ResI 0 X u)
  smis0 : ∀ (u : World) (a2 : Option Addr) (c2 : Nat), RdC u (some ⟨g, 0, none⟩) D P n → Reads .i64 u a2 zs → Calls Try.prog 29 #[.slice (some ⟨g, 0, none⟩) n cv, .slice a2 zs.length c2] u (ResI 0 X u)
  join0 : ∀ (u : World) (a2 : Option Addr) (c2 : Nat), RdC u (some ⟨g, 0, none⟩) D P n → Reads .i64 u a2 zs → Calls Try.prog 26 #[.slice (some ⟨g, 0, none⟩) n cv, .slice a2 zs.length c2] u (ResB q0 y0 u)
  fau : ∀ (u : World) (a : Option Addr) (c : Nat), RdC u a D' P' n' → Calls Try.prog 22 #[.slice a n' c] u fun e w' => e = .returned (.int .i64 0) ∧ Below u.heap.size u w'
  away : (q0 == 8) = decide (0 < X.length)
  all : n' = n + X.length
  few : X.length ≤ 3
  many : n' ≤ 40
  three : zs.length ≤ 3
  some_ : 0 < zs.length → 0 < n'

theorem resI_of {q : Int} {zs : List Int} {N : Nat} {u w1 : World} {v : Value} (ho : w1.ownsRow u.heap.size 2 1 v N (zs.map (Value.int .i64))) (hN : N = zs.length) (b : Below u.heap.size u w1) : ResI q zs u (.returned (.agg #[.int .i64 q, v])) w1 := by
  subst hN
  obtain ⟨a, c, rfl⟩ := ownsRow_shape ho
  exact ⟨a, c, rfl, G1.mk ho rfl, b⟩

theorem cases_put (D : Nat → Int) (P : Nat → List Int) (n cv : Nat) (g : Nat) (av : Option Addr) (ac : Nat) (ds : List Int) (hcv : n ≤ cv) (hn : n ≤ 41) (hP : ∀ i, i < n → U8 (P i) ∧ (P i).length ≤ 1048576) (hu : U8 ds) (hl : ds.length ≤ 1048576) (hac : ds.length ≤ ac) :
    (∃ q D0 P0, q ≠ 0 ∧ Alike D P n cv g av ac ds q D0 P0) ∨ (∃ D' P' n' zs X q0 ys y0, There D P n cv g av ac ds D' P' n' zs X q0 ys y0) := by
  have hn1 : n ≤ 1048576 := by omega
  by_cases hF : fault D P n = 0
  · have hR := fault_zero hF
    by_cases h24 : ds.length ≤ 24
    · have hpc : ∀ j, j < (cut ds).length → 1 ≤ (piece ds j).length ∧ (piece ds j).length ≤ 8 := fun j hj => by rw [cut_length] at hj; rw [piece_length]; omega
      have hN3 : (cut ds).length ≤ 3 := by rw [cut_length]; omega
      cases ho : runS (D, P, n) (piece ds) (cut ds).length with
      | none =>
        have hres : resS (runS (D, P, n) (piece ds) (cut ds).length) = (2, (fun _ => 0, fun _ => [], 0)) := by rw [ho]; rfl
        exact .inl ⟨2, fun _ => 0, fun _ => [], by decide, fun u hr hr2 => implBytes_ok _ cv n D P av ac ds u hr hn1 hP hF hr2 hu hac h24 2 (fun _ => 0, fun _ => [], 0) hres, fun u hr hr2 => specBytes_ok _ cv n D P av ac ds u hr hn1 hP hF hr2 hu hac h24 2 (fun _ => 0, fun _ => [], 0) hres⟩
      | some t =>
        have hres : resS (runS (D, P, n) (piece ds) (cut ds).length) = (0, t) := by rw [ho]; rfl
        have hRt : Right t.1 t.2.1 t.2.2 := runS_right (s := (D, P, n)) hR hpc _ (Nat.le_refl _) t ho
        have hUt : ∀ i, i < t.2.2 → U8 (t.2.1 i) ∧ (t.2.1 i).length ≤ 1048576 := fun i hi => ⟨runS_u8 (s := (D, P, n)) (fun i hi => (hP i hi).1) (fun j => hu.piece j) _ t ho i hi, (hRt.u8len hi).2⟩
        have h40 := hRt.many
        have ht1 : t.2.2 ≤ 1048576 := by omega
        have hFt := fault_right hRt
        generalize hN : (cut ds).length = N at *
        obtain ⟨f1, f2, f3⟩ := run_facts (s := (D, P, n)) (Z := piece ds) (zs := digs ds N) (N := N) (fun k hk => digs_getD ds hk) N (Nat.le_refl _) t ho
        simp only at f1 f2
        have hb1 : both (fault t.1 t.2.1 t.2.2) (digs ds N) = 0 := both_digs ds hN3 hFt
        have hb0 : both (fault D P n) (digs ds N) = 0 := both_digs ds hN3 hF
        have hdl : (digs ds N).length = N := digs_length ds N
        have hdl1 : (digs ds N).length ≤ 1048576 := by omega
        have hD1 : ∀ j, j < N → hasD t.1 t.2.2 ((digs ds N).getD j 0) = true := f3
        have hx := miss_none (D := t.1) (n := t.2.2) (zs := digs ds N) N hD1
        have hxl := miss_length D n (digs ds N) N
        obtain ⟨m, hm1, hm2, hm3⟩ := first_away D n (digs ds N) N
        have haway : ((if m = N then (0 : Int) else 8) == 8) = decide (0 < (miss D n (digs ds N) N).length) := by
          by_cases hmN : m = N
          · have := miss_none (D := D) (n := n) (zs := digs ds N) N (fun j hj => hm2 j (by omega))
            rw [if_pos hmN, this]
            rfl
          · have := miss_mem (hm3 (by omega)) N (by omega)
            have h0 : 0 < (miss D n (digs ds N) N).length := List.length_pos_iff.2 (fun e => by rw [e] at this; simp at this)
            rw [if_neg hmN, decide_eq_true h0]
            rfl
        refine .inr ⟨t.1, t.2.1, t.2.2, digs ds N, miss D n (digs ds N) N, (if m = N then 0 else 8), joinTo (fun j => bytesAt t.1 t.2.1 t.2.2 ((digs ds N).getD j 0)) N, (if m = N then joinTo (fun j => bytesAt D P n ((digs ds N).getD j 0)) m else []), ⟨?_, ?_, ?_, ?_, ?_, ?_, ?_, ?_, haway, f1, by omega, h40, by omega, ?_⟩⟩
        · exact fun u hr hr2 => implBytes_ok _ cv n D P av ac ds u hr hn1 hP hF hr2 hu hac h24 0 t (by rw [hN]; exact hres)
        · intro u hr
          refine (implDigestsOf_ok av ac ds u hr hu hac h24).mono ?_
          rintro e w1 ⟨v, rfl, ho1, b1⟩
          rw [hN] at ho1
          exact resI_of ho1 hdl.symm b1
        · intro u a c a2 c2 hr hr2
          have := implJoin_ok a c t.2.2 t.1 t.2.1 a2 c2 (digs ds N) u hr ht1 hUt hr2 hdl1 hb1 N (by omega) (fun j => bytesAt t.1 t.2.1 t.2.2 ((digs ds N).getD j 0)) (fun j hj => bytesAt_ok (hD1 j hj)) (fun h => absurd h (by omega))
          rw [if_pos hdl.symm, if_pos hdl.symm] at this
          exact this
        · intro u a c a2 c2 hr hr2
          have := implMissingOf_ok a c t.2.2 t.1 t.2.1 a2 c2 (digs ds N) u hr ht1 hUt hr2 hdl1 hb1
          rw [show miss t.1 t.2.2 (digs ds N) (digs ds N).length = [] by rw [hdl]; exact hx] at this
          exact this
        · intro u a2 c2 hr hr2
          have := implMissingOf_ok (some ⟨g, 0, none⟩) cv n D P a2 c2 (digs ds N) u hr hn1 hP hr2 hdl1 hb0
          rw [show miss D n (digs ds N) (digs ds N).length = miss D n (digs ds N) N by rw [hdl]] at this
          exact this
        · intro u a2 c2 hr hr2
          have := specMissingOf_ok (some ⟨g, 0, none⟩) cv n D P a2 c2 (digs ds N) u hr hn1 hP hr2 hdl1 hb0
          rw [show miss D n (digs ds N) (digs ds N).length = miss D n (digs ds N) N by rw [hdl]] at this
          exact this
        · intro u a2 c2 hr hr2
          have := implJoin_ok (some ⟨g, 0, none⟩) cv n D P a2 c2 (digs ds N) u hr hn1 hP hr2 hdl1 hb0 m (by omega) (fun j => bytesAt D P n ((digs ds N).getD j 0)) (fun j hj => bytesAt_ok (hm2 j hj)) (fun h => hasD_false (hm3 (by omega)))
          rw [hdl] at this
          rw [hdl]
          exact this
        · intro u a c hr
          have := implFault_any a c t.2.2 t.1 t.2.1 u hr ht1 hUt
          rw [hFt] at this
          exact this
        · intro h0
          obtain ⟨i, hi, _⟩ := hasD_true (hD1 0 (by omega))
          omega
    · exact .inl ⟨2, D, P, by decide, fun u hr hr2 => implBytes_big _ cv n D P av ac ds u hr hn1 hP hF (by omega) hl, fun u hr hr2 => specBytes_big _ cv n D P av ds.length ac u hr hn1 hP hF (by omega) hl⟩
  · exact .inl ⟨fault D P n, D, P, hF, fun u hr hr2 => implBytes_bad _ cv n D P av ds.length ac u hr hn1 hP hF, fun u hr hr2 => specBytes_bad _ cv n D P av ds.length ac u hr hn1 hP hF⟩

set_option maxRecDepth 100000 in
set_option maxHeartbeats 6400000 in
theorem walk (a0 : Option Addr) (cap0 : Nat) (zs : List Int) (w : World) (h : Reads .u8 w a0 zs) (hu : U8 zs) (hmax : zs.length ≤ maxLen) :
    Calls Try.prog 5 #[.slice a0 zs.length cap0] w fun e w' => e = .returned (.bool true) ∧ Below w.heap.size w w' := by
  by_cases hbig : 1048576 < zs.length
  · go_enter Try.func5, Try.ntmps5
    go_wp2_with fail
    refine (lwBig_yes _ _ _ _ hbig hmax).mono ?_
    rintro e w1 ⟨rfl, rfl⟩
    go_wp2_with fail
    go_ret
    exact ⟨rfl, Below.refl _ _⟩
  · have hl : zs.length ≤ 1048576 := by omega
    have HR := hide h
    have HU := hide hu
    clear h hu hbig hmax
    go_enter Try.func5, Try.ntmps5
    go_wp2_with fail
    refine (lwBig_no _ _ _ _ hl).mono ?_
    rintro e w0 ⟨rfl, rfl⟩
    go_wp2_with fail
    refine (drawPutBytes_any a0 cap0 zs _ HR.out HU.out hl).mono ?_
    rintro e w1 ⟨g, cv, n, D, P, av, ac, ds, rfl, hcv, hn41, hL, hRd, hRds, hUds, hds25, hac, b1⟩
    have hP : ∀ i, i < n → U8 (P i) ∧ (P i).length ≤ 1048576 := fun i hi => ⟨(hL i hi).1, by have := (hL i hi).2; omega⟩
    have hcase := cases_put D P n cv g av ac ds hcv hn41 hP hUds (by omega) hac
    have L1 := hide hRd
    have R1 := hide hRds
    have B1 := hide b1
    clear hL hRd hRds hUds b1 hP
    rcases hcase with ⟨q, D0, P0, hq, hal⟩ | ⟨D', P', n', ks, X, q0, ys, y0, hth⟩
    · have hne : (q != 0) = true := by simpa using hq
      have HI := hide hal.1
      have HS := hide hal.2
      clear hal hq
      go_wp2_with fail
      refine (HI.out _ L1.out R1.out).mono ?_
      rintro e w2 ⟨ra, rc, rfl, -, b2⟩
      have T2 := hide (Two.new w2 (.int .i64 q) (.slice ra 0 rc) 45)
      have L2 : Hid (RdC (w2.alloc (.cells #[.int .i64 q, .slice ra 0 rc] 45)).drew (some ⟨g, 0, none⟩) D P n) := L1.out.below (below_next b2 (below_alloc _ _)).drew
      have R2 : Hid (Reads .u8 (w2.alloc (.cells #[.int .i64 q, .slice ra 0 rc] 45)).drew av ds) := R1.out.below (below_next b2 (below_alloc _ _)).drew
      have B2 : Hid (Below w0.heap.size w0 (w2.alloc (.cells #[.int .i64 q, .slice ra 0 rc] 45)).drew) := (below_next (below_next B1.out b2) (below_alloc _ _)).drew
      have hlt2 : w2.heap.size < (w2.alloc (.cells #[.int .i64 q, .slice ra 0 rc] 45)).drew.heap.size := by simp [World.drew]
      clear b2 L1 R1 B1 HI
      obtain ⟨t0, t1⟩ := T2.out
      go_wp2_with fail
      go_region_held3 (fun w' => w'.cell? ⟨w2.heap.size, 0, none⟩ = some (.int .i64 q)) (first | exact (b4.cell (p := ⟨w2.heap.size, 0, none⟩) hlt2).trans t0 | go_keep)
        ((first
          | (go_at_call 25; refine (HS.out _ L2.out R2.out).mono ?_; rintro e w4 ⟨a4, c4, rfl, -, b4⟩; have hfd : ∀ u : World, (Instr.field 45 (.agg #[.int .i64 q, .slice a4 0 c4]) 0).run Try.prog u = .ok (.int .i64 q) u := fun _ => by kernel_rfl)))
      go_wp2
      go_ret
      exact ⟨rfl, below_next B2.out b4⟩
    · obtain ⟨hput, hdig, hjoin, hmis, hmis0, hsmis0, hjoin0, hfau, haway, hall, hfew, hmany, hthree, hsome⟩ := hth
      have HPut := hide hput
      have HDig := hide hdig
      have HJoin := hide hjoin
      have HMis := hide hmis
      have HMis0 := hide hmis0
      have HSMis0 := hide hsmis0
      have HJoin0 := hide hjoin0
      have HFau := hide hfau
      clear hput hdig hjoin hmis hmis0 hsmis0 hjoin0 hfau
      have HAway := hide haway
      have HAll := hide hall
      have HNums := hide (And.intro hfew (And.intro hmany (And.intro hthree hsome)))
      clear haway hall hfew hmany hthree hsome
      go_wp2_with fail
      refine (HPut.out _ L1.out R1.out).mono ?_
      rintro e w2 ⟨ra, rc, rfl, hG2, b2⟩
      have X2 := hide hG2.rd
      have n12 := b2.size
      have L2 := hide (L1.out.below b2)
      have R2 := hide (R1.out.below b2)
      have B2 := hide (below_next B1.out b2)
      clear b2 hG2 L1 R1 B1 HPut
      go_wp2_with fail
      refine (HDig.out _ (R2.out.below (below_alloc _ _))).mono ?_
      rintro e w3 ⟨da, dc, rfl, hG3, b3⟩
      have n23 : w2.heap.size < w3.heap.size := by have := b3.size; simp at this; omega
      have E3 := hide hG3.own.reads
      have T3 := hide ((Two.new w2 (.int .i64 0) (.slice ra n' rc) 45).below b3)
      have X3 := hide ((X2.out.below (below_alloc _ _)).below b3)
      have L3 := hide ((L2.out.below (below_alloc _ _)).below b3)
      have B3 := hide (below_next (below_next B2.out (below_alloc _ _)) b3)
      clear b3 hG3 X2 L2 R2 B2 HDig
      have U3 : Hid (Two (w3.alloc (.cells #[.int .i64 0, .slice da ks.length dc] 31)) w3.heap.size (.int .i64 0) (.slice da ks.length dc)) := Two.new _ _ _ _
      have E3' := hide (E3.out.below (below_alloc w3 (.cells #[.int .i64 0, .slice da ks.length dc] 31)))
      have T3' := hide (T3.out.below (below_alloc w3 (.cells #[.int .i64 0, .slice da ks.length dc] 31)))
      have X3' := hide (X3.out.below (below_alloc w3 (.cells #[.int .i64 0, .slice da ks.length dc] 31)))
      have L3' := hide (L3.out.below (below_alloc w3 (.cells #[.int .i64 0, .slice da ks.length dc] 31)))
      have B3' := hide (below_next B3.out (below_alloc w3 (.cells #[.int .i64 0, .slice da ks.length dc] 31)))
      clear E3 T3 X3 L3 B3
      obtain ⟨t0, t1⟩ := T3'.out
      obtain ⟨u0, u1⟩ := U3.out
      go_wp2_with fail
      clear t0 t1 u0 u1
      refine (HJoin.out _ ra rc da dc X3'.out E3'.out).mono ?_
      rintro e w4 ⟨ja, jc, rfl, -, b4⟩
      have n34 : w3.heap.size < w4.heap.size := by have := b4.size; simp at this; omega
      have J4 : Hid (Two (w4.alloc (.cells #[.int .i64 0, .slice ja ys.length jc] 48)) w4.heap.size (.int .i64 0) (.slice ja ys.length jc)) := Two.new _ _ _ _
      have c4 := below_next b4 (below_alloc w4 (.cells #[.int .i64 0, .slice ja ys.length jc] 48))
      have U4 := hide (U3.out.below c4)
      have E4 := hide (E3'.out.below c4)
      have T4 := hide (T3'.out.below c4)
      have X4 := hide (X3'.out.below c4)
      have L4 := hide (L3'.out.below c4)
      have B4 := hide (below_next B3'.out c4)
      clear b4 c4 U3 E3' T3' X3' L3' B3' HJoin
      obtain ⟨t0, t1⟩ := T4.out
      obtain ⟨u0, u1⟩ := U4.out
      go_wp2_with fail
      clear t0 t1 u0 u1
      refine (HMis.out _ ra rc da dc X4.out E4.out).mono ?_
      rintro e w5 ⟨ma, mc, rfl, -, b5⟩
      have n45 : w4.heap.size < w5.heap.size := by have := b5.size; simp at this; omega
      have M5 : Hid (Two (w5.alloc (.cells #[.int .i64 0, .slice ma 0 mc] 31)) w5.heap.size (.int .i64 0) (.slice ma 0 mc)) := Two.new _ _ _ _
      have c5 := below_next b5 (below_alloc w5 (.cells #[.int .i64 0, .slice ma 0 mc] 31))
      have J5 := hide (J4.out.below c5)
      have U5 := hide (U4.out.below c5)
      have E5 := hide (E4.out.below c5)
      have T5 := hide (T4.out.below c5)
      have X5 := hide (X4.out.below c5)
      have L5 := hide (L4.out.below c5)
      have B5 := hide (below_next B4.out c5)
      clear b5 c5 J4 U4 E4 T4 X4 L4 B4 HMis
      obtain ⟨u0, u1⟩ := U5.out
      go_wp2_with fail
      clear u0 u1
      refine (HMis0.out _ da dc L5.out E5.out).mono ?_
      rintro e w6 ⟨xa, xc, rfl, hG6, b6⟩
      have n56 : w5.heap.size < w6.heap.size := by have := b6.size; simp at this; omega
      have n67 : w6.heap.size < (w6.alloc (.cells #[.int .i64 0, .slice xa X.length xc] 31)).heap.size := by simp
      have V6 : Hid (Two (w6.alloc (.cells #[.int .i64 0, .slice xa X.length xc] 31)) w6.heap.size (.int .i64 0) (.slice xa X.length xc)) := Two.new _ _ _ _
      have F6 := hide (hG6.own.reads.below (below_alloc w6 (.cells #[.int .i64 0, .slice xa X.length xc] 31)))
      have c6 := below_next b6 (below_alloc w6 (.cells #[.int .i64 0, .slice xa X.length xc] 31))
      have M6 := hide (M5.out.below c6)
      have J6 := hide (J5.out.below c6)
      have U6 := hide (U5.out.below c6)
      have E6 := hide (E5.out.below c6)
      have T6 := hide (T5.out.below c6)
      have X6 := hide (X5.out.below c6)
      have L6 := hide (L5.out.below c6)
      have B6 := hide (below_next B5.out c6)
      clear b6 c6 hG6 M5 J5 U5 E5 T5 X5 L5 B5 HMis0
      have hbb : ∃ bb : Bool, decide ((0 : Int) < (X.length : Int)) = bb ∧ (q0 == 8) = bb := ⟨_, rfl, by rw [HAway.out]; exact decide_eq_decide.2 (by omega)⟩
      have hnum := HNums.out
      have hall := HAll.out
      have hadd : IntKind.i64.wrap ((n : Int) + (X.length : Int)) = (n : Int) + (X.length : Int) := by simp [IntKind.wrap, IntKind.signed, IntKind.bits]; omega
      have hsum : ((n' : Int) == (n : Int) + (X.length : Int)) = true := beq_iff_eq.2 (by omega)
      have HGE : Hid (decide (IntKind.i64.wrap ((ks.length : Int) / 3) ≤ (n' : Int)) = true) := by
        have hl3 := hnum.2.2
        have hwr : IntKind.i64.wrap ((ks.length : Int) / 3) = (ks.length : Int) / 3 := by simp [IntKind.wrap, IntKind.signed, IntKind.bits]; omega
        rw [hwr]
        exact decide_eq_true (by omega)
      have hX6 : X.length ≤ 1048576 := by omega
      clear HAway HAll HNums hall hnum
      obtain ⟨bb, hb1, hb2⟩ := hbb
      go_wp2_with fail
      generalize w6.alloc (.cells #[.int .i64 0, .slice xa X.length xc] 31) = W at *
      generalize w2.heap.size = p2 at *
      generalize w3.heap.size = p3 at *
      generalize w4.heap.size = p4 at *
      generalize w5.heap.size = p5 at *
      generalize w6.heap.size = p6 at *
      have KEEP : Hid (∀ w' : World, Below W.heap.size W w' → w'.cell? ⟨p2, 1, none⟩ = some (.slice ra n' rc) ∧ w'.cell? ⟨p3, 0, none⟩ = some (.int .i64 0) ∧ w'.cell? ⟨p3, 1, none⟩ = some (.slice da ks.length dc) ∧ w'.cell? ⟨p4, 0, none⟩ = some (.int .i64 0) ∧ w'.cell? ⟨p5, 0, none⟩ = some (.int .i64 0) ∧ w'.cell? ⟨p5, 1, none⟩ = some (.slice ma 0 mc) ∧ w'.cell? ⟨p6, 1, none⟩ = some (.slice xa X.length xc)) := fun w' hb => ⟨(T6.out.below hb).2, (U6.out.below hb).1, (U6.out.below hb).2, (J6.out.below hb).1, (M6.out.below hb).1, (M6.out.below hb).2, (V6.out.below hb).2⟩
      have hw1 : Below W.heap.size W W.drew := (Below.refl _ _).drew
      clear T6 U6 J6 M6 V6 n12 n23 n34 n45 n56 n67
      have hb3 : decide (0 < X.length) = bb := by rw [← hb1]; exact decide_eq_decide.2 (by omega)
      cases bb
      have h0 : ¬ 0 < X.length := of_decide_eq_false hb3
      rotate_left
      have h0 : 0 < X.length := of_decide_eq_true hb3
      all_goals
        clear hb3
        go_region_held3 (fun w' => w'.cell? ⟨p2, 1, none⟩ = some (.slice ra n' rc) ∧ w'.cell? ⟨p3, 0, none⟩ = some (.int .i64 0) ∧ w'.cell? ⟨p3, 1, none⟩ = some (.slice da ks.length dc) ∧ w'.cell? ⟨p4, 0, none⟩ = some (.int .i64 0) ∧ w'.cell? ⟨p5, 0, none⟩ = some (.int .i64 0) ∧ w'.cell? ⟨p5, 1, none⟩ = some (.slice ma 0 mc) ∧ w'.cell? ⟨p6, 1, none⟩ = some (.slice xa X.length xc)) (first | exact KEEP.out _ b7 | exact KEEP.out _ hw1)
          ((first
            | (go_at_call 26; refine (HJoin0.out W.drew da dc (L6.out.below hw1) (E6.out.below hw1)).mono ?_; rintro e w7 ⟨fa, fc, rfl, -, b7'⟩; have b7 := hw1.trans b7'; have hfd : ∀ u : World, (Instr.field 48 (.agg #[.int .i64 q0, .slice fa y0.length fc]) 0).run Try.prog u = .ok (.int .i64 q0) u := (fun _ => by kernel_rfl); clear b7')))
        clear hfd
        go_wp2_with fail
        have c7 : Below W.heap.size W w7.drew := b7.drew
        clear b7
        go_region_held3 (fun w' => w'.cell? ⟨p2, 1, none⟩ = some (.slice ra n' rc) ∧ w'.cell? ⟨p3, 0, none⟩ = some (.int .i64 0) ∧ w'.cell? ⟨p3, 1, none⟩ = some (.slice da ks.length dc) ∧ w'.cell? ⟨p4, 0, none⟩ = some (.int .i64 0) ∧ w'.cell? ⟨p5, 0, none⟩ = some (.int .i64 0) ∧ w'.cell? ⟨p5, 1, none⟩ = some (.slice ma 0 mc) ∧ w'.cell? ⟨p6, 1, none⟩ = some (.slice xa X.length xc)) (first | exact KEEP.out _ b10 | exact KEEP.out _ b9 | exact KEEP.out _ b8 | exact KEEP.out _ c7)
          ((first
            | (go_at_call 22; refine (HFau.out w7.drew ra rc (X6.out.below c7)).mono ?_; rintro e w8 ⟨rfl, b8'⟩; have b8 := below_next c7 b8'; clear b8')
            | (go_at_call 29; refine (HSMis0.out w8 da dc (L6.out.below b8) (E6.out.below b8)).mono ?_; rintro e w9 ⟨ga, gc, rfl, hG9, b9'⟩; have b9 := below_next b8 b9'; have RG := hide hG9.own.reads; have hfd : ∀ u : World, (Instr.field 31 (.agg #[.int .i64 0, .slice ga X.length gc]) 1).run Try.prog u = .ok (.slice ga X.length gc) u := (fun _ => by kernel_rfl); clear b9' hG9)
            | (go_at_call 28; refine (lwNums_same xa ga xc gc X w9 (F6.out.below b9) RG.out hX6).mono ?_; rintro e w10 ⟨rfl, b10'⟩; have b10 := below_next b9 b10'; clear b10')))
        go_wp2
        go_ret
        exact ⟨ret_bool HGE.out, below_next B6.out b10⟩

set_option maxRecDepth 100000 in
theorem lifted (os : Os) (started : os.Started) (H : Type) (enc : TypeId × Value → H) :
    ReturnsInHanded {} Try.checked os 5 .any (Rows.fnBytesSpec.pre6 enc Try.prog Try.f5 Rows.fnBytesRow.domain false) (Rows.fnBytesSpec.post enc Try.prog Try.f5 false true false false) := by
  refine returnsInHanded_of_change (C := Try.checked) own started (by kernel_rfl) Try.func5
    (ChangeSpec.witness6 (enc := enc) (C := Try.checked) false ⟨#[], #[.slice none 0 0], []⟩ 8 (by kernel_rfl) (by kernel_rfl) (by kernel_rfl) (by kernel_rfl)) ?_
  intro W base args ds gs before hval0 hW hcnd _
  have hval : ∀ (j : Nat) t v, Try.f5.params[j]? = some t → args[j]? = some v → Value.okWide Try.prog W .any base t v := hval0
  have hW' := hW
  obtain ⟨p, q, hA0, hV, rfl, hfz, hnd⟩ := hW
  have hA : DataW.TrodAll enc Try.prog W 0 (fun _ => true) true Try.f5.params.toList args.toList ds p := hA0
  rw [Try.params5] at hA hval
  obtain ⟨v0, vs0, d0, ds0, p0, q0, hargs, rfl, rfl, h0, r0⟩ := trodAll_cons hA
  obtain ⟨rfl, rfl, rfl⟩ := trodAll_nil r0
  obtain rfl : args = #[v0] := by cases args; simp_all
  obtain ⟨rfl, rfl⟩ := trodVars_none hV
  obtain ⟨a0, len0, cap0, rfl⟩ := okWide_slice Try.underlying22 (hval 0 22 v0 rfl rfl)
  have k0 := h0
  have lt0 : ∀ x ∈ p0, x.block < W.heap.size := by obtain ⟨m, hm⟩ := k0; exact DataW.trod_lt m _ _ _ hm
  obtain ⟨zs, hlen, hread, hu, hmax⟩ : ∃ zs : List Int, zs.length = len0 ∧ Reads .u8 W a0 zs ∧ U8 zs ∧ zs.length ≤ maxLen := by
    obtain ⟨fuel, hf⟩ := h0
    rcases open_ints Try.underlying22 Try.underlying5 (by kernel_rfl) hf with ⟨hcs, _⟩ | ⟨x, l, c, zs, hcs, _, hl, hm, hz, _, hcell, hwz⟩
    · simp [Value.cells] at hcs
      obtain ⟨rfl, rfl, rfl⟩ := hcs
      exact ⟨[], rfl, fun h => absurd rfl h, fun z hz => by simp at hz, Nat.zero_le _⟩
    · simp [Value.cells] at hcs
      obtain ⟨rfl, rfl, rfl⟩ := hcs
      exact reads_of_row (by simpa using hz) hl hm hcell hwz
  subst hlen
  clear hA0 hval0
  refine (walk a0 cap0 zs W hread hu hmax).mono fun e W' ⟨he, bel⟩ => ?_
  subst he
  exact ⟨_, rfl, _, _, _, [], _, [], hW', trodAll_mk1 (shut_bool Try.underlying4 _), (trodAll_cons_mk (Below.trod laidOut (by kernel_rfl) (of_decide_eq_true (by kernel_rfl)) k0 bel lt0) trodAll_mk0), rfl, bel.frame _, fun h => by cases h⟩

theorem over : Rows.fnBytesRow.holds Try.pinned (OpenSpec.ofChange Rows.fnBytesSpec) :=
  OpenClaim.holds_of_wide 5 Try.f5 rfl rfl rfl rfl rfl rfl rfl ⟨rfl, rfl, rfl, rfl, rfl⟩ rfl rfl rfl rfl rfl (by kernel_rfl) Try.func5 (by kernel_rfl)
    (of_decide_eq_true (by kernel_rfl)) (by unfold Func.isWrapper; first | (rw [if_pos (by decide +kernel)]; kernel_rfl) | (rw [if_neg (by decide +kernel)]; exact ⟨rfl, rfl⟩))
    (fun os started H enc _ => lifted os started H enc)

end Go.Proofs.Ytdebojhginiihaa.fnBytes
namespace Go.Proofs.Ytdebojhginiihaa
theorem fnBytes_holds : Rows.FnBytesSaid := fnBytes.over
#print axioms fnBytes_holds
end Go.Proofs.Ytdebojhginiihaa
