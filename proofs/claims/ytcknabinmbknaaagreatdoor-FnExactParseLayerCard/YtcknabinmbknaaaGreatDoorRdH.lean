/-
  The program's ParseEntry: what cannot be read is a panic that is recovered.
-/
import Derived.Test.YtcknabinmbknaaaGreatDoorRdG
import Derived.Test.YtcknabinmbknaaaGreatDoorTxtP
import Derived.Test.YtcknabinmbknaaaGreatDoorJ1
import Derived.Defers
import Derived.Recover
import Derived.Laws.Pointers
namespace Go.Proofs.YtcknabinmbknaaaGreatDoor
open Go.RowKit
set_option linter.unusedVariables false
set_option maxRecDepth 100000

/-- A row of one entry, just made. -/
theorem GE.solo {w w1 : World} {e : En} {av : Option Addr} {cv : Nat} (hs : w.heap.size ≤ w1.heap.size) (h : w1.ownsRow w.heap.size 2 1 (.slice av e.chunks.length cv) e.chunks.length (e.chunks.map (Value.int .i64))) :
    GE w.heap.size (w1.alloc (.cells #[.string (str e.path), .int .i64 e.kind, .int .i64 e.size, .slice av e.chunks.length cv] 39)).heap.size (w1.alloc (.cells #[.string (str e.path), .int .i64 e.kind, .int .i64 e.size, .slice av e.chunks.length cv] 39)) (.slice (some ⟨w1.heap.size, 0, none⟩) 1 1) [e] := by
  refine ⟨[⟨e, av, cv⟩], rfl, ?_, fun r hr => ?_, List.pairwise_singleton _ _, fun r hr g hg => ?_, fun b hb => ?_⟩
  · exact ⟨rfl, .inr ⟨w1.heap.size, 1, #[.string (str e.path), .int .i64 e.kind, .int .i64 e.size, .slice av e.chunks.length cv], rfl, hs, heap_alloc_new w1 _, Nat.le_refl _, by decide, rfl, rfl⟩⟩
  · simp only [List.mem_singleton] at hr
    subst hr
    exact ownsRow_below h (below_alloc _ _)
  · simp only [List.mem_singleton] at hr
    subst hr
    have := (h.lt g (block_own hg)).2
    simp
    omega
  · simp [Value.ownBlock] at hb
    subst hb
    simp

def parCode (l : Bs) : Int := match parE l with | some _ => 0 | none => 5
def parList (l : Bs) : List En := match parE l with | some e => [e] | none => []
theorem parE_so {l : Bs} {e : En} (h : parE l = some e) : parCode l = 0 ∧ parList l = [e] := by simp [parCode, parList, h]
theorem parE_no {l : Bs} (h : parE l = none) : parCode l = 5 ∧ parList l = [] := by simp [parCode, parList, h]

/-- What readEntry answers. -/
def ResR (o : Option En) (u : TypeId) (vp : Value) (w : World) (r : Ending) (w' : World) : Prop :=
  match o with
  | none => r = Dies u vp ∧ Below w.heap.size w w'
  | some e => (∃ av cv, r = .returned (.agg #[.string (str e.path), .int .i64 e.kind, .int .i64 e.size, .slice av e.chunks.length cv]) ∧ w'.ownsRow w.heap.size 2 1 (.slice av e.chunks.length cv) e.chunks.length (e.chunks.map (Value.int .i64))) ∧ Below w.heap.size w w'
theorem readEntry_any (l : Bs) (u : TypeId) (vp : Value) (w : World) (hl : l.length ≤ 2097152) (hg : Gl w u vp) : Calls Tryz.prog 46 #[.string (str l)] w (ResR (readE l) u vp w) := by
  obtain ⟨a, r, hc⟩ := cutC_head (m := 32) l
  cases hk : kindW a with
  | none =>
    have hr : readE l = none := by unfold readE; rw [hc]; cases r <;> simp [hk]
    rw [hr]
    exact readEntry_a l a r hc hk u vp w hl hg
  | some K =>
    match r, hc with
    | [], hc =>
      have hr : readE l = none := by unfold readE; rw [hc]
      rw [hr]
      exact readEntry_b l a K hc hk u vp w hl hg
    | p :: rest, hc =>
      by_cases h1 : K = 1
      · subst h1
        match rest, hc with
        | [], hc =>
          have hr : readE l = none := by unfold readE; rw [hc]; simp [hk]
          rw [hr]
          exact readEntry_d l a p hc hk u vp w hl hg
        | n :: r', hc =>
          cases hv : numW n with
          | none =>
            have hr : readE l = none := by unfold readE; rw [hc]; simp [hk, hv]
            rw [hr]
            exact readEntry_e l a p n r' hc hk hv u vp w hl hg
          | some V =>
            have hr : readE l = (restW r').map fun cs => ⟨p, 1, V, cs⟩ := by unfold readE; rw [hc]; simp [hk, hv]
            by_cases h45 : joinC 32 r' = [45]
            · have hw : restW r' = some [] := by unfold restW; rw [if_pos h45]
              rw [hr, hw]
              refine (readEntry_f l a p n r' V hc hk hv h45 u vp w hl hg).mono ?_
              rintro e w' ⟨rfl, hb⟩
              exact ⟨⟨none, 0, rfl, World.ownsRow_nil _ _ _ _⟩, hb⟩
            · by_cases hne : r' = []
              · subst hne
                have hw : restW [] = none := by unfold restW; rw [if_neg h45, if_pos rfl]
                rw [hr, hw]
                exact readEntry_g l a p n V hc hk hv u vp w hl hg
              · have hw : restW r' = (cutC 44 (joinC 32 r')).mapM hexW := by unfold restW; rw [if_neg h45, if_neg hne]
                rw [hr, hw]
                refine (readEntry_h l a p n r' _ V hc hk hv h45 hne rfl u vp w hl hg).mono ?_
                rintro e w' ⟨he, hb⟩
                cases hm : (cutC 44 (joinC 32 r')).mapM hexW with
                | none => rw [hm] at he; exact ⟨he, hb⟩
                | some ds => rw [hm] at he; exact ⟨he, hb⟩
      · have hr : readE l = some ⟨p, K, 0, []⟩ := by unfold readE; rw [hc]; simp [hk, h1]
        rw [hr]
        refine (readEntry_c l a p K rest hc hk h1 u vp w hl hg).mono ?_
        rintro e w' ⟨rfl, hb⟩
        exact ⟨⟨none, 0, rfl, World.ownsRow_nil _ _ _ _⟩, hb⟩
theorem mapM_len : ∀ {ws : List Bs} {ds : List Int}, ws.mapM hexW = some ds → ds.length = ws.length
  | [], ds, h => by simp at h; subst h; rfl
  | x :: ws, ds, h => by
    rw [List.mapM_cons] at h
    cases hx : hexW x with
    | none => rw [hx] at h; simp at h
    | some d =>
      cases hm : ws.mapM hexW with
      | none => rw [hx, hm] at h; simp at h
      | some ds' =>
        rw [hx, hm] at h
        simp at h
        subst h
        simp [mapM_len hm]
theorem readE_len {l : Bs} {e : En} (h : readE l = some e) : e.path.length ≤ l.length ∧ e.chunks.length ≤ l.length := by
  have hp := cutC_each (m := 32) l
  obtain ⟨a, r, hc⟩ := cutC_head (m := 32) l
  cases hk : kindW a with
  | none =>
    have hr : readE l = none := by unfold readE; rw [hc]; cases r <;> simp [hk]
    rw [hr] at h; cases h
  | some K =>
    match r, hc with
    | [], hc =>
      have hr : readE l = none := by unfold readE; rw [hc]
      rw [hr] at h; cases h
    | p :: rest, hc =>
      have hpl := hp p (by rw [hc]; simp)
      by_cases h1 : K = 1
      · subst h1
        match rest, hc with
        | [], hc =>
          have hr : readE l = none := by unfold readE; rw [hc]; simp [hk]
          rw [hr] at h; cases h
        | n :: r', hc =>
          cases hv : numW n with
          | none =>
            have hr : readE l = none := by unfold readE; rw [hc]; simp [hk, hv]
            rw [hr] at h; cases h
          | some V =>
            have hr : readE l = (restW r').map fun cs => ⟨p, 1, V, cs⟩ := by unfold readE; rw [hc]; simp [hk, hv]
            rw [hr] at h
            obtain ⟨cs, hcs, rfl⟩ := Option.map_eq_some_iff.1 h
            refine ⟨hpl, ?_⟩
            show cs.length ≤ l.length
            unfold restW at hcs
            split at hcs
            · cases hcs; simp
            · split at hcs
              · cases hcs
              · rename_i hne
                obtain ⟨e1, -, e2⟩ := cut_more hc (by simp)
                obtain ⟨e3, -, e4⟩ := cut_more e2 (by simp)
                obtain ⟨e5, -, -⟩ := cut_more e4 hne
                have l1 := congrArg List.length e1
                have l2 := congrArg List.length e3
                have l3 := congrArg List.length e5
                have l4 := cutC_length (m := 44) (joinC 32 r')
                have l5 := mapM_len hcs
                simp only [List.length_append, List.length_cons] at l1 l2 l3
                omega
      · have hr : readE l = some ⟨p, K, 0, []⟩ := by unfold readE; rw [hc]; simp [hk, h1]
        rw [hr] at h
        cases h
        exact ⟨hpl, by simp⟩

theorem catchE_panicking (b : Nat) (u0 u1 : Value) (u : TypeId) (vp : Value) (older : List PanicEntry) (w : World) (hx : Box w b u0 u1) :
    CallsD Tryz.prog 45 #[.pointer (some ⟨b, 0, none⟩)] (.panicking ({ v := .iface u vp, recovered := false } :: older)) w fun e u' w' =>
      e = .returned (.tuple #[]) ∧ u' = .panicking ({ v := .iface u vp, recovered := true } :: older) ∧ w' = (w.setCell ⟨b, 0, none⟩ (.int .i64 5)).setCell ⟨b, 1, none⟩ (.slice none 0 0) := by
  obtain ⟨⟨t0, t1⟩, z0, z1⟩ := hx
  refine callsD_of_wpS Tryz.func45 rfl fun c₀ cs hu => ?_
  apply wpS_seq
  apply wpS_region
  simp [wpOpsS, go_sem, recoverD, hu, Tryz.ntmps45, Exit.thenS]
  refine wpS_cond (t := true) (by simp [Act.eval, Array.replicate]) ?_
  simp only [if_true]
  apply wpS_region
  simp [wpOpsS, go_sem, t0, t1, z0, z1, bodyPostS, results, Tryz.results45]
theorem catchE_idle (p : Addr) (w : World) :
    CallsD Tryz.prog 45 #[.pointer (some p)] .returning w fun e u' w' => e = .returned (.tuple #[]) ∧ u' = .returning ∧ w' = w := by
  refine callsD_of_wpS Tryz.func45 rfl fun c₀ cs hu => ?_
  apply wpS_seq
  apply wpS_region
  simp [wpOpsS, go_sem, recoverD, hu, Tryz.ntmps45, Exit.thenS]
  refine wpS_cond (t := false) (by simp [Act.eval, Array.replicate]) ?_
  simp only [Bool.false_eq_true, if_false]
  refine wpS_of_wp (wp_skip ?_)
  cases c₀
  simp_all [bodyPostS, results, Tryz.results45]

set_option maxHeartbeats 3200000 in
theorem implParseEntry_unread (l : Bs) (u : TypeId) (vp : Value) (w : World) (hl : l.length ≤ 1048576) (hg : Gl w u vp) (hr : readE l = none) :
    Calls Tryz.prog 16 #[.string (str l)] w (ResE 5 [] w) := by
  have hmf : ∀ (fn : Fn) (first cap : Array Value) (w : World), (Instr.makeFunc fn first cap).run Tryz.prog w = .ok (.func fn first cap) w := fun _ _ _ _ => rfl
  have HH : Hid (∀ w1, Gl w1 u vp → Calls Tryz.prog 46 #[.string (str l)] w1 fun r w' => r = Dies u vp ∧ Below w1.heap.size w1 w') := hide (fun w1 h1 => by have := readEntry_any l u vp w1 (by omega) h1; rw [hr] at this; exact this)
  have X0 := hide (Box.new w (.int .i64 0) (.slice none 0 0) 27)
  have B0 := hide (below_alloc w (.cells #[.int .i64 0, .slice none 0 0] 27))
  have HG := hide (hg.below B0.out)
  clear hr hg
  go_enter_defers Tryz.func16, Tryz.ntmps16
  go_wp2_with fail
  refine (HH.out _ HG.out).mono ?_
  rintro r w1 ⟨rfl, b1⟩
  have X1 := X0.out.below b1
  have B1 := hide (below_next B0.out b1)
  clear b1
  go_wp2_with fail
  refine leaves_cons (f := 45) (args := #[.pointer (some ⟨w.heap.size, 0, none⟩)]) (by simp) (by simp [go_sem]) ?_
  refine (catchE_panicking w.heap.size _ _ u vp [] _ X1).mono ?_
  rintro e u' w'' ⟨rfl, rfl, rfl⟩
  obtain ⟨⟨t0, t1⟩, z0, z1⟩ := X1
  have hb := hide (ResE.bad (q := 5) (u := .int .i64 5) (v := .slice none 0 0) (Nat.le_refl _) B1.out)
  simp [Leaves, settle, results, Tryz.results16, go_sem, t0, t1]
  exact hb.out
set_option maxHeartbeats 3200000 in
theorem implParseEntry_not (l : Bs) (x : En) (u : TypeId) (vp : Value) (w : World) (hl : l.length ≤ 1048576) (hg : Gl w u vp) (hr : readE l = some x) (hne : entFault x ≠ 0 ∨ entText x ≠ l) :
    Calls Tryz.prog 16 #[.string (str l)] w (ResE 5 [] w) := by
  have hmf : ∀ (fn : Fn) (first cap : Array Value) (w : World), (Instr.makeFunc fn first cap).run Tryz.prog w = .ok (.func fn first cap) w := fun _ _ _ _ => rfl
  have HH : Hid (∀ w1, Gl w1 u vp → Calls Tryz.prog 46 #[.string (str l)] w1 fun r w' => (∃ av cv, r = .returned (.agg #[.string (str x.path), .int .i64 x.kind, .int .i64 x.size, .slice av x.chunks.length cv]) ∧ w'.ownsRow w1.heap.size 2 1 (.slice av x.chunks.length cv) x.chunks.length (x.chunks.map (Value.int .i64))) ∧ Below w1.heap.size w1 w') := hide (fun w1 h1 => by have := readEntry_any l u vp w1 (by omega) h1; rw [hr] at this; exact this)
  have HLN := hide (readE_len hr)
  have X0 := hide (Box.new w (.int .i64 0) (.slice none 0 0) 27)
  have B0 := hide (below_alloc w (.cells #[.int .i64 0, .slice none 0 0] 27))
  have HGB : Hid (∀ w' : World, Below w.heap.size w w' → Gl w' u vp) := hide (fun w' hb => hg.below hb)
  have HNE := hide hne
  clear hr hg hne
  obtain ⟨xp, xk, xs, xc⟩ := x
  go_enter_defers Tryz.func16, Tryz.ntmps16
  go_wp2_with fail
  refine (HH.out _ (HGB.out _ B0.out)).mono ?_
  rintro r w1 ⟨⟨av, cv, rfl, hO⟩, b1⟩
  have A1 := hide (below_next b1 (below_alloc w1 (.cells #[.string (str xp), .int .i64 xk, .int .i64 xs, .slice av xc.length cv] 39)))
  have M1 := hide (Four.new w1 (.string (str xp)) (.int .i64 xk) (.int .i64 xs) (.slice av xc.length cv) 39)
  have R1 := hide ((ownInts_reads hO rfl).below (below_alloc w1 (.cells #[.string (str xp), .int .i64 xk, .int .i64 xs, .slice av xc.length cv] 39)))
  have X1 := hide (X0.out.below A1.out)
  have B1 := hide (below_next B0.out A1.out)
  clear b1 hO X0 B0 A1
  go_wp2_with fail
  generalize w1.alloc (.cells #[.string (str xp), .int .i64 xk, .int .i64 xs, .slice av xc.length cv] 39) = W1 at *
  generalize w1.heap.size = b1 at *
  obtain ⟨m0, m1, m2, m3⟩ := M1.out
  go_wp2_with fail
  refine (implEntryText_any ⟨xp, xk, xs, xc⟩ av cv W1 R1.out (Nat.le_trans HLN.out.1 hl) (Nat.le_trans HLN.out.2 hl)).mono ?_
  rintro r w2 ⟨rfl, b2⟩
  have X2 := hide (X1.out.below b2)
  have B2 := hide (below_next B1.out b2)
  clear b2 X1 M1 R1 B1 m0 m1 m2 m3
  go_wp2_with fail
  refine (mustTell_no _ _ l u vp w2 HNE.out (fun w' hb => (HGB.out _ (below_next B2.out hb)).un)).mono ?_
  rintro r w3 ⟨rfl, b3⟩
  have X3 := X2.out.below b3
  have B3 := hide (below_next B2.out b3)
  clear b3
  go_wp2_with fail
  refine leaves_cons (f := 45) (args := #[.pointer (some ⟨w.heap.size, 0, none⟩)]) (by simp) (by simp [go_sem]) ?_
  refine (catchE_panicking w.heap.size _ _ u vp [] _ X3).mono ?_
  rintro e u' w'' ⟨rfl, rfl, rfl⟩
  obtain ⟨⟨t0, t1⟩, z0, z1⟩ := X3
  have hb := hide (ResE.bad (q := 5) (u := .int .i64 5) (v := .slice none 0 0) (Nat.le_refl _) B3.out)
  simp [Leaves, settle, results, Tryz.results16, go_sem, t0, t1]
  exact hb.out
set_option maxHeartbeats 3200000 in
theorem implParseEntry_yes (l : Bs) (x : En) (u : TypeId) (vp : Value) (w : World) (hl : l.length ≤ 1048576) (hg : Gl w u vp) (hr : readE l = some x) (hf : entFault x = 0) (ht : entText x = l) :
    Calls Tryz.prog 16 #[.string (str l)] w (ResE 0 [x] w) := by
  have hmf : ∀ (fn : Fn) (first cap : Array Value) (w : World), (Instr.makeFunc fn first cap).run Tryz.prog w = .ok (.func fn first cap) w := fun _ _ _ _ => rfl
  have HH : Hid (∀ w1, Gl w1 u vp → Calls Tryz.prog 46 #[.string (str l)] w1 fun r w' => (∃ av cv, r = .returned (.agg #[.string (str x.path), .int .i64 x.kind, .int .i64 x.size, .slice av x.chunks.length cv]) ∧ w'.ownsRow w1.heap.size 2 1 (.slice av x.chunks.length cv) x.chunks.length (x.chunks.map (Value.int .i64))) ∧ Below w1.heap.size w1 w') := hide (fun w1 h1 => by have := readEntry_any l u vp w1 (by omega) h1; rw [hr] at this; exact this)
  have HLN := hide (readE_len hr)
  have X0 := hide (Box.new w (.int .i64 0) (.slice none 0 0) 27)
  have B0 := hide (below_alloc w (.cells #[.int .i64 0, .slice none 0 0] 27))
  have hz0 : (w.alloc (.cells #[.int .i64 0, .slice none 0 0] 27)).heap.size = w.heap.size + 1 := by simp
  have HGB : Hid (∀ w' : World, Below w.heap.size w w' → Gl w' u vp) := hide (fun w' hb => hg.below hb)
  have HF := hide hf
  have HT := hide ht
  clear hr hg hf ht
  obtain ⟨xp, xk, xs, xc⟩ := x
  have HZ0 := hide hz0
  clear hz0
  go_enter_defers Tryz.func16, Tryz.ntmps16
  go_wp2_with fail
  refine (HH.out _ (HGB.out _ B0.out)).mono ?_
  rintro r w1 ⟨⟨av, cv, rfl, hO⟩, b1⟩
  rw [HZ0.out] at hO
  have A1 := hide (below_next b1 (below_alloc w1 (.cells #[.string (str xp), .int .i64 xk, .int .i64 xs, .slice av xc.length cv] 39)))
  have M1 := hide (Four.new w1 (.string (str xp)) (.int .i64 xk) (.int .i64 xs) (.slice av xc.length cv) 39)
  have O1 := hide (ownsRow_below hO (below_alloc w1 (.cells #[.string (str xp), .int .i64 xk, .int .i64 xs, .slice av xc.length cv] 39)))
  have X1 := hide (X0.out.below A1.out)
  have B1 := hide (below_next B0.out A1.out)
  clear b1 hO X0 B0 A1 HZ0
  go_wp2_with fail
  generalize w1.alloc (.cells #[.string (str xp), .int .i64 xk, .int .i64 xs, .slice av xc.length cv] 39) = W1 at *
  generalize w1.heap.size = b1 at *
  obtain ⟨m0, m1, m2, m3⟩ := M1.out
  go_wp2_with fail
  refine (implEntryText_any ⟨xp, xk, xs, xc⟩ av cv W1 (ownInts_reads O1.out rfl) (Nat.le_trans HLN.out.1 hl) (Nat.le_trans HLN.out.2 hl)).mono ?_
  rintro r w2 ⟨rfl, b2⟩
  have X2 := hide (X1.out.below b2)
  have M2 := hide (M1.out.below b2)
  have O2 := hide (ownsRow_below O1.out b2)
  have B2 := hide (below_next B1.out b2)
  clear b2 X1 M1 O1 B1 m0 m1 m2 m3
  rw [HF.out, HT.out]
  go_wp2_with fail
  refine (mustTell_yes l w2).mono ?_
  rintro r w3 ⟨rfl, b3⟩
  obtain ⟨m0, m1, m2, m3⟩ := M2.out.below b3
  have X3 := X2.out.below b3
  have O3 := hide (ownsRow_below O2.out b3)
  have B3 := hide (below_next B2.out b3)
  have hlt := X3.1.lt
  clear b3 X2 M2 O2 B2
  have GG := hide (GE.solo (w := w.alloc (.cells #[.int .i64 0, .slice none 0 0] 27)) (w1 := w3) (e := ⟨xp, xk, xs, xc⟩) (av := av) (cv := cv) (by simp; omega) (by simp; exact O3.out))
  obtain ⟨⟨t0, t1⟩, z0, z1⟩ := X3.below (below_alloc w3 (.cells #[.string (str xp), .int .i64 xk, .int .i64 xs, .slice av xc.length cv] 39))
  have B4 := hide (below_next B3.out (below_alloc w3 (.cells #[.string (str xp), .int .i64 xk, .int .i64 xs, .slice av xc.length cv] 39)))
  have hb := hide (ResE.of (q := 0) (w2 := w) (b := w.heap.size) (u := .int .i64 0) (v := .slice (some ⟨w3.heap.size, 0, none⟩) 1 1) (by simp) (Nat.le_refl _) rfl GG.out B4.out)
  clear GG B4 B3 O3 X3 hlt
  go_wp2_with fail
  refine leaves_cons (f := 45) (args := #[.pointer (some ⟨w.heap.size, 0, none⟩)]) (by simp) (by simp [go_sem]) ?_
  refine (catchE_idle ⟨w.heap.size, 0, none⟩ _).mono ?_
  rintro e u' w'' ⟨rfl, rfl, rfl⟩
  simp [Leaves, settle, results, Tryz.results16, go_sem, t0, t1]
  exact hb.out
theorem implParseEntry_any (l : Bs) (u : TypeId) (vp : Value) (w : World) (hl : l.length ≤ 1048576) (hg : Gl w u vp) :
    Calls Tryz.prog 16 #[.string (str l)] w (ResE (parCode l) (parList l) w) := by
  cases hr : readE l with
  | none =>
    obtain ⟨e1, e2⟩ := parE_no (parE_unread hr)
    rw [e1, e2]
    exact implParseEntry_unread l u vp w hl hg hr
  | some x =>
    by_cases hf : entFault x = 0
    · by_cases ht : textE x = l
      · obtain ⟨e1, e2⟩ := parE_so (parE_yes hr hf ht)
        rw [e1, e2]
        exact implParseEntry_yes l x u vp w hl hg hr hf (by rw [entText_good hf]; exact ht)
      · obtain ⟨e1, e2⟩ := parE_no (parE_not hr (.inr ht))
        rw [e1, e2]
        exact implParseEntry_not l x u vp w hl hg hr (.inr (by rw [entText_good hf]; exact ht))
    · obtain ⟨e1, e2⟩ := parE_no (parE_not hr (.inl hf))
      rw [e1, e2]
      exact implParseEntry_not l x u vp w hl hg hr (.inl hf)
end Go.Proofs.YtcknabinmbknaaaGreatDoor
