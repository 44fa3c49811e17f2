/-
  The program's ParseLayer at every text.
-/
import Derived.Test.YtlbccbikepkfiaaGreatDoorParQ
namespace Go.Proofs.YtlbccbikepkfiaaGreatDoor
open Go.RowKit
set_option linter.unusedVariables false
set_option maxRecDepth 100000

set_option maxHeartbeats 3200000 in
theorem implParseLayer_many (a : Option Addr) (c : Nat) (zs : List Int) (w : World) (hl : 600 < zs.length) (hm : zs.length ≤ 9223372036854775807) :
    Calls Tryz.prog 6 #[.slice a zs.length c] w (ResE 2 [] w) := by
  have hmf : ∀ (fn : Fn) (first cap : Array Value) (w : World), (Instr.makeFunc fn first cap).run Tryz.prog w = .ok (.func fn first cap) w := fun _ _ _ _ => rfl
  have hb : (600 : Int) < (zs.length : Int) := by omega
  have B0 := hide (below_alloc w (.cells #[.int .i64 0, .slice none 0 0] 27))
  obtain ⟨⟨t0, t1⟩, t2, t3⟩ := Box.new w (.int .i64 0) (.slice none 0 0) 27
  go_enter_defers Tryz.func6, Tryz.ntmps6
  go_wp2_with fail
  have hR : ResE 2 [] w (.returned (.agg #[.int .i64 2, .slice none 0 0])) (w.alloc (.cells #[.int .i64 2, .slice none 0 0] 27)) := ⟨none, 0, rfl, GE.nil _ _ _, below_alloc _ _⟩
  simp [bodyPostD, Leaves, results, Tryz.results6, go_sem]
  exact hR
set_option maxHeartbeats 3200000 in
theorem implParseLayer_unread (a : Option Addr) (c : Nat) (zs : List Int) (u : TypeId) (vp : Value) (w : World) (hl : zs.length ≤ 600) (h : RdB w a zs) (hg : Gl w u vp) (hr : readL (textB zs) = none) :
    Calls Tryz.prog 6 #[.slice a zs.length c] w (ResE 5 [] w) := by
  have hmf : ∀ (fn : Fn) (first cap : Array Value) (w : World), (Instr.makeFunc fn first cap).run Tryz.prog w = .ok (.func fn first cap) w := fun _ _ _ _ => rfl
  have hb : ¬ (600 : Int) < (zs.length : Int) := by omega
  have X0 := hide (Box.new w (.int .i64 0) (.slice none 0 0) 27)
  have B0 := hide (below_alloc w (.cells #[.int .i64 0, .slice none 0 0] 27))
  have hcv := conv_any (h.below B0.out) c
  have HRD := hide (readLayer_any (textB zs) u vp _ (by rw [textB_len]; exact hl) (hg.below B0.out))
  rw [hr] at HRD
  clear hg hr h
  generalize textB zs = T at *
  go_enter_defers Tryz.func6, Tryz.ntmps6
  go_wp2_with fail
  refine HRD.out.mono ?_
  rintro r w1 ⟨rfl, b1⟩
  have X1 := X0.out.below b1
  have B1 := hide (below_next B0.out b1)
  clear b1
  go_wp2_with fail
  refine leaves_cons (f := 20) (args := #[.pointer (some ⟨w.heap.size, 0, none⟩)]) (by simp) (by simp [go_sem]) ?_
  refine (catchL_panicking w.heap.size _ _ u vp [] _ X1).mono ?_
  rintro e u' w'' ⟨rfl, rfl, rfl⟩
  obtain ⟨⟨t0, t1⟩, z0, z1⟩ := X1
  have hb := hide (ResE.bad (q := 5) (u := .int .i64 5) (v := .slice none 0 0) (Nat.le_refl _) B1.out)
  simp [Leaves, settle, results, Tryz.results6, go_sem, t0, t1]
  exact hb.out
set_option maxHeartbeats 12800000 in
theorem implParseLayer_not (a : Option Addr) (c : Nat) (zs : List Int) (es : List En) (u : TypeId) (vp : Value) (w : World) (hl : zs.length ≤ 600) (h : RdB w a zs) (hg : Gl w u vp) (hr : readL (textB zs) = some es) (hne : layFaultP es ≠ 0 ∨ layText es ≠ textB zs) :
    Calls Tryz.prog 6 #[.slice a zs.length c] w (ResE 5 [] w) := by
  have hmf : ∀ (fn : Fn) (first cap : Array Value) (w : World), (Instr.makeFunc fn first cap).run Tryz.prog w = .ok (.func fn first cap) w := fun _ _ _ _ => rfl
  have hb : ¬ (600 : Int) < (zs.length : Int) := by omega
  have X0 := hide (Box.new w (.int .i64 0) (.slice none 0 0) 27)
  have B0 := hide (below_alloc w (.cells #[.int .i64 0, .slice none 0 0] 27))
  have HCV : Hid (∀ u : World, Below w.heap.size w u → Sem.run Tryz.prog (convert 22 9 (.slice a zs.length c)) u = .ok (.string (str (textB zs))) u) := hide (fun u hu => conv_any (h.below hu) c)
  have HGB : Hid (∀ w' : World, Below w.heap.size w w' → Gl w' u vp) := hide (fun w' hb => hg.below hb)
  have HRD := hide (readLayer_any (textB zs) u vp _ (by rw [textB_len]; exact hl) (HGB.out _ B0.out))
  rw [hr] at HRD
  obtain ⟨hsm, hel⟩ := readL_small hr (by rw [textB_len]; exact hl)
  have HS := hide hsm
  have hcv := HCV.out _ B0.out
  have HNE := hide hne
  clear hg hr h hsm hne
  generalize textB zs = T at *
  go_enter_defers Tryz.func6, Tryz.ntmps6
  go_wp2_with fail
  refine HRD.out.mono ?_
  rintro r w1 ⟨⟨lv, lc, rfl, hG⟩, b1⟩
  have X1 := hide (X0.out.below b1)
  have B1 := hide (below_next B0.out b1)
  have R1 := hide hG.rd
  have G1 := hide hG
  clear b1 hG hcv X0 B0 HRD
  go_wp2_with fail
  have HLT := hide (fun (u' : World) (hu : Below w1.heap.size w1 u') => layerText_any lv lc es.length es u' (R1.out.below hu) rfl (by omega) HS.out)
  have HMT := hide (fun (u' : World) (hu : Below w1.heap.size w1 u') => mustTell_no (layFaultP es) (layText es) T u vp u' HNE.out (fun w' hb => (HGB.out _ (below_next (below_next B1.out hu) hb)).un))
  generalize layFaultP es = F at *
  generalize layText es = TX at *
  have hcd := HCV.out w1.drew B1.out.drew
  refine wp_region_any (by kernel_rfl) ?_
  change wpAny _ _ _ _ _ _ _ (World.drew _)
  refine wpAny_ready (rs := [0, 2]) (by kernel_rfl) (by simp) ?_
  refine AllReady.cons rfl (fun K hK => ?_) ?_
  · go_simp
    refine hK _ _ ?_
    clear hK K
    refine wpAny_ready (rs := [1, 2]) (by kernel_rfl) (by simp) ?_
    refine AllReady.cons rfl (fun K hK => ?_) ?_
    · go_simp
      go_wp2_with fail
      refine (HLT.out _ (Below.refl w1.heap.size w1).drew).mono ?_
      rintro r w2 ⟨rfl, b2⟩
      have B2 := hide ((Below.refl w1.heap.size w1).drew.trans b2)
      have hc2 := HCV.out w2 (below_next B1.out B2.out)
      clear b2
      refine hK _ _ ?_
      clear hK K
      refine wpAny_ready (rs := [2]) (by kernel_rfl) (by simp) ?_
      refine AllReady.cons rfl (fun K hK => ?_) AllReady.nil
      go_simp
      refine hK _ _ ?_
      clear hK K
      refine wpAny_ready (rs := [3]) (by kernel_rfl) (by simp) ?_
      refine AllReady.cons rfl (fun K hK => ?_) AllReady.nil
      go_simp
      refine hK _ _ ?_
      clear hK K
      refine wpAny_ready (rs := [4]) (by kernel_rfl) (by simp) ?_
      refine AllReady.cons rfl (fun K hK => ?_) AllReady.nil
      go_simp
      go_wp2_with fail
      refine (HMT.out _ B2.out).mono ?_
      rintro r w3 ⟨rfl, b3⟩
      have B3 := hide (below_next (below_next B1.out B2.out) b3)
      have X3 := (X1.out.below B2.out).below b3
      clear b3
      go_wp2_with fail
      refine leaves_cons (f := 20) (args := #[.pointer (some ⟨w.heap.size, 0, none⟩)]) (by simp) (by simp [go_sem]) ?_
      refine (catchL_panicking w.heap.size _ _ u vp [] _ X3).mono ?_
      rintro e u' w'' ⟨rfl, rfl, rfl⟩
      obtain ⟨⟨t0, t1⟩, z0, z1⟩ := X3
      have hb := hide (ResE.bad (q := 5) (u := .int .i64 5) (v := .slice none 0 0) (Nat.le_refl _) B3.out)
      simp [Leaves, settle, results, Tryz.results6, go_sem, t0, t1]
      exact hb.out
    refine AllReady.cons rfl (fun K hK => ?_) AllReady.nil
    go_simp
    refine hK _ _ ?_
    clear hK K
    refine wpAny_ready (rs := [1, 3]) (by kernel_rfl) (by simp) ?_
    refine AllReady.cons rfl (fun K hK => ?_) ?_
    · go_simp
      go_wp2_with fail
      refine (HLT.out _ (Below.refl w1.heap.size w1).drew).mono ?_
      rintro r w2 ⟨rfl, b2⟩
      have B2 := hide ((Below.refl w1.heap.size w1).drew.trans b2)
      have hc2 := HCV.out w2 (below_next B1.out B2.out)
      clear b2
      refine hK _ _ ?_
      clear hK K
      refine wpAny_ready (rs := [3]) (by kernel_rfl) (by simp) ?_
      refine AllReady.cons rfl (fun K hK => ?_) AllReady.nil
      go_simp
      refine hK _ _ ?_
      clear hK K
      refine wpAny_ready (rs := [4]) (by kernel_rfl) (by simp) ?_
      refine AllReady.cons rfl (fun K hK => ?_) AllReady.nil
      go_simp
      go_wp2_with fail
      refine (HMT.out _ B2.out).mono ?_
      rintro r w3 ⟨rfl, b3⟩
      have B3 := hide (below_next (below_next B1.out B2.out) b3)
      have X3 := (X1.out.below B2.out).below b3
      clear b3
      go_wp2_with fail
      refine leaves_cons (f := 20) (args := #[.pointer (some ⟨w.heap.size, 0, none⟩)]) (by simp) (by simp [go_sem]) ?_
      refine (catchL_panicking w.heap.size _ _ u vp [] _ X3).mono ?_
      rintro e u' w'' ⟨rfl, rfl, rfl⟩
      obtain ⟨⟨t0, t1⟩, z0, z1⟩ := X3
      have hb := hide (ResE.bad (q := 5) (u := .int .i64 5) (v := .slice none 0 0) (Nat.le_refl _) B3.out)
      simp [Leaves, settle, results, Tryz.results6, go_sem, t0, t1]
      exact hb.out
    refine AllReady.cons rfl (fun K hK => ?_) AllReady.nil
    go_simp
    refine hK _ _ ?_
    clear hK K
    refine wpAny_ready (rs := [1]) (by kernel_rfl) (by simp) ?_
    refine AllReady.cons rfl (fun K hK => ?_) AllReady.nil
    go_simp
    go_wp2_with fail
    refine (HLT.out _ (Below.refl w1.heap.size w1).drew).mono ?_
    rintro r w2 ⟨rfl, b2⟩
    have B2 := hide ((Below.refl w1.heap.size w1).drew.trans b2)
    have hc2 := HCV.out w2 (below_next B1.out B2.out)
    clear b2
    refine hK _ _ ?_
    clear hK K
    refine wpAny_ready (rs := [4]) (by kernel_rfl) (by simp) ?_
    refine AllReady.cons rfl (fun K hK => ?_) AllReady.nil
    go_simp
    go_wp2_with fail
    refine (HMT.out _ B2.out).mono ?_
    rintro r w3 ⟨rfl, b3⟩
    have B3 := hide (below_next (below_next B1.out B2.out) b3)
    have X3 := (X1.out.below B2.out).below b3
    clear b3
    go_wp2_with fail
    refine leaves_cons (f := 20) (args := #[.pointer (some ⟨w.heap.size, 0, none⟩)]) (by simp) (by simp [go_sem]) ?_
    refine (catchL_panicking w.heap.size _ _ u vp [] _ X3).mono ?_
    rintro e u' w'' ⟨rfl, rfl, rfl⟩
    obtain ⟨⟨t0, t1⟩, z0, z1⟩ := X3
    have hb := hide (ResE.bad (q := 5) (u := .int .i64 5) (v := .slice none 0 0) (Nat.le_refl _) B3.out)
    simp [Leaves, settle, results, Tryz.results6, go_sem, t0, t1]
    exact hb.out
  refine AllReady.cons rfl (fun K hK => ?_) AllReady.nil
  go_simp
  refine hK _ _ ?_
  clear hK K
  refine wpAny_ready (rs := [0, 3]) (by kernel_rfl) (by simp) ?_
  refine AllReady.cons rfl (fun K hK => ?_) ?_
  · go_simp
    refine hK _ _ ?_
    clear hK K
    refine wpAny_ready (rs := [1, 3]) (by kernel_rfl) (by simp) ?_
    refine AllReady.cons rfl (fun K hK => ?_) ?_
    · go_simp
      go_wp2_with fail
      refine (HLT.out _ (Below.refl w1.heap.size w1).drew).mono ?_
      rintro r w2 ⟨rfl, b2⟩
      have B2 := hide ((Below.refl w1.heap.size w1).drew.trans b2)
      have hc2 := HCV.out w2 (below_next B1.out B2.out)
      clear b2
      refine hK _ _ ?_
      clear hK K
      refine wpAny_ready (rs := [3]) (by kernel_rfl) (by simp) ?_
      refine AllReady.cons rfl (fun K hK => ?_) AllReady.nil
      go_simp
      refine hK _ _ ?_
      clear hK K
      refine wpAny_ready (rs := [4]) (by kernel_rfl) (by simp) ?_
      refine AllReady.cons rfl (fun K hK => ?_) AllReady.nil
      go_simp
      go_wp2_with fail
      refine (HMT.out _ B2.out).mono ?_
      rintro r w3 ⟨rfl, b3⟩
      have B3 := hide (below_next (below_next B1.out B2.out) b3)
      have X3 := (X1.out.below B2.out).below b3
      clear b3
      go_wp2_with fail
      refine leaves_cons (f := 20) (args := #[.pointer (some ⟨w.heap.size, 0, none⟩)]) (by simp) (by simp [go_sem]) ?_
      refine (catchL_panicking w.heap.size _ _ u vp [] _ X3).mono ?_
      rintro e u' w'' ⟨rfl, rfl, rfl⟩
      obtain ⟨⟨t0, t1⟩, z0, z1⟩ := X3
      have hb := hide (ResE.bad (q := 5) (u := .int .i64 5) (v := .slice none 0 0) (Nat.le_refl _) B3.out)
      simp [Leaves, settle, results, Tryz.results6, go_sem, t0, t1]
      exact hb.out
    refine AllReady.cons rfl (fun K hK => ?_) AllReady.nil
    go_simp
    refine hK _ _ ?_
    clear hK K
    refine wpAny_ready (rs := [1]) (by kernel_rfl) (by simp) ?_
    refine AllReady.cons rfl (fun K hK => ?_) AllReady.nil
    go_simp
    go_wp2_with fail
    refine (HLT.out _ (Below.refl w1.heap.size w1).drew).mono ?_
    rintro r w2 ⟨rfl, b2⟩
    have B2 := hide ((Below.refl w1.heap.size w1).drew.trans b2)
    have hc2 := HCV.out w2 (below_next B1.out B2.out)
    clear b2
    refine hK _ _ ?_
    clear hK K
    refine wpAny_ready (rs := [4]) (by kernel_rfl) (by simp) ?_
    refine AllReady.cons rfl (fun K hK => ?_) AllReady.nil
    go_simp
    go_wp2_with fail
    refine (HMT.out _ B2.out).mono ?_
    rintro r w3 ⟨rfl, b3⟩
    have B3 := hide (below_next (below_next B1.out B2.out) b3)
    have X3 := (X1.out.below B2.out).below b3
    clear b3
    go_wp2_with fail
    refine leaves_cons (f := 20) (args := #[.pointer (some ⟨w.heap.size, 0, none⟩)]) (by simp) (by simp [go_sem]) ?_
    refine (catchL_panicking w.heap.size _ _ u vp [] _ X3).mono ?_
    rintro e u' w'' ⟨rfl, rfl, rfl⟩
    obtain ⟨⟨t0, t1⟩, z0, z1⟩ := X3
    have hb := hide (ResE.bad (q := 5) (u := .int .i64 5) (v := .slice none 0 0) (Nat.le_refl _) B3.out)
    simp [Leaves, settle, results, Tryz.results6, go_sem, t0, t1]
    exact hb.out
  refine AllReady.cons rfl (fun K hK => ?_) AllReady.nil
  go_simp
  refine hK _ _ ?_
  clear hK K
  refine wpAny_ready (rs := [0]) (by kernel_rfl) (by simp) ?_
  refine AllReady.cons rfl (fun K hK => ?_) AllReady.nil
  go_simp
  refine hK _ _ ?_
  clear hK K
  refine wpAny_ready (rs := [1]) (by kernel_rfl) (by simp) ?_
  refine AllReady.cons rfl (fun K hK => ?_) AllReady.nil
  go_simp
  go_wp2_with fail
  refine (HLT.out _ (Below.refl w1.heap.size w1).drew).mono ?_
  rintro r w2 ⟨rfl, b2⟩
  have B2 := hide ((Below.refl w1.heap.size w1).drew.trans b2)
  have hc2 := HCV.out w2 (below_next B1.out B2.out)
  clear b2
  refine hK _ _ ?_
  clear hK K
  refine wpAny_ready (rs := [4]) (by kernel_rfl) (by simp) ?_
  refine AllReady.cons rfl (fun K hK => ?_) AllReady.nil
  go_simp
  go_wp2_with fail
  refine (HMT.out _ B2.out).mono ?_
  rintro r w3 ⟨rfl, b3⟩
  have B3 := hide (below_next (below_next B1.out B2.out) b3)
  have X3 := (X1.out.below B2.out).below b3
  clear b3
  go_wp2_with fail
  refine leaves_cons (f := 20) (args := #[.pointer (some ⟨w.heap.size, 0, none⟩)]) (by simp) (by simp [go_sem]) ?_
  refine (catchL_panicking w.heap.size _ _ u vp [] _ X3).mono ?_
  rintro e u' w'' ⟨rfl, rfl, rfl⟩
  obtain ⟨⟨t0, t1⟩, z0, z1⟩ := X3
  have hb := hide (ResE.bad (q := 5) (u := .int .i64 5) (v := .slice none 0 0) (Nat.le_refl _) B3.out)
  simp [Leaves, settle, results, Tryz.results6, go_sem, t0, t1]
  exact hb.out
set_option maxHeartbeats 12800000 in
theorem implParseLayer_yes (a : Option Addr) (c : Nat) (zs : List Int) (es : List En) (u : TypeId) (vp : Value) (w : World) (hl : zs.length ≤ 600) (h : RdB w a zs) (hg : Gl w u vp) (hr : readL (textB zs) = some es) (hf : layFaultP es = 0) (ht : layText es = textB zs) :
    Calls Tryz.prog 6 #[.slice a zs.length c] w (ResE 0 es w) := by
  have hmf : ∀ (fn : Fn) (first cap : Array Value) (w : World), (Instr.makeFunc fn first cap).run Tryz.prog w = .ok (.func fn first cap) w := fun _ _ _ _ => rfl
  have hb : ¬ (600 : Int) < (zs.length : Int) := by omega
  have X0 := hide (Box.new w (.int .i64 0) (.slice none 0 0) 27)
  have B0 := hide (below_alloc w (.cells #[.int .i64 0, .slice none 0 0] 27))
  have HCV : Hid (∀ u : World, Below w.heap.size w u → Sem.run Tryz.prog (convert 22 9 (.slice a zs.length c)) u = .ok (.string (str (textB zs))) u) := hide (fun u hu => conv_any (h.below hu) c)
  have HGB : Hid (∀ w' : World, Below w.heap.size w w' → Gl w' u vp) := hide (fun w' hb => hg.below hb)
  have HRD := hide (readLayer_any (textB zs) u vp _ (by rw [textB_len]; exact hl) (HGB.out _ B0.out))
  rw [hr] at HRD
  obtain ⟨hsm, hel⟩ := readL_small hr (by rw [textB_len]; exact hl)
  have HS := hide hsm
  have hcv := HCV.out _ B0.out
  have HF := hide hf
  have HT := hide ht
  clear hg hr h hsm hf ht
  generalize textB zs = T at *
  go_enter_defers Tryz.func6, Tryz.ntmps6
  go_wp2_with fail
  refine HRD.out.mono ?_
  rintro r w1 ⟨⟨lv, lc, rfl, hG⟩, b1⟩
  have X1 := hide (X0.out.below b1)
  have B1 := hide (below_next B0.out b1)
  have R1 := hide hG.rd
  have G1 := hide hG
  clear b1 hG hcv X0 B0 HRD
  go_wp2_with fail
  have HLT := hide (fun (u' : World) (hu : Below w1.heap.size w1 u') => layerText_any lv lc es.length es u' (R1.out.below hu) rfl (by omega) HS.out)
  have HMT := hide (fun (u' : World) (hu : Below w1.heap.size w1 u') => mustTell_yes T u')
  rw [HF.out, HT.out] at HLT
  have hcd := HCV.out w1.drew B1.out.drew
  refine wp_region_any (by kernel_rfl) ?_
  change wpAny _ _ _ _ _ _ _ (World.drew _)
  refine wpAny_ready (rs := [0, 2]) (by kernel_rfl) (by simp) ?_
  refine AllReady.cons rfl (fun K hK => ?_) ?_
  · go_simp
    refine hK _ _ ?_
    clear hK K
    refine wpAny_ready (rs := [1, 2]) (by kernel_rfl) (by simp) ?_
    refine AllReady.cons rfl (fun K hK => ?_) ?_
    · go_simp
      go_wp2_with fail
      refine (HLT.out _ (Below.refl w1.heap.size w1).drew).mono ?_
      rintro r w2 ⟨rfl, b2⟩
      have B2 := hide ((Below.refl w1.heap.size w1).drew.trans b2)
      have hc2 := HCV.out w2 (below_next B1.out B2.out)
      clear b2
      refine hK _ _ ?_
      clear hK K
      refine wpAny_ready (rs := [2]) (by kernel_rfl) (by simp) ?_
      refine AllReady.cons rfl (fun K hK => ?_) AllReady.nil
      go_simp
      refine hK _ _ ?_
      clear hK K
      refine wpAny_ready (rs := [3]) (by kernel_rfl) (by simp) ?_
      refine AllReady.cons rfl (fun K hK => ?_) AllReady.nil
      go_simp
      refine hK _ _ ?_
      clear hK K
      refine wpAny_ready (rs := [4]) (by kernel_rfl) (by simp) ?_
      refine AllReady.cons rfl (fun K hK => ?_) AllReady.nil
      go_simp
      go_wp2_with fail
      refine (HMT.out _ B2.out).mono ?_
      rintro r w3 ⟨rfl, b3⟩
      have B3 := hide (below_next (below_next B1.out B2.out) b3)
      have X3 := (X1.out.below B2.out).below b3
      have G3 := hide ((G1.out.below B2.out).below b3)
      have hs3 := Nat.le_trans B2.out.size b3.size
      clear b3
      refine hK _ _ ?_
      clear hK K
      refine wpAny_done (by kernel_rfl) ?_ _
      obtain ⟨⟨t0, t1⟩, z0, z1⟩ := X3
      have hb := hide (ResE.of (q := 0) (w2 := w) (b := w.heap.size) (u := .int .i64 0) (v := .slice lv es.length lc) (by simp) (Nat.le_refl _) rfl (G3.out.wide hs3) B3.out)
      go_wp2_with fail
      refine leaves_cons (f := 20) (args := #[.pointer (some ⟨w.heap.size, 0, none⟩)]) (by simp) (by simp [go_sem]) ?_
      refine (catchL_idle ⟨w.heap.size, 0, none⟩ _).mono ?_
      rintro e u' w'' ⟨rfl, rfl, rfl⟩
      simp [Leaves, settle, results, Tryz.results6, go_sem, t0, t1]
      exact hb.out
    refine AllReady.cons rfl (fun K hK => ?_) AllReady.nil
    go_simp
    refine hK _ _ ?_
    clear hK K
    refine wpAny_ready (rs := [1, 3]) (by kernel_rfl) (by simp) ?_
    refine AllReady.cons rfl (fun K hK => ?_) ?_
    · go_simp
      go_wp2_with fail
      refine (HLT.out _ (Below.refl w1.heap.size w1).drew).mono ?_
      rintro r w2 ⟨rfl, b2⟩
      have B2 := hide ((Below.refl w1.heap.size w1).drew.trans b2)
      have hc2 := HCV.out w2 (below_next B1.out B2.out)
      clear b2
      refine hK _ _ ?_
      clear hK K
      refine wpAny_ready (rs := [3]) (by kernel_rfl) (by simp) ?_
      refine AllReady.cons rfl (fun K hK => ?_) AllReady.nil
      go_simp
      refine hK _ _ ?_
      clear hK K
      refine wpAny_ready (rs := [4]) (by kernel_rfl) (by simp) ?_
      refine AllReady.cons rfl (fun K hK => ?_) AllReady.nil
      go_simp
      go_wp2_with fail
      refine (HMT.out _ B2.out).mono ?_
      rintro r w3 ⟨rfl, b3⟩
      have B3 := hide (below_next (below_next B1.out B2.out) b3)
      have X3 := (X1.out.below B2.out).below b3
      have G3 := hide ((G1.out.below B2.out).below b3)
      have hs3 := Nat.le_trans B2.out.size b3.size
      clear b3
      refine hK _ _ ?_
      clear hK K
      refine wpAny_done (by kernel_rfl) ?_ _
      obtain ⟨⟨t0, t1⟩, z0, z1⟩ := X3
      have hb := hide (ResE.of (q := 0) (w2 := w) (b := w.heap.size) (u := .int .i64 0) (v := .slice lv es.length lc) (by simp) (Nat.le_refl _) rfl (G3.out.wide hs3) B3.out)
      go_wp2_with fail
      refine leaves_cons (f := 20) (args := #[.pointer (some ⟨w.heap.size, 0, none⟩)]) (by simp) (by simp [go_sem]) ?_
      refine (catchL_idle ⟨w.heap.size, 0, none⟩ _).mono ?_
      rintro e u' w'' ⟨rfl, rfl, rfl⟩
      simp [Leaves, settle, results, Tryz.results6, go_sem, t0, t1]
      exact hb.out
    refine AllReady.cons rfl (fun K hK => ?_) AllReady.nil
    go_simp
    refine hK _ _ ?_
    clear hK K
    refine wpAny_ready (rs := [1]) (by kernel_rfl) (by simp) ?_
    refine AllReady.cons rfl (fun K hK => ?_) AllReady.nil
    go_simp
    go_wp2_with fail
    refine (HLT.out _ (Below.refl w1.heap.size w1).drew).mono ?_
    rintro r w2 ⟨rfl, b2⟩
    have B2 := hide ((Below.refl w1.heap.size w1).drew.trans b2)
    have hc2 := HCV.out w2 (below_next B1.out B2.out)
    clear b2
    refine hK _ _ ?_
    clear hK K
    refine wpAny_ready (rs := [4]) (by kernel_rfl) (by simp) ?_
    refine AllReady.cons rfl (fun K hK => ?_) AllReady.nil
    go_simp
    go_wp2_with fail
    refine (HMT.out _ B2.out).mono ?_
    rintro r w3 ⟨rfl, b3⟩
    have B3 := hide (below_next (below_next B1.out B2.out) b3)
    have X3 := (X1.out.below B2.out).below b3
    have G3 := hide ((G1.out.below B2.out).below b3)
    have hs3 := Nat.le_trans B2.out.size b3.size
    clear b3
    refine hK _ _ ?_
    clear hK K
    refine wpAny_done (by kernel_rfl) ?_ _
    obtain ⟨⟨t0, t1⟩, z0, z1⟩ := X3
    have hb := hide (ResE.of (q := 0) (w2 := w) (b := w.heap.size) (u := .int .i64 0) (v := .slice lv es.length lc) (by simp) (Nat.le_refl _) rfl (G3.out.wide hs3) B3.out)
    go_wp2_with fail
    refine leaves_cons (f := 20) (args := #[.pointer (some ⟨w.heap.size, 0, none⟩)]) (by simp) (by simp [go_sem]) ?_
    refine (catchL_idle ⟨w.heap.size, 0, none⟩ _).mono ?_
    rintro e u' w'' ⟨rfl, rfl, rfl⟩
    simp [Leaves, settle, results, Tryz.results6, go_sem, t0, t1]
    exact hb.out
  refine AllReady.cons rfl (fun K hK => ?_) AllReady.nil
  go_simp
  refine hK _ _ ?_
  clear hK K
  refine wpAny_ready (rs := [0, 3]) (by kernel_rfl) (by simp) ?_
  refine AllReady.cons rfl (fun K hK => ?_) ?_
  · go_simp
    refine hK _ _ ?_
    clear hK K
    refine wpAny_ready (rs := [1, 3]) (by kernel_rfl) (by simp) ?_
    refine AllReady.cons rfl (fun K hK => ?_) ?_
    · go_simp
      go_wp2_with fail
      refine (HLT.out _ (Below.refl w1.heap.size w1).drew).mono ?_
      rintro r w2 ⟨rfl, b2⟩
      have B2 := hide ((Below.refl w1.heap.size w1).drew.trans b2)
      have hc2 := HCV.out w2 (below_next B1.out B2.out)
      clear b2
      refine hK _ _ ?_
      clear hK K
      refine wpAny_ready (rs := [3]) (by kernel_rfl) (by simp) ?_
      refine AllReady.cons rfl (fun K hK => ?_) AllReady.nil
      go_simp
      refine hK _ _ ?_
      clear hK K
      refine wpAny_ready (rs := [4]) (by kernel_rfl) (by simp) ?_
      refine AllReady.cons rfl (fun K hK => ?_) AllReady.nil
      go_simp
      go_wp2_with fail
      refine (HMT.out _ B2.out).mono ?_
      rintro r w3 ⟨rfl, b3⟩
      have B3 := hide (below_next (below_next B1.out B2.out) b3)
      have X3 := (X1.out.below B2.out).below b3
      have G3 := hide ((G1.out.below B2.out).below b3)
      have hs3 := Nat.le_trans B2.out.size b3.size
      clear b3
      refine hK _ _ ?_
      clear hK K
      refine wpAny_done (by kernel_rfl) ?_ _
      obtain ⟨⟨t0, t1⟩, z0, z1⟩ := X3
      have hb := hide (ResE.of (q := 0) (w2 := w) (b := w.heap.size) (u := .int .i64 0) (v := .slice lv es.length lc) (by simp) (Nat.le_refl _) rfl (G3.out.wide hs3) B3.out)
      go_wp2_with fail
      refine leaves_cons (f := 20) (args := #[.pointer (some ⟨w.heap.size, 0, none⟩)]) (by simp) (by simp [go_sem]) ?_
      refine (catchL_idle ⟨w.heap.size, 0, none⟩ _).mono ?_
      rintro e u' w'' ⟨rfl, rfl, rfl⟩
      simp [Leaves, settle, results, Tryz.results6, go_sem, t0, t1]
      exact hb.out
    refine AllReady.cons rfl (fun K hK => ?_) AllReady.nil
    go_simp
    refine hK _ _ ?_
    clear hK K
    refine wpAny_ready (rs := [1]) (by kernel_rfl) (by simp) ?_
    refine AllReady.cons rfl (fun K hK => ?_) AllReady.nil
    go_simp
    go_wp2_with fail
    refine (HLT.out _ (Below.refl w1.heap.size w1).drew).mono ?_
    rintro r w2 ⟨rfl, b2⟩
    have B2 := hide ((Below.refl w1.heap.size w1).drew.trans b2)
    have hc2 := HCV.out w2 (below_next B1.out B2.out)
    clear b2
    refine hK _ _ ?_
    clear hK K
    refine wpAny_ready (rs := [4]) (by kernel_rfl) (by simp) ?_
    refine AllReady.cons rfl (fun K hK => ?_) AllReady.nil
    go_simp
    go_wp2_with fail
    refine (HMT.out _ B2.out).mono ?_
    rintro r w3 ⟨rfl, b3⟩
    have B3 := hide (below_next (below_next B1.out B2.out) b3)
    have X3 := (X1.out.below B2.out).below b3
    have G3 := hide ((G1.out.below B2.out).below b3)
    have hs3 := Nat.le_trans B2.out.size b3.size
    clear b3
    refine hK _ _ ?_
    clear hK K
    refine wpAny_done (by kernel_rfl) ?_ _
    obtain ⟨⟨t0, t1⟩, z0, z1⟩ := X3
    have hb := hide (ResE.of (q := 0) (w2 := w) (b := w.heap.size) (u := .int .i64 0) (v := .slice lv es.length lc) (by simp) (Nat.le_refl _) rfl (G3.out.wide hs3) B3.out)
    go_wp2_with fail
    refine leaves_cons (f := 20) (args := #[.pointer (some ⟨w.heap.size, 0, none⟩)]) (by simp) (by simp [go_sem]) ?_
    refine (catchL_idle ⟨w.heap.size, 0, none⟩ _).mono ?_
    rintro e u' w'' ⟨rfl, rfl, rfl⟩
    simp [Leaves, settle, results, Tryz.results6, go_sem, t0, t1]
    exact hb.out
  refine AllReady.cons rfl (fun K hK => ?_) AllReady.nil
  go_simp
  refine hK _ _ ?_
  clear hK K
  refine wpAny_ready (rs := [0]) (by kernel_rfl) (by simp) ?_
  refine AllReady.cons rfl (fun K hK => ?_) AllReady.nil
  go_simp
  refine hK _ _ ?_
  clear hK K
  refine wpAny_ready (rs := [1]) (by kernel_rfl) (by simp) ?_
  refine AllReady.cons rfl (fun K hK => ?_) AllReady.nil
  go_simp
  go_wp2_with fail
  refine (HLT.out _ (Below.refl w1.heap.size w1).drew).mono ?_
  rintro r w2 ⟨rfl, b2⟩
  have B2 := hide ((Below.refl w1.heap.size w1).drew.trans b2)
  have hc2 := HCV.out w2 (below_next B1.out B2.out)
  clear b2
  refine hK _ _ ?_
  clear hK K
  refine wpAny_ready (rs := [4]) (by kernel_rfl) (by simp) ?_
  refine AllReady.cons rfl (fun K hK => ?_) AllReady.nil
  go_simp
  go_wp2_with fail
  refine (HMT.out _ B2.out).mono ?_
  rintro r w3 ⟨rfl, b3⟩
  have B3 := hide (below_next (below_next B1.out B2.out) b3)
  have X3 := (X1.out.below B2.out).below b3
  have G3 := hide ((G1.out.below B2.out).below b3)
  have hs3 := Nat.le_trans B2.out.size b3.size
  clear b3
  refine hK _ _ ?_
  clear hK K
  refine wpAny_done (by kernel_rfl) ?_ _
  obtain ⟨⟨t0, t1⟩, z0, z1⟩ := X3
  have hb := hide (ResE.of (q := 0) (w2 := w) (b := w.heap.size) (u := .int .i64 0) (v := .slice lv es.length lc) (by simp) (Nat.le_refl _) rfl (G3.out.wide hs3) B3.out)
  go_wp2_with fail
  refine leaves_cons (f := 20) (args := #[.pointer (some ⟨w.heap.size, 0, none⟩)]) (by simp) (by simp [go_sem]) ?_
  refine (catchL_idle ⟨w.heap.size, 0, none⟩ _).mono ?_
  rintro e u' w'' ⟨rfl, rfl, rfl⟩
  simp [Leaves, settle, results, Tryz.results6, go_sem, t0, t1]
  exact hb.out
theorem implParseLayer_any (a : Option Addr) (c : Nat) (zs : List Int) (u : TypeId) (vp : Value) (w : World) (hm : zs.length ≤ 9223372036854775807) (h : RdB w a zs) (hg : Gl w u vp) :
    Calls Tryz.prog 6 #[.slice a zs.length c] w (ResE (layCode (textB zs)) (layList (textB zs)) w) := by
  by_cases hl : 600 < zs.length
  · obtain ⟨e1, e2⟩ := lay_many (t := textB zs) (by rw [textB_len]; exact hl)
    rw [e1, e2]
    exact implParseLayer_many a c zs w hl hm
  · have hl' : ¬ 600 < (textB zs).length := by rw [textB_len]; exact hl
    cases hr : readL (textB zs) with
    | none =>
      obtain ⟨e1, e2⟩ := lay_no hl' (parL_unread hr)
      rw [e1, e2]
      exact implParseLayer_unread a c zs u vp w (by omega) h hg hr
    | some es =>
      by_cases hf : layFaultP es = 0
      · by_cases ht : packL es = textB zs
        · obtain ⟨e1, e2⟩ := lay_so hl' (parL_yes hr hf ht)
          rw [e1, e2]
          exact implParseLayer_yes a c zs es u vp w (by omega) h hg hr hf (by rw [layText_good hf]; exact ht)
        · obtain ⟨e1, e2⟩ := lay_no hl' (parL_not hr (.inr ht))
          rw [e1, e2]
          exact implParseLayer_not a c zs es u vp w (by omega) h hg hr (.inr (by rw [layText_good hf]; exact ht))
      · obtain ⟨e1, e2⟩ := lay_no hl' (parL_not hr (.inl hf))
        rw [e1, e2]
        exact implParseLayer_not a c zs es u vp w (by omega) h hg hr (.inl hf)
end Go.Proofs.YtlbccbikepkfiaaGreatDoor
