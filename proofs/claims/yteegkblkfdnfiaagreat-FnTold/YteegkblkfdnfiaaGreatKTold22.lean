/-
  At every byte slice the law FnTold returns true: what is committed does not turn any more. No condition.
-/
import Derived.Test.YteegkblkfdnfiaaGreatKTold21
import Derived.ProofKit
import Derived.Lib.SlBytesConst
import Derived.Deep.CutRange
import Derived.OpenShut
import Derived.ShutString
import Derived.ChangeOld
import Derived.Deep.DrawnRows
import Derived.Deep.RegionHeld3
namespace Go.Proofs.YteegkblkfdnfiaaGreat.fnTold
open Go.ChangeShapes Go.WideShapes Go.ChangeAt Go.RowKit Go.Maps
set_option linter.unusedVariables false
attribute [local go_sem ↓] Go.wp_at_zero Go.wp_at_succ

theorem own : ownKnob Tryz.prog.godebug = none := by kernel_rfl
theorem laidOut : laidOutB Tryz.prog = true := by kernel_rfl
theorem tk {P : Program} {ops : Array Oper} {Q : Exit → Act → World → Prop} {md : Region.Mode} {S : World → Prop} (i d : Nat) (v : Value) {op : Op} {ty : TypeId} {pos : String} {af : Array Edge} {gd : Option (Nat × Bool)} {fuel : Nat} {listed : Array Bool} {a : Act} {w : World} (hS : S w) (hi : ops[i]? = some { dst := some d, op := op, type := ty, pos := pos, after := af, guard := gd })
    (hs : Region.noSelect ops = true) (hf : Region.free md ops listed i = true) (hr : (Region.ready md ops listed).contains i = true) (hQ : ∀ c a w, Q (.panic c) (a.put (some d) v) w → Q (.panic c) a w) (hy : YieldsIf P ops S { dst := some d, op := op, type := ty, pos := pos, after := af, guard := gd } v a)
    (h : wpAnyH P md ops Q S fuel (listed.setIfInBounds i true) (a.put (some d) v) w) : wpAnyH P md ops Q S (fuel + 1) listed a w := wpAnyH_take hi hs hf hr hQ hy hS h

theorem lwBig_no (a : Option Addr) (cap : Nat) (n : Nat) (w : World) (h : n ≤ 1048576) :
    Calls Tryz.prog 6 #[.slice a n cap] w fun e w' => e = .returned (.bool false) ∧ w' = w := by
  have hb : ¬ (1048576 : Int) < (n : Int) := by omega
  go_enter Tryz.func6, Tryz.ntmps6
  go_wp2
  go_ret
  exact ⟨ret_bool (by simp <;> omega), rfl⟩
theorem lwBig_yes (a : Option Addr) (cap : Nat) (n : Nat) (w : World) (h : 1048576 < n) (h2 : n ≤ maxLen) :
    Calls Tryz.prog 6 #[.slice a n cap] w fun e w' => e = .returned (.bool true) ∧ w' = w := by
  have hb : (1048576 : Int) < (n : Int) := by omega
  unfold maxLen at h2
  go_enter Tryz.func6, Tryz.ntmps6
  go_wp2
  go_ret
  exact ⟨ret_bool (by simp <;> omega), rfl⟩
theorem hello_reads (w : World) : Reads .u8 (w.alloc (.cells #[.int .u8 104, .int .u8 101, .int .u8 108, .int .u8 108, .int .u8 111] 5 (5, 6))) (some ⟨w.heap.size, 0, none⟩) tdH := by
  intro _
  refine ⟨w.heap.size, 0, rfl, by simp, fun i hi => ?_⟩
  have h5 : i < 5 := hi
  rw [Nat.zero_add]
  unfold World.cell?
  simp only [World.alloc_heap_new]
  match i, h5 with
  | 0, _ => rfl
  | 1, _ => rfl
  | 2, _ => rfl
  | 3, _ => rfl
  | 4, _ => rfl
theorem same_any (es : List En) (a b : Option Addr) (c d n m : Nat) (w : World) (h : RdE w a es) (h2 : RdE w b es) (hn : n = es.length) (hm : m = es.length) (hl : es.length ≤ 1048576) (hs : SmallE es) :
    Calls Tryz.prog 12 #[.slice a n c, .slice b m d] w fun r w' => r = .returned (.bool true) ∧ Below w.heap.size w w' := by
  have h1 := implSameLayers_any a b c d n m es es w h h2 hn hm hl hl hs hs
  rw [decide_eq_true (rfl : es = es)] at h1
  exact h1
theorem td_smF : SmallE [tdF] := fun e he => td_smE e (by simp at he; subst he; simp [tdU])
set_option maxRecDepth 100000 in
set_option maxHeartbeats 25600000 in
theorem walk (a0 : Option Addr) (cap0 : Nat) (zs : List Int) (w : World) (h : Reads .u8 w a0 zs) (hu : U8 zs) (hmax : zs.length ≤ maxLen) :
    Calls Tryz.prog 5 #[.slice a0 zs.length cap0] w fun e w' => e = .returned (.bool true) ∧ Below w.heap.size w w' := by
  have HR := hide h
  have HU := hide hu
  clear h hu
  by_cases hbig : 1048576 < zs.length
  · go_enter Tryz.func5, Tryz.ntmps5
    go_wp2_with fail
    refine (lwBig_yes _ _ _ _ hbig hmax).mono ?_
    rintro e w1 ⟨rfl, rfl⟩
    go_wp2_with fail
    go_ret
    exact ⟨rfl, Below.refl _ _⟩
  have hcv : ∀ (u : World) (C : Array Value) (n c : Nat), (convert 22 22 (.slice (some ⟨u.heap.size, 0, none⟩) n c)).run Tryz.prog (u.alloc (.cells C 5)) = .ok (.slice (some ⟨u.heap.size, 0, none⟩) n c) (u.alloc (.cells C 5 (C.size, C.size + 1))) := fun u C n c => Lib.run_convert_bytes_const u _ _ C n c Tryz.underlying22 Tryz.underlying5
  have hf28 : ∀ (u : World) (r : Int) (v : Value), (Instr.field 28 (.agg #[.int .i64 0, .int .i64 r, v]) 2).run Tryz.prog u = .ok v u := fun _ _ _ => by kernel_rfl
  have hf28r : ∀ (u : World) (r : Int) (v : Value), (Instr.field 28 (.agg #[.int .i64 0, .int .i64 r, v]) 1).run Tryz.prog u = .ok (.int .i64 r) u := fun _ _ _ => by kernel_rfl
  have hf33 : ∀ (u : World) (v : Value), (Instr.field 33 (.agg #[.int .i64 0, v]) 1).run Tryz.prog u = .ok v u := fun _ _ => by kernel_rfl
  have hf40 : ∀ (u : World) (v : Value), (Instr.field 40 (.agg #[.int .i64 0, .int .i64 0, v]) 2).run Tryz.prog u = .ok v u := fun _ _ => by kernel_rfl
  go_enter Tryz.func5, Tryz.ntmps5
  go_wp2_with fail
  refine (lwBig_no _ _ _ _ (by omega)).mono ?_
  rintro e w1 ⟨rfl, rfl⟩
  have B0 := hide (below_alloc w1 (.cells #[.string ⟨#[47, 97]⟩, .int .i64 2, .int .i64 0, .slice none 0 0] 50))
  have F0 : Hid (Four (w1.alloc (.cells #[.string ⟨#[47, 97]⟩, .int .i64 2, .int .i64 0, .slice none 0 0] 50)) w1.heap.size (.string (str [47, 97])) (.int .i64 2) (.int .i64 0) (.slice none 0 0)) := hide (Four.new w1 _ _ _ _ _)
  go_wp2_with fail
  refine (told1 _ _ F0.out).mono ?_
  rintro e w2 ⟨a2, c2, rfl, hr2, hb2⟩
  have B2 := hide (below_next B0.out hb2)
  have R2 := hide hr2.rd
  clear hr2 hb2
  go_wp2_with fail
  refine (told2 _ _ _ R2.out).mono ?_
  rintro e w3 ⟨a3, c3, rfl, hr3, hb3⟩
  have B3 := hide (below_next B2.out (below_next hb3 (below_alloc w3 (.cells #[.int .u8 104, .int .u8 101, .int .u8 108, .int .u8 108, .int .u8 111] 5 (5, 6)))))
  have R3 := hide (hr3.rd.below (below_alloc w3 (.cells #[.int .u8 104, .int .u8 101, .int .u8 108, .int .u8 108, .int .u8 111] 5 (5, 6))))
  clear hr3 hb3
  go_wp2_with fail
  refine (told3 _ _ _ _ R3.out (hello_reads w3)).mono ?_
  rintro e w4 ⟨a4, c4, rfl, hr4, hb4⟩
  have B4 := hide (below_next B3.out hb4)
  have R4 := hide hr4.rd
  clear hr4 hb4
  go_wp2_with fail
  refine (told4 _ _ _ R4.out).mono ?_
  rintro e w5 ⟨a5, c5, rfl, hr5, hb5⟩
  have B5 := hide (below_next B4.out hb5)
  have R5 := hide hr5.rd
  clear hr5 hb5
  go_wp2_with fail
  refine (told5 _ _ _ R5.out).mono ?_
  rintro e w6 ⟨a6, c6, rfl, hr6, hb6⟩
  have B6 := hide (below_next B5.out hb6)
  have R6 := hide hr6.rd
  clear hr6 hb6
  go_wp2_with fail
  refine (told6 [] td_right5 _ _ _ R6.out).mono ?_
  rintro e w7 ⟨a7, c7, rfl, hr7, hb7⟩
  have B7 := hide (below_next B6.out hb7)
  have R67 := hide (R6.out.below hb7)
  have R7 := hide hr7
  clear hr7 hb7
  go_wp2_with fail
  refine (told7 _ _ _ R7.out).mono ?_
  rintro e w8 ⟨a8, c8, rfl, hr8, hc8, hb8⟩
  have B8 := hide (below_next B7.out hb8)
  have R68 := hide (R67.out.below hb8)
  have R8 := hide hr8
  have HR8 := hide (HR.out.below B8.out)
  clear hr8 hb8 R67 R2 R3 R4 R5 R6 R7 B0 B2 B3 B4 B5 B6 B7 F0
  go_wp2_with fail
  go_loopw [4, 6] (fun v i wr => ∃ (k : Nat) (U : List En) (av : Option Addr) (cv : Nat), k ≤ 8 ∧ i = .int .i64 k ∧ v = .slice av 3 cv ∧ Hid (RightS (tdL U)) ∧ Hid (RdS wr av (tdL U)) ∧ Hid (Below w8.heap.size w8 wr)) (fun _ i _ => 8 - (intOf i).toNat)
  case atStart => exact ⟨0, [], a6, c6, by decide, rfl, rfl, hide td_right5, R68, hide (Below.refl _ _)⟩
  case round =>
    obtain ⟨k, U, av, cv, hk, rfl, rfl, HRU, HRS, HW⟩ := hrel
    by_cases hlt : k < 8
    · have hk8 : (k : Int) < 8 := by omega
      have BS := hide (below_alloc wr (.cells #[.string ⟨#[47, 97]⟩, .string ⟨#[47, 97, 47, 99]⟩, .string ⟨#[47, 98]⟩, .string ⟨#[47, 97, 47, 100]⟩] 9))
      go_wp2_with fail
      refine (lwAt_any a0 cap0 zs k 4 _ (HR8.out.below (below_next HW.out BS.out)) HU.out (by omega) (by omega) (by omega) (by decide) (by decide)).mono ?_
      rintro e w9 ⟨r0, rfl, hr0, hr4, hb9⟩
      have hcell : ∃ p : Bs, w9.cell? ⟨wr.heap.size, r0.toNat, none⟩ = some (.string (str p)) ∧ p.length ≤ 1048576 := by
        have h4 : r0 = 0 ∨ r0 = 1 ∨ r0 = 2 ∨ r0 = 3 := by omega
        rcases h4 with rfl | rfl | rfl | rfl
        · exact ⟨[47, 97], (hb9.cell (p := ⟨wr.heap.size, 0, none⟩) (by simp)).trans (by simp; rfl), by decide⟩
        · exact ⟨[47, 97, 47, 99], (hb9.cell (p := ⟨wr.heap.size, 1, none⟩) (by simp)).trans (by simp; rfl), by decide⟩
        · exact ⟨[47, 98], (hb9.cell (p := ⟨wr.heap.size, 2, none⟩) (by simp)).trans (by simp; rfl), by decide⟩
        · exact ⟨[47, 97, 47, 100], (hb9.cell (p := ⟨wr.heap.size, 3, none⟩) (by simp)).trans (by simp; rfl), by decide⟩
      obtain ⟨p, hp, hpl⟩ := hcell
      have BS9 := hide (below_next BS.out hb9)
      have B9 := hide (below_next HW.out BS9.out)
      clear hb9
      go_wp2_with fail
      have hk40 : (0 : Int) ≤ (k : Int) := by omega
      have BR : Hid (Below wr.heap.size wr w9.drew) := hide (BS9.out.drew)
      clear hp BS BS9 B9
      refine wp_region_held_drew (S := fun _ => True) (by kernel_rfl) trivial (fun hHeld => ?_)
      change wpAnyH _ _ _ _ _ _ (Array.replicate _ false) _ (World.drew _)
      generalize w9.drew = D at *
      refine tk 0 44 (.slice av 3 cv) hHeld rfl (by kernel_rfl) (by kernel_rfl) (by kernel_rfl) (fun _ _ _ h => h) (Or.inl ⟨by rfl, ?_⟩) ?_
      · intro w _
        go_simp
      try simp only [Act.put, List.setIfInBounds_toArray, List.set_cons_zero, List.set_cons_succ]
      refine tk 1 45 (.string (str p)) hHeld rfl (by kernel_rfl) (by kernel_rfl) (by kernel_rfl) (fun _ _ _ h => h) (Or.inl ⟨by rfl, ?_⟩) ?_
      · intro w _
        go_simp
      try simp only [Act.put, List.setIfInBounds_toArray, List.set_cons_zero, List.set_cons_succ]
      refine tk 4 48 (.slice a0 zs.length cap0) hHeld rfl (by kernel_rfl) (by kernel_rfl) (by kernel_rfl) (fun _ _ _ h => h) (Or.inl ⟨by rfl, ?_⟩) ?_
      · intro w _
        go_simp
      try simp only [Act.put, List.setIfInBounds_toArray, List.set_cons_zero, List.set_cons_succ]
      refine tk 5 49 (.int .i64 (k : Int)) hHeld rfl (by kernel_rfl) (by kernel_rfl) (by kernel_rfl) (fun _ _ _ h => h) (Or.inl ⟨by rfl, ?_⟩) ?_
      · intro w _
        go_simp
      try simp only [Act.put, List.setIfInBounds_toArray, List.set_cons_zero, List.set_cons_succ]
      refine tk 6 50 (.int .i64 ((k : Int) + 20)) hHeld rfl (by kernel_rfl) (by kernel_rfl) (by kernel_rfl) (fun _ _ _ h => h) (Or.inl ⟨by rfl, ?_⟩) ?_
      · intro w _
        go_simp <;> (first | done | decide | omega | (simp [IntKind.wrap, IntKind.bits, IntKind.signed]; omega))
      try simp only [Act.put, List.setIfInBounds_toArray, List.set_cons_zero, List.set_cons_succ]
      refine tk 9 53 (.slice a0 zs.length cap0) hHeld rfl (by kernel_rfl) (by kernel_rfl) (by kernel_rfl) (fun _ _ _ h => h) (Or.inl ⟨by rfl, ?_⟩) ?_
      · intro w _
        go_simp
      try simp only [Act.put, List.setIfInBounds_toArray, List.set_cons_zero, List.set_cons_succ]
      refine tk 10 54 (.int .i64 (k : Int)) hHeld rfl (by kernel_rfl) (by kernel_rfl) (by kernel_rfl) (fun _ _ _ h => h) (Or.inl ⟨by rfl, ?_⟩) ?_
      · intro w _
        go_simp
      try simp only [Act.put, List.setIfInBounds_toArray, List.set_cons_zero, List.set_cons_succ]
      refine tk 11 55 (.int .i64 ((k : Int) + 40)) hHeld rfl (by kernel_rfl) (by kernel_rfl) (by kernel_rfl) (fun _ _ _ h => h) (Or.inl ⟨by rfl, ?_⟩) ?_
      · intro w _
        go_simp <;> (first | done | decide | omega | (simp [IntKind.wrap, IntKind.bits, IntKind.signed]; omega))
      try simp only [Act.put, List.setIfInBounds_toArray, List.set_cons_zero, List.set_cons_succ]
      refine wpAnyH_ready (rs := [2, 7, 15]) (by kernel_rfl) (by simp) ?_
      refine AllReadyH.cons rfl (fun K hK => ?_) (AllReadyH.cons rfl (fun K hK => ?_) (AllReadyH.cons rfl (fun K hK => ?_) AllReadyH.nil))
      · have hbu := BR.out.size
        have BRn := hide (below_next BR.out (below_alloc D (.cells #[.int .u8 120, .int .u8 121, .int .u8 122] 5)))
        have XBn : Hid ((D.alloc (.cells #[.int .u8 120, .int .u8 121, .int .u8 122] 5)).heap[D.heap.size]? = some (.cells #[.int .u8 120, .int .u8 121, .int .u8 122] 5)) := hide (World.alloc_heap_new D _)
        have hsn : D.heap.size < (D.alloc (.cells #[.int .u8 120, .int .u8 121, .int .u8 122] 5)).heap.size := by simp
        go_simp
        refine hK.out _ _ trivial (fun hHeld => ?_)
        clear hK K BR
        try simp only [Act.put, List.setIfInBounds_toArray, List.set_cons_zero, List.set_cons_succ]
        generalize D.alloc (.cells #[.int .u8 120, .int .u8 121, .int .u8 122] 5) = v1 at *
        have BR := BRn
        clear BRn
        have XB := XBn
        clear XBn
        have hb2s := BR.out.size
        refine wpAnyH_ready (rs := [3, 7, 15]) (by kernel_rfl) (by simp) ?_
        refine AllReadyH.cons rfl (fun K hK => ?_) (AllReadyH.cons rfl (fun K hK => ?_) (AllReadyH.cons rfl (fun K hK => ?_) AllReadyH.nil))
        · have hc3 : (convert 22 22 (.slice (some ⟨D.heap.size, 0, none⟩) 3 3)).run Tryz.prog v1 = .ok (.slice (some ⟨D.heap.size, 0, none⟩) 3 3) (v1.freeze ⟨D.heap.size, 3, none⟩ 1) := run_convert_at v1 _ _ #[.int .u8 120, .int .u8 121, .int .u8 122] D.heap.size 3 3 XB.out Tryz.underlying22 Tryz.underlying5
          have KF := hide (freeze_kept v1 D.heap.size 3)
          have RX := hide (xyz_reads v1 D.heap.size XB.out)
          have hks := KF.out.size
          have hbr := BR.out.size
          have BRn := hide (BR.out.trans (KF.out.below BR.out.size (fun k hk e => by omega)))
          go_simp
          refine hK.out _ _ trivial (fun hHeld => ?_)
          clear hK K BR hc3 XB
          try simp only [Act.put, List.setIfInBounds_toArray, List.set_cons_zero, List.set_cons_succ]
          generalize v1.freeze ⟨D.heap.size, 3, none⟩ 1 = v2 at *
          have BR := BRn
          clear BRn
          clear KF
          refine wpAnyH_ready (rs := [7, 15]) (by kernel_rfl) (by simp) ?_
          refine AllReadyH.cons rfl (fun K hK => ?_) (AllReadyH.cons rfl (fun K hK => ?_) AllReadyH.nil)
          · go_simp
            refine (lwAt_any a0 cap0 zs (k + 20) 4 _ (HR8.out.below (below_next HW.out BR.out)) HU.out (by omega) (by omega) (by omega) (by decide) (by decide)).mono ?_
            rintro e v3 ⟨r1, rfl, hr1, hr1', hbv3⟩
            have BRn := hide (below_next BR.out hbv3)
            have RXn := hide (RX.out.below hbv3)
            have hsv3 := hbv3.size
            clear hbv3 BR RX
            have BR := BRn
            clear BRn
            have RX := RXn
            clear RXn
            go_wp2_with fail
            refine hK.out _ _ trivial (fun hHeld => ?_)
            clear hK K
            try simp only [Act.put, List.setIfInBounds_toArray, List.set_cons_zero, List.set_cons_succ]
            refine tk 8 52 (.slice (some ⟨D.heap.size, 0, none⟩) r1.toNat 3) hHeld rfl (by kernel_rfl) (by kernel_rfl) (by kernel_rfl) (fun _ _ _ h => h) (Or.inl ⟨by rfl, ?_⟩) ?_
            · intro w _
              go_simp <;> (first | done | decide | omega | (simp [IntKind.wrap, IntKind.bits, IntKind.signed]; omega))
            try simp only [Act.put, List.setIfInBounds_toArray, List.set_cons_zero, List.set_cons_succ]
            refine wpAnyH_ready (rs := [12, 15]) (by kernel_rfl) (by simp) ?_
            refine AllReadyH.cons rfl (fun K hK => ?_) (AllReadyH.cons rfl (fun K hK => ?_) AllReadyH.nil)
            · go_simp
              refine (lwAt_any a0 cap0 zs (k + 40) 3 _ (HR8.out.below (below_next HW.out BR.out)) HU.out (by omega) (by omega) (by omega) (by decide) (by decide)).mono ?_
              rintro e v4 ⟨r2, rfl, hr2, hr2', hbv4⟩
              have BRn := hide (below_next BR.out hbv4)
              have RXn := hide (RX.out.below hbv4)
              have hsv4 := hbv4.size
              clear hbv4 BR RX
              have BR := BRn
              clear BRn
              have RX := RXn
              clear RXn
              go_wp2_with fail
              refine hK.out _ _ trivial (fun hHeld => ?_)
              clear hK K
              try simp only [Act.put, List.setIfInBounds_toArray, List.set_cons_zero, List.set_cons_succ]
              refine tk 13 57 (.int .i64 (1 + r2)) hHeld rfl (by kernel_rfl) (by kernel_rfl) (by kernel_rfl) (fun _ _ _ h => h) (Or.inl ⟨by rfl, ?_⟩) ?_
              · intro w _
                go_simp <;> (first | done | decide | omega | (simp [IntKind.wrap, IntKind.bits, IntKind.signed]; omega))
              try simp only [Act.put, List.setIfInBounds_toArray, List.set_cons_zero, List.set_cons_succ]
              refine wpAnyH_ready (rs := [14, 15]) (by kernel_rfl) (by simp) ?_
              refine AllReadyH.cons rfl (fun K hK => ?_) (AllReadyH.cons rfl (fun K hK => ?_) AllReadyH.nil)
              · go_simp
                refine (told8 U HRU.out av cv p (some ⟨D.heap.size, 0, none⟩) r1.toNat 3 (tdX.take r1.toNat) (1 + r2) _ (HRS.out.below BR.out) (by omega) hpl (RX.out.take _) (by simp [tdX]; omega) (td_x8 _) (by simp [tdX]; omega) (by simp [tdX]; omega)).mono ?_
                rintro e v5 ⟨rep, V, hRV, av', cv', rfl, hHV, hbv5⟩
                have HRV := hide hRV
                have HHV := hide hHV
                have BRn := hide (below_next BR.out hbv5)
                have hsv5 := hbv5.size
                clear hRV hHV hbv5 BR
                have BR := BRn
                clear BRn
                go_wp2_with fail
                refine hK.out _ _ trivial (fun hHeld => ?_)
                clear hK K
                try simp only [Act.put, List.setIfInBounds_toArray, List.set_cons_zero, List.set_cons_succ]
                refine wpAnyH_ready (rs := [15]) (by kernel_rfl) (by simp) ?_
                refine AllReadyH.cons rfl (fun K hK => ?_) AllReadyH.nil
                have hbu := BR.out.size
                have BRn := hide (below_next BR.out (below_alloc v5 (.cells #[.int .i64 0, .int .i64 0, .slice none 0 0] 28)))
                have XAn := hide (Box3.new v5 (.int .i64 0) (.int .i64 0) (.slice none 0 0) 28)
                have hsn : v5.heap.size < (v5.alloc (.cells #[.int .i64 0, .int .i64 0, .slice none 0 0] 28)).heap.size := by simp
                go_simp
                refine hK.out _ _ trivial (fun hHeld => ?_)
                clear hK K
                try simp only [Act.put, List.setIfInBounds_toArray, List.set_cons_zero, List.set_cons_succ]
                clear BRn XAn
                refine wpAnyH_ready (rs := [16]) (by kernel_rfl) (by simp) ?_
                refine AllReadyH.cons rfl (fun K hK => ?_) AllReadyH.nil
                go_simp
                have RVZ := hide (HHV.out.rd.below (below_alloc v5 (.cells #[.int .i64 0, .int .i64 rep, .slice av' (tdL V).length cv'] 28)))
                have BZ := hide (below_next BR.out (below_alloc v5 (.cells #[.int .i64 0, .int .i64 rep, .slice av' (tdL V).length cv'] 28)))
                have CZ : Hid (Tri (v5.alloc (.cells #[.int .i64 0, .int .i64 rep, .slice av' (tdL V).length cv'] 28)) v5.heap.size (.int .i64 0) (.int .i64 rep) (.slice av' (tdL V).length cv')) := hide ⟨by simp, by simp, by simp⟩
                refine hK.out _ _ trivial (fun hHeld => ?_)
                clear hK K
                try simp only [Act.put, List.setIfInBounds_toArray, List.set_cons_zero, List.set_cons_succ]
                refine wpAnyH_done (by kernel_rfl) ?_ _
                skip
                generalize v5.alloc (.cells #[.int .i64 0, .int .i64 rep, .slice av' (tdL V).length cv'] 28) = Z at *
                obtain ⟨g0, g1, g2⟩ := CZ.out
                go_wp2_with fail
                go_roundw
                case rel => exact ⟨k + 1, V, av', cv', by omega, by go_num, rfl, HRV, RVZ, hide (below_next HW.out BZ.out)⟩
                case measure => simp [intOf]; omega
              · have hbu := BR.out.size
                have BRn := hide (below_next BR.out (below_alloc v4 (.cells #[.int .i64 0, .int .i64 0, .slice none 0 0] 28)))
                have XAn := hide (Box3.new v4 (.int .i64 0) (.int .i64 0) (.slice none 0 0) 28)
                have RXn := hide (RX.out.below (below_alloc v4 (.cells #[.int .i64 0, .int .i64 0, .slice none 0 0] 28)))
                have hsn : v4.heap.size < (v4.alloc (.cells #[.int .i64 0, .int .i64 0, .slice none 0 0] 28)).heap.size := by simp
                go_simp
                refine hK.out _ _ trivial (fun hHeld => ?_)
                clear hK K BR RX
                try simp only [Act.put, List.setIfInBounds_toArray, List.set_cons_zero, List.set_cons_succ]
                generalize v4.alloc (.cells #[.int .i64 0, .int .i64 0, .slice none 0 0] 28) = v7 at *
                have BR := BRn
                clear BRn
                have XA := XAn
                clear XAn
                have RX := RXn
                clear RXn
                refine wpAnyH_ready (rs := [14]) (by kernel_rfl) (by simp) ?_
                refine AllReadyH.cons rfl (fun K hK => ?_) AllReadyH.nil
                go_simp
                refine (told8 U HRU.out av cv p (some ⟨D.heap.size, 0, none⟩) r1.toNat 3 (tdX.take r1.toNat) (1 + r2) _ (HRS.out.below BR.out) (by omega) hpl (RX.out.take _) (by simp [tdX]; omega) (td_x8 _) (by simp [tdX]; omega) (by simp [tdX]; omega)).mono ?_
                rintro e v8 ⟨rep, V, hRV, av', cv', rfl, hHV, hbv8⟩
                have HRV := hide hRV
                have HHV := hide hHV
                have BRn := hide (below_next BR.out hbv8)
                have XAn := hide (XA.out.below hbv8)
                have hb8 : v4.heap.size < v7.heap.size := XA.out.lt
                have hsv8 := hbv8.size
                clear hRV hHV hbv8 BR XA
                have BR := BRn
                clear BRn
                have XA := XAn
                clear XAn
                go_wp2_with fail
                refine hK.out _ _ trivial (fun hHeld => ?_)
                clear hK K
                try simp only [Act.put, List.setIfInBounds_toArray, List.set_cons_zero, List.set_cons_succ]
                refine wpAnyH_ready (rs := [16]) (by kernel_rfl) (by simp) ?_
                refine AllReadyH.cons rfl (fun K hK => ?_) AllReadyH.nil
                obtain ⟨⟨z0, z1, z2⟩, z3, z4, z5⟩ := XA.out
                go_simp
                have KT := hide (Kept.three' v8 v4.heap.size (.int .i64 0) (.int .i64 rep) (.slice av' (tdL V).length cv'))
                have RVZ := hide (HHV.out _ (KT.out.mono (fun x _ e => by omega)))
                have BZ := hide (BR.out.trans (KT.out.below BR.out.size (fun x hx e => by omega)))
                have CZ := hide (Tri.of (XA.out.set (.int .i64 0) (.int .i64 rep) (.slice av' (tdL V).length cv')))
                clear z0 z1 z2 z3 z4 z5
                refine hK.out _ _ trivial (fun hHeld => ?_)
                clear hK K
                try simp only [Act.put, List.setIfInBounds_toArray, List.set_cons_zero, List.set_cons_succ]
                refine wpAnyH_done (by kernel_rfl) ?_ _
                generalize ((v8.setCell ⟨v4.heap.size, 0, none⟩ (.int .i64 0)).setCell ⟨v4.heap.size, 1, none⟩ (.int .i64 rep)).setCell ⟨v4.heap.size, 2, none⟩ (.slice av' (tdL V).length cv') = Z at *
                obtain ⟨g0, g1, g2⟩ := CZ.out
                go_wp2_with fail
                go_roundw
                case rel => exact ⟨k + 1, V, av', cv', by omega, by go_num, rfl, HRV, RVZ, hide (below_next HW.out BZ.out)⟩
                case measure => simp [intOf]; omega
            · have hbu := BR.out.size
              have BRn := hide (below_next BR.out (below_alloc v3 (.cells #[.int .i64 0, .int .i64 0, .slice none 0 0] 28)))
              have XAn := hide (Box3.new v3 (.int .i64 0) (.int .i64 0) (.slice none 0 0) 28)
              have RXn := hide (RX.out.below (below_alloc v3 (.cells #[.int .i64 0, .int .i64 0, .slice none 0 0] 28)))
              have hsn : v3.heap.size < (v3.alloc (.cells #[.int .i64 0, .int .i64 0, .slice none 0 0] 28)).heap.size := by simp
              go_simp
              refine hK.out _ _ trivial (fun hHeld => ?_)
              clear hK K BR RX
              try simp only [Act.put, List.setIfInBounds_toArray, List.set_cons_zero, List.set_cons_succ]
              generalize v3.alloc (.cells #[.int .i64 0, .int .i64 0, .slice none 0 0] 28) = v10 at *
              have BR := BRn
              clear BRn
              have XA := XAn
              clear XAn
              have RX := RXn
              clear RXn
              refine wpAnyH_ready (rs := [12]) (by kernel_rfl) (by simp) ?_
              refine AllReadyH.cons rfl (fun K hK => ?_) AllReadyH.nil
              go_simp
              refine (lwAt_any a0 cap0 zs (k + 40) 3 _ (HR8.out.below (below_next HW.out BR.out)) HU.out (by omega) (by omega) (by omega) (by decide) (by decide)).mono ?_
              rintro e v11 ⟨r2, rfl, hr2, hr2', hbv11⟩
              have BRn := hide (below_next BR.out hbv11)
              have RXn := hide (RX.out.below hbv11)
              have XAn := hide (XA.out.below hbv11)
              have hsv11 := hbv11.size
              clear hbv11 BR RX XA
              have BR := BRn
              clear BRn
              have RX := RXn
              clear RXn
              have XA := XAn
              clear XAn
              go_wp2_with fail
              refine hK.out _ _ trivial (fun hHeld => ?_)
              clear hK K
              try simp only [Act.put, List.setIfInBounds_toArray, List.set_cons_zero, List.set_cons_succ]
              refine tk 13 57 (.int .i64 (1 + r2)) hHeld rfl (by kernel_rfl) (by kernel_rfl) (by kernel_rfl) (fun _ _ _ h => h) (Or.inl ⟨by rfl, ?_⟩) ?_
              · intro w _
                go_simp <;> (first | done | decide | omega | (simp [IntKind.wrap, IntKind.bits, IntKind.signed]; omega))
              try simp only [Act.put, List.setIfInBounds_toArray, List.set_cons_zero, List.set_cons_succ]
              refine wpAnyH_ready (rs := [14]) (by kernel_rfl) (by simp) ?_
              refine AllReadyH.cons rfl (fun K hK => ?_) AllReadyH.nil
              go_simp
              refine (told8 U HRU.out av cv p (some ⟨D.heap.size, 0, none⟩) r1.toNat 3 (tdX.take r1.toNat) (1 + r2) _ (HRS.out.below BR.out) (by omega) hpl (RX.out.take _) (by simp [tdX]; omega) (td_x8 _) (by simp [tdX]; omega) (by simp [tdX]; omega)).mono ?_
              rintro e v12 ⟨rep, V, hRV, av', cv', rfl, hHV, hbv12⟩
              have HRV := hide hRV
              have HHV := hide hHV
              have BRn := hide (below_next BR.out hbv12)
              have XAn := hide (XA.out.below hbv12)
              have hb8 : v3.heap.size < v11.heap.size := XA.out.lt
              have hsv12 := hbv12.size
              clear hRV hHV hbv12 BR XA
              have BR := BRn
              clear BRn
              have XA := XAn
              clear XAn
              go_wp2_with fail
              refine hK.out _ _ trivial (fun hHeld => ?_)
              clear hK K
              try simp only [Act.put, List.setIfInBounds_toArray, List.set_cons_zero, List.set_cons_succ]
              refine wpAnyH_ready (rs := [16]) (by kernel_rfl) (by simp) ?_
              refine AllReadyH.cons rfl (fun K hK => ?_) AllReadyH.nil
              obtain ⟨⟨z0, z1, z2⟩, z3, z4, z5⟩ := XA.out
              go_simp
              have KT := hide (Kept.three' v12 v3.heap.size (.int .i64 0) (.int .i64 rep) (.slice av' (tdL V).length cv'))
              have RVZ := hide (HHV.out _ (KT.out.mono (fun x _ e => by omega)))
              have BZ := hide (BR.out.trans (KT.out.below BR.out.size (fun x hx e => by omega)))
              have CZ := hide (Tri.of (XA.out.set (.int .i64 0) (.int .i64 rep) (.slice av' (tdL V).length cv')))
              clear z0 z1 z2 z3 z4 z5
              refine hK.out _ _ trivial (fun hHeld => ?_)
              clear hK K
              try simp only [Act.put, List.setIfInBounds_toArray, List.set_cons_zero, List.set_cons_succ]
              refine wpAnyH_done (by kernel_rfl) ?_ _
              generalize ((v12.setCell ⟨v3.heap.size, 0, none⟩ (.int .i64 0)).setCell ⟨v3.heap.size, 1, none⟩ (.int .i64 rep)).setCell ⟨v3.heap.size, 2, none⟩ (.slice av' (tdL V).length cv') = Z at *
              obtain ⟨g0, g1, g2⟩ := CZ.out
              go_wp2_with fail
              go_roundw
              case rel => exact ⟨k + 1, V, av', cv', by omega, by go_num, rfl, HRV, RVZ, hide (below_next HW.out BZ.out)⟩
              case measure => simp [intOf]; omega
          · have hbu := BR.out.size
            have BRn := hide (below_next BR.out (below_alloc v2 (.cells #[.int .i64 0, .int .i64 0, .slice none 0 0] 28)))
            have XAn := hide (Box3.new v2 (.int .i64 0) (.int .i64 0) (.slice none 0 0) 28)
            have RXn := hide (RX.out.below (below_alloc v2 (.cells #[.int .i64 0, .int .i64 0, .slice none 0 0] 28)))
            have hsn : v2.heap.size < (v2.alloc (.cells #[.int .i64 0, .int .i64 0, .slice none 0 0] 28)).heap.size := by simp
            go_simp
            refine hK.out _ _ trivial (fun hHeld => ?_)
            clear hK K BR RX
            try simp only [Act.put, List.setIfInBounds_toArray, List.set_cons_zero, List.set_cons_succ]
            generalize v2.alloc (.cells #[.int .i64 0, .int .i64 0, .slice none 0 0] 28) = v14 at *
            have BR := BRn
            clear BRn
            have XA := XAn
            clear XAn
            have RX := RXn
            clear RXn
            refine wpAnyH_ready (rs := [7]) (by kernel_rfl) (by simp) ?_
            refine AllReadyH.cons rfl (fun K hK => ?_) AllReadyH.nil
            go_simp
            refine (lwAt_any a0 cap0 zs (k + 20) 4 _ (HR8.out.below (below_next HW.out BR.out)) HU.out (by omega) (by omega) (by omega) (by decide) (by decide)).mono ?_
            rintro e v15 ⟨r1, rfl, hr1, hr1', hbv15⟩
            have BRn := hide (below_next BR.out hbv15)
            have RXn := hide (RX.out.below hbv15)
            have XAn := hide (XA.out.below hbv15)
            have hsv15 := hbv15.size
            clear hbv15 BR RX XA
            have BR := BRn
            clear BRn
            have RX := RXn
            clear RXn
            have XA := XAn
            clear XAn
            go_wp2_with fail
            refine hK.out _ _ trivial (fun hHeld => ?_)
            clear hK K
            try simp only [Act.put, List.setIfInBounds_toArray, List.set_cons_zero, List.set_cons_succ]
            refine tk 8 52 (.slice (some ⟨D.heap.size, 0, none⟩) r1.toNat 3) hHeld rfl (by kernel_rfl) (by kernel_rfl) (by kernel_rfl) (fun _ _ _ h => h) (Or.inl ⟨by rfl, ?_⟩) ?_
            · intro w _
              go_simp <;> (first | done | decide | omega | (simp [IntKind.wrap, IntKind.bits, IntKind.signed]; omega))
            try simp only [Act.put, List.setIfInBounds_toArray, List.set_cons_zero, List.set_cons_succ]
            refine wpAnyH_ready (rs := [12]) (by kernel_rfl) (by simp) ?_
            refine AllReadyH.cons rfl (fun K hK => ?_) AllReadyH.nil
            go_simp
            refine (lwAt_any a0 cap0 zs (k + 40) 3 _ (HR8.out.below (below_next HW.out BR.out)) HU.out (by omega) (by omega) (by omega) (by decide) (by decide)).mono ?_
            rintro e v16 ⟨r2, rfl, hr2, hr2', hbv16⟩
            have BRn := hide (below_next BR.out hbv16)
            have RXn := hide (RX.out.below hbv16)
            have XAn := hide (XA.out.below hbv16)
            have hsv16 := hbv16.size
            clear hbv16 BR RX XA
            have BR := BRn
            clear BRn
            have RX := RXn
            clear RXn
            have XA := XAn
            clear XAn
            go_wp2_with fail
            refine hK.out _ _ trivial (fun hHeld => ?_)
            clear hK K
            try simp only [Act.put, List.setIfInBounds_toArray, List.set_cons_zero, List.set_cons_succ]
            refine tk 13 57 (.int .i64 (1 + r2)) hHeld rfl (by kernel_rfl) (by kernel_rfl) (by kernel_rfl) (fun _ _ _ h => h) (Or.inl ⟨by rfl, ?_⟩) ?_
            · intro w _
              go_simp <;> (first | done | decide | omega | (simp [IntKind.wrap, IntKind.bits, IntKind.signed]; omega))
            try simp only [Act.put, List.setIfInBounds_toArray, List.set_cons_zero, List.set_cons_succ]
            refine wpAnyH_ready (rs := [14]) (by kernel_rfl) (by simp) ?_
            refine AllReadyH.cons rfl (fun K hK => ?_) AllReadyH.nil
            go_simp
            refine (told8 U HRU.out av cv p (some ⟨D.heap.size, 0, none⟩) r1.toNat 3 (tdX.take r1.toNat) (1 + r2) _ (HRS.out.below BR.out) (by omega) hpl (RX.out.take _) (by simp [tdX]; omega) (td_x8 _) (by simp [tdX]; omega) (by simp [tdX]; omega)).mono ?_
            rintro e v17 ⟨rep, V, hRV, av', cv', rfl, hHV, hbv17⟩
            have HRV := hide hRV
            have HHV := hide hHV
            have BRn := hide (below_next BR.out hbv17)
            have XAn := hide (XA.out.below hbv17)
            have hb8 : v2.heap.size < v16.heap.size := XA.out.lt
            have hsv17 := hbv17.size
            clear hRV hHV hbv17 BR XA
            have BR := BRn
            clear BRn
            have XA := XAn
            clear XAn
            go_wp2_with fail
            refine hK.out _ _ trivial (fun hHeld => ?_)
            clear hK K
            try simp only [Act.put, List.setIfInBounds_toArray, List.set_cons_zero, List.set_cons_succ]
            refine wpAnyH_ready (rs := [16]) (by kernel_rfl) (by simp) ?_
            refine AllReadyH.cons rfl (fun K hK => ?_) AllReadyH.nil
            obtain ⟨⟨z0, z1, z2⟩, z3, z4, z5⟩ := XA.out
            go_simp
            have KT := hide (Kept.three' v17 v2.heap.size (.int .i64 0) (.int .i64 rep) (.slice av' (tdL V).length cv'))
            have RVZ := hide (HHV.out _ (KT.out.mono (fun x _ e => by omega)))
            have BZ := hide (BR.out.trans (KT.out.below BR.out.size (fun x hx e => by omega)))
            have CZ := hide (Tri.of (XA.out.set (.int .i64 0) (.int .i64 rep) (.slice av' (tdL V).length cv')))
            clear z0 z1 z2 z3 z4 z5
            refine hK.out _ _ trivial (fun hHeld => ?_)
            clear hK K
            try simp only [Act.put, List.setIfInBounds_toArray, List.set_cons_zero, List.set_cons_succ]
            refine wpAnyH_done (by kernel_rfl) ?_ _
            generalize ((v17.setCell ⟨v2.heap.size, 0, none⟩ (.int .i64 0)).setCell ⟨v2.heap.size, 1, none⟩ (.int .i64 rep)).setCell ⟨v2.heap.size, 2, none⟩ (.slice av' (tdL V).length cv') = Z at *
            obtain ⟨g0, g1, g2⟩ := CZ.out
            go_wp2_with fail
            go_roundw
            case rel => exact ⟨k + 1, V, av', cv', by omega, by go_num, rfl, HRV, RVZ, hide (below_next HW.out BZ.out)⟩
            case measure => simp [intOf]; omega
        · go_simp
          refine (lwAt_any a0 cap0 zs (k + 20) 4 _ (HR8.out.below (below_next HW.out BR.out)) HU.out (by omega) (by omega) (by omega) (by decide) (by decide)).mono ?_
          rintro e v19 ⟨r1, rfl, hr1, hr1', hbv19⟩
          have BRn := hide (below_next BR.out hbv19)
          have XBn := hide ((hbv19.block _ (Array.getElem?_eq_some_iff.1 XB.out).1).trans XB.out)
          have hsv19 := hbv19.size
          clear hbv19 BR XB
          have BR := BRn
          clear BRn
          have XB := XBn
          clear XBn
          go_wp2_with fail
          refine hK.out _ _ trivial (fun hHeld => ?_)
          clear hK K
          try simp only [Act.put, List.setIfInBounds_toArray, List.set_cons_zero, List.set_cons_succ]
          refine wpAnyH_ready (rs := [3, 12, 15]) (by kernel_rfl) (by simp) ?_
          refine AllReadyH.cons rfl (fun K hK => ?_) (AllReadyH.cons rfl (fun K hK => ?_) (AllReadyH.cons rfl (fun K hK => ?_) AllReadyH.nil))
          · have hc3 : (convert 22 22 (.slice (some ⟨D.heap.size, 0, none⟩) 3 3)).run Tryz.prog v19 = .ok (.slice (some ⟨D.heap.size, 0, none⟩) 3 3) (v19.freeze ⟨D.heap.size, 3, none⟩ 1) := run_convert_at v19 _ _ #[.int .u8 120, .int .u8 121, .int .u8 122] D.heap.size 3 3 XB.out Tryz.underlying22 Tryz.underlying5
            have KF := hide (freeze_kept v19 D.heap.size 3)
            have RX := hide (xyz_reads v19 D.heap.size XB.out)
            have hks := KF.out.size
            have hbr := BR.out.size
            have BRn := hide (BR.out.trans (KF.out.below BR.out.size (fun k hk e => by omega)))
            go_simp
            refine hK.out _ _ trivial (fun hHeld => ?_)
            clear hK K BR hc3 XB
            try simp only [Act.put, List.setIfInBounds_toArray, List.set_cons_zero, List.set_cons_succ]
            generalize v19.freeze ⟨D.heap.size, 3, none⟩ 1 = v20 at *
            have BR := BRn
            clear BRn
            clear KF
            refine tk 8 52 (.slice (some ⟨D.heap.size, 0, none⟩) r1.toNat 3) hHeld rfl (by kernel_rfl) (by kernel_rfl) (by kernel_rfl) (fun _ _ _ h => h) (Or.inl ⟨by rfl, ?_⟩) ?_
            · intro w _
              go_simp <;> (first | done | decide | omega | (simp [IntKind.wrap, IntKind.bits, IntKind.signed]; omega))
            try simp only [Act.put, List.setIfInBounds_toArray, List.set_cons_zero, List.set_cons_succ]
            refine wpAnyH_ready (rs := [12, 15]) (by kernel_rfl) (by simp) ?_
            refine AllReadyH.cons rfl (fun K hK => ?_) (AllReadyH.cons rfl (fun K hK => ?_) AllReadyH.nil)
            · go_simp
              refine (lwAt_any a0 cap0 zs (k + 40) 3 _ (HR8.out.below (below_next HW.out BR.out)) HU.out (by omega) (by omega) (by omega) (by decide) (by decide)).mono ?_
              rintro e v21 ⟨r2, rfl, hr2, hr2', hbv21⟩
              have BRn := hide (below_next BR.out hbv21)
              have RXn := hide (RX.out.below hbv21)
              have hsv21 := hbv21.size
              clear hbv21 BR RX
              have BR := BRn
              clear BRn
              have RX := RXn
              clear RXn
              go_wp2_with fail
              refine hK.out _ _ trivial (fun hHeld => ?_)
              clear hK K
              try simp only [Act.put, List.setIfInBounds_toArray, List.set_cons_zero, List.set_cons_succ]
              refine tk 13 57 (.int .i64 (1 + r2)) hHeld rfl (by kernel_rfl) (by kernel_rfl) (by kernel_rfl) (fun _ _ _ h => h) (Or.inl ⟨by rfl, ?_⟩) ?_
              · intro w _
                go_simp <;> (first | done | decide | omega | (simp [IntKind.wrap, IntKind.bits, IntKind.signed]; omega))
              try simp only [Act.put, List.setIfInBounds_toArray, List.set_cons_zero, List.set_cons_succ]
              refine wpAnyH_ready (rs := [14, 15]) (by kernel_rfl) (by simp) ?_
              refine AllReadyH.cons rfl (fun K hK => ?_) (AllReadyH.cons rfl (fun K hK => ?_) AllReadyH.nil)
              · go_simp
                refine (told8 U HRU.out av cv p (some ⟨D.heap.size, 0, none⟩) r1.toNat 3 (tdX.take r1.toNat) (1 + r2) _ (HRS.out.below BR.out) (by omega) hpl (RX.out.take _) (by simp [tdX]; omega) (td_x8 _) (by simp [tdX]; omega) (by simp [tdX]; omega)).mono ?_
                rintro e v22 ⟨rep, V, hRV, av', cv', rfl, hHV, hbv22⟩
                have HRV := hide hRV
                have HHV := hide hHV
                have BRn := hide (below_next BR.out hbv22)
                have hsv22 := hbv22.size
                clear hRV hHV hbv22 BR
                have BR := BRn
                clear BRn
                go_wp2_with fail
                refine hK.out _ _ trivial (fun hHeld => ?_)
                clear hK K
                try simp only [Act.put, List.setIfInBounds_toArray, List.set_cons_zero, List.set_cons_succ]
                refine wpAnyH_ready (rs := [15]) (by kernel_rfl) (by simp) ?_
                refine AllReadyH.cons rfl (fun K hK => ?_) AllReadyH.nil
                have hbu := BR.out.size
                have BRn := hide (below_next BR.out (below_alloc v22 (.cells #[.int .i64 0, .int .i64 0, .slice none 0 0] 28)))
                have XAn := hide (Box3.new v22 (.int .i64 0) (.int .i64 0) (.slice none 0 0) 28)
                have hsn : v22.heap.size < (v22.alloc (.cells #[.int .i64 0, .int .i64 0, .slice none 0 0] 28)).heap.size := by simp
                go_simp
                refine hK.out _ _ trivial (fun hHeld => ?_)
                clear hK K
                try simp only [Act.put, List.setIfInBounds_toArray, List.set_cons_zero, List.set_cons_succ]
                clear BRn XAn
                refine wpAnyH_ready (rs := [16]) (by kernel_rfl) (by simp) ?_
                refine AllReadyH.cons rfl (fun K hK => ?_) AllReadyH.nil
                go_simp
                have RVZ := hide (HHV.out.rd.below (below_alloc v22 (.cells #[.int .i64 0, .int .i64 rep, .slice av' (tdL V).length cv'] 28)))
                have BZ := hide (below_next BR.out (below_alloc v22 (.cells #[.int .i64 0, .int .i64 rep, .slice av' (tdL V).length cv'] 28)))
                have CZ : Hid (Tri (v22.alloc (.cells #[.int .i64 0, .int .i64 rep, .slice av' (tdL V).length cv'] 28)) v22.heap.size (.int .i64 0) (.int .i64 rep) (.slice av' (tdL V).length cv')) := hide ⟨by simp, by simp, by simp⟩
                refine hK.out _ _ trivial (fun hHeld => ?_)
                clear hK K
                try simp only [Act.put, List.setIfInBounds_toArray, List.set_cons_zero, List.set_cons_succ]
                refine wpAnyH_done (by kernel_rfl) ?_ _
                skip
                generalize v22.alloc (.cells #[.int .i64 0, .int .i64 rep, .slice av' (tdL V).length cv'] 28) = Z at *
                obtain ⟨g0, g1, g2⟩ := CZ.out
                go_wp2_with fail
                go_roundw
                case rel => exact ⟨k + 1, V, av', cv', by omega, by go_num, rfl, HRV, RVZ, hide (below_next HW.out BZ.out)⟩
                case measure => simp [intOf]; omega
              · have hbu := BR.out.size
                have BRn := hide (below_next BR.out (below_alloc v21 (.cells #[.int .i64 0, .int .i64 0, .slice none 0 0] 28)))
                have XAn := hide (Box3.new v21 (.int .i64 0) (.int .i64 0) (.slice none 0 0) 28)
                have RXn := hide (RX.out.below (below_alloc v21 (.cells #[.int .i64 0, .int .i64 0, .slice none 0 0] 28)))
                have hsn : v21.heap.size < (v21.alloc (.cells #[.int .i64 0, .int .i64 0, .slice none 0 0] 28)).heap.size := by simp
                go_simp
                refine hK.out _ _ trivial (fun hHeld => ?_)
                clear hK K BR RX
                try simp only [Act.put, List.setIfInBounds_toArray, List.set_cons_zero, List.set_cons_succ]
                generalize v21.alloc (.cells #[.int .i64 0, .int .i64 0, .slice none 0 0] 28) = v24 at *
                have BR := BRn
                clear BRn
                have XA := XAn
                clear XAn
                have RX := RXn
                clear RXn
                refine wpAnyH_ready (rs := [14]) (by kernel_rfl) (by simp) ?_
                refine AllReadyH.cons rfl (fun K hK => ?_) AllReadyH.nil
                go_simp
                refine (told8 U HRU.out av cv p (some ⟨D.heap.size, 0, none⟩) r1.toNat 3 (tdX.take r1.toNat) (1 + r2) _ (HRS.out.below BR.out) (by omega) hpl (RX.out.take _) (by simp [tdX]; omega) (td_x8 _) (by simp [tdX]; omega) (by simp [tdX]; omega)).mono ?_
                rintro e v25 ⟨rep, V, hRV, av', cv', rfl, hHV, hbv25⟩
                have HRV := hide hRV
                have HHV := hide hHV
                have BRn := hide (below_next BR.out hbv25)
                have XAn := hide (XA.out.below hbv25)
                have hb8 : v21.heap.size < v24.heap.size := XA.out.lt
                have hsv25 := hbv25.size
                clear hRV hHV hbv25 BR XA
                have BR := BRn
                clear BRn
                have XA := XAn
                clear XAn
                go_wp2_with fail
                refine hK.out _ _ trivial (fun hHeld => ?_)
                clear hK K
                try simp only [Act.put, List.setIfInBounds_toArray, List.set_cons_zero, List.set_cons_succ]
                refine wpAnyH_ready (rs := [16]) (by kernel_rfl) (by simp) ?_
                refine AllReadyH.cons rfl (fun K hK => ?_) AllReadyH.nil
                obtain ⟨⟨z0, z1, z2⟩, z3, z4, z5⟩ := XA.out
                go_simp
                have KT := hide (Kept.three' v25 v21.heap.size (.int .i64 0) (.int .i64 rep) (.slice av' (tdL V).length cv'))
                have RVZ := hide (HHV.out _ (KT.out.mono (fun x _ e => by omega)))
                have BZ := hide (BR.out.trans (KT.out.below BR.out.size (fun x hx e => by omega)))
                have CZ := hide (Tri.of (XA.out.set (.int .i64 0) (.int .i64 rep) (.slice av' (tdL V).length cv')))
                clear z0 z1 z2 z3 z4 z5
                refine hK.out _ _ trivial (fun hHeld => ?_)
                clear hK K
                try simp only [Act.put, List.setIfInBounds_toArray, List.set_cons_zero, List.set_cons_succ]
                refine wpAnyH_done (by kernel_rfl) ?_ _
                generalize ((v25.setCell ⟨v21.heap.size, 0, none⟩ (.int .i64 0)).setCell ⟨v21.heap.size, 1, none⟩ (.int .i64 rep)).setCell ⟨v21.heap.size, 2, none⟩ (.slice av' (tdL V).length cv') = Z at *
                obtain ⟨g0, g1, g2⟩ := CZ.out
                go_wp2_with fail
                go_roundw
                case rel => exact ⟨k + 1, V, av', cv', by omega, by go_num, rfl, HRV, RVZ, hide (below_next HW.out BZ.out)⟩
                case measure => simp [intOf]; omega
            · have hbu := BR.out.size
              have BRn := hide (below_next BR.out (below_alloc v20 (.cells #[.int .i64 0, .int .i64 0, .slice none 0 0] 28)))
              have XAn := hide (Box3.new v20 (.int .i64 0) (.int .i64 0) (.slice none 0 0) 28)
              have RXn := hide (RX.out.below (below_alloc v20 (.cells #[.int .i64 0, .int .i64 0, .slice none 0 0] 28)))
              have hsn : v20.heap.size < (v20.alloc (.cells #[.int .i64 0, .int .i64 0, .slice none 0 0] 28)).heap.size := by simp
              go_simp
              refine hK.out _ _ trivial (fun hHeld => ?_)
              clear hK K BR RX
              try simp only [Act.put, List.setIfInBounds_toArray, List.set_cons_zero, List.set_cons_succ]
              generalize v20.alloc (.cells #[.int .i64 0, .int .i64 0, .slice none 0 0] 28) = v27 at *
              have BR := BRn
              clear BRn
              have XA := XAn
              clear XAn
              have RX := RXn
              clear RXn
              refine wpAnyH_ready (rs := [12]) (by kernel_rfl) (by simp) ?_
              refine AllReadyH.cons rfl (fun K hK => ?_) AllReadyH.nil
              go_simp
              refine (lwAt_any a0 cap0 zs (k + 40) 3 _ (HR8.out.below (below_next HW.out BR.out)) HU.out (by omega) (by omega) (by omega) (by decide) (by decide)).mono ?_
              rintro e v28 ⟨r2, rfl, hr2, hr2', hbv28⟩
              have BRn := hide (below_next BR.out hbv28)
              have RXn := hide (RX.out.below hbv28)
              have XAn := hide (XA.out.below hbv28)
              have hsv28 := hbv28.size
              clear hbv28 BR RX XA
              have BR := BRn
              clear BRn
              have RX := RXn
              clear RXn
              have XA := XAn
              clear XAn
              go_wp2_with fail
              refine hK.out _ _ trivial (fun hHeld => ?_)
              clear hK K
              try simp only [Act.put, List.setIfInBounds_toArray, List.set_cons_zero, List.set_cons_succ]
              refine tk 13 57 (.int .i64 (1 + r2)) hHeld rfl (by kernel_rfl) (by kernel_rfl) (by kernel_rfl) (fun _ _ _ h => h) (Or.inl ⟨by rfl, ?_⟩) ?_
              · intro w _
                go_simp <;> (first | done | decide | omega | (simp [IntKind.wrap, IntKind.bits, IntKind.signed]; omega))
              try simp only [Act.put, List.setIfInBounds_toArray, List.set_cons_zero, List.set_cons_succ]
              refine wpAnyH_ready (rs := [14]) (by kernel_rfl) (by simp) ?_
              refine AllReadyH.cons rfl (fun K hK => ?_) AllReadyH.nil
              go_simp
              refine (told8 U HRU.out av cv p (some ⟨D.heap.size, 0, none⟩) r1.toNat 3 (tdX.take r1.toNat) (1 + r2) _ (HRS.out.below BR.out) (by omega) hpl (RX.out.take _) (by simp [tdX]; omega) (td_x8 _) (by simp [tdX]; omega) (by simp [tdX]; omega)).mono ?_
              rintro e v29 ⟨rep, V, hRV, av', cv', rfl, hHV, hbv29⟩
              have HRV := hide hRV
              have HHV := hide hHV
              have BRn := hide (below_next BR.out hbv29)
              have XAn := hide (XA.out.below hbv29)
              have hb8 : v20.heap.size < v28.heap.size := XA.out.lt
              have hsv29 := hbv29.size
              clear hRV hHV hbv29 BR XA
              have BR := BRn
              clear BRn
              have XA := XAn
              clear XAn
              go_wp2_with fail
              refine hK.out _ _ trivial (fun hHeld => ?_)
              clear hK K
              try simp only [Act.put, List.setIfInBounds_toArray, List.set_cons_zero, List.set_cons_succ]
              refine wpAnyH_ready (rs := [16]) (by kernel_rfl) (by simp) ?_
              refine AllReadyH.cons rfl (fun K hK => ?_) AllReadyH.nil
              obtain ⟨⟨z0, z1, z2⟩, z3, z4, z5⟩ := XA.out
              go_simp
              have KT := hide (Kept.three' v29 v20.heap.size (.int .i64 0) (.int .i64 rep) (.slice av' (tdL V).length cv'))
              have RVZ := hide (HHV.out _ (KT.out.mono (fun x _ e => by omega)))
              have BZ := hide (BR.out.trans (KT.out.below BR.out.size (fun x hx e => by omega)))
              have CZ := hide (Tri.of (XA.out.set (.int .i64 0) (.int .i64 rep) (.slice av' (tdL V).length cv')))
              clear z0 z1 z2 z3 z4 z5
              refine hK.out _ _ trivial (fun hHeld => ?_)
              clear hK K
              try simp only [Act.put, List.setIfInBounds_toArray, List.set_cons_zero, List.set_cons_succ]
              refine wpAnyH_done (by kernel_rfl) ?_ _
              generalize ((v29.setCell ⟨v20.heap.size, 0, none⟩ (.int .i64 0)).setCell ⟨v20.heap.size, 1, none⟩ (.int .i64 rep)).setCell ⟨v20.heap.size, 2, none⟩ (.slice av' (tdL V).length cv') = Z at *
              obtain ⟨g0, g1, g2⟩ := CZ.out
              go_wp2_with fail
              go_roundw
              case rel => exact ⟨k + 1, V, av', cv', by omega, by go_num, rfl, HRV, RVZ, hide (below_next HW.out BZ.out)⟩
              case measure => simp [intOf]; omega
          · go_simp
            refine (lwAt_any a0 cap0 zs (k + 40) 3 _ (HR8.out.below (below_next HW.out BR.out)) HU.out (by omega) (by omega) (by omega) (by decide) (by decide)).mono ?_
            rintro e v31 ⟨r2, rfl, hr2, hr2', hbv31⟩
            have BRn := hide (below_next BR.out hbv31)
            have XBn := hide ((hbv31.block _ (Array.getElem?_eq_some_iff.1 XB.out).1).trans XB.out)
            have hsv31 := hbv31.size
            clear hbv31 BR XB
            have BR := BRn
            clear BRn
            have XB := XBn
            clear XBn
            go_wp2_with fail
            refine hK.out _ _ trivial (fun hHeld => ?_)
            clear hK K
            try simp only [Act.put, List.setIfInBounds_toArray, List.set_cons_zero, List.set_cons_succ]
            refine tk 13 57 (.int .i64 (1 + r2)) hHeld rfl (by kernel_rfl) (by kernel_rfl) (by kernel_rfl) (fun _ _ _ h => h) (Or.inl ⟨by rfl, ?_⟩) ?_
            · intro w _
              go_simp <;> (first | done | decide | omega | (simp [IntKind.wrap, IntKind.bits, IntKind.signed]; omega))
            try simp only [Act.put, List.setIfInBounds_toArray, List.set_cons_zero, List.set_cons_succ]
            refine wpAnyH_ready (rs := [3, 15]) (by kernel_rfl) (by simp) ?_
            refine AllReadyH.cons rfl (fun K hK => ?_) (AllReadyH.cons rfl (fun K hK => ?_) AllReadyH.nil)
            · have hc3 : (convert 22 22 (.slice (some ⟨D.heap.size, 0, none⟩) 3 3)).run Tryz.prog v31 = .ok (.slice (some ⟨D.heap.size, 0, none⟩) 3 3) (v31.freeze ⟨D.heap.size, 3, none⟩ 1) := run_convert_at v31 _ _ #[.int .u8 120, .int .u8 121, .int .u8 122] D.heap.size 3 3 XB.out Tryz.underlying22 Tryz.underlying5
              have KF := hide (freeze_kept v31 D.heap.size 3)
              have RX := hide (xyz_reads v31 D.heap.size XB.out)
              have hks := KF.out.size
              have hbr := BR.out.size
              have BRn := hide (BR.out.trans (KF.out.below BR.out.size (fun k hk e => by omega)))
              go_simp
              refine hK.out _ _ trivial (fun hHeld => ?_)
              clear hK K BR hc3 XB
              try simp only [Act.put, List.setIfInBounds_toArray, List.set_cons_zero, List.set_cons_succ]
              generalize v31.freeze ⟨D.heap.size, 3, none⟩ 1 = v32 at *
              have BR := BRn
              clear BRn
              clear KF
              refine tk 8 52 (.slice (some ⟨D.heap.size, 0, none⟩) r1.toNat 3) hHeld rfl (by kernel_rfl) (by kernel_rfl) (by kernel_rfl) (fun _ _ _ h => h) (Or.inl ⟨by rfl, ?_⟩) ?_
              · intro w _
                go_simp <;> (first | done | decide | omega | (simp [IntKind.wrap, IntKind.bits, IntKind.signed]; omega))
              try simp only [Act.put, List.setIfInBounds_toArray, List.set_cons_zero, List.set_cons_succ]
              refine wpAnyH_ready (rs := [14, 15]) (by kernel_rfl) (by simp) ?_
              refine AllReadyH.cons rfl (fun K hK => ?_) (AllReadyH.cons rfl (fun K hK => ?_) AllReadyH.nil)
              · go_simp
                refine (told8 U HRU.out av cv p (some ⟨D.heap.size, 0, none⟩) r1.toNat 3 (tdX.take r1.toNat) (1 + r2) _ (HRS.out.below BR.out) (by omega) hpl (RX.out.take _) (by simp [tdX]; omega) (td_x8 _) (by simp [tdX]; omega) (by simp [tdX]; omega)).mono ?_
                rintro e v33 ⟨rep, V, hRV, av', cv', rfl, hHV, hbv33⟩
                have HRV := hide hRV
                have HHV := hide hHV
                have BRn := hide (below_next BR.out hbv33)
                have hsv33 := hbv33.size
                clear hRV hHV hbv33 BR
                have BR := BRn
                clear BRn
                go_wp2_with fail
                refine hK.out _ _ trivial (fun hHeld => ?_)
                clear hK K
                try simp only [Act.put, List.setIfInBounds_toArray, List.set_cons_zero, List.set_cons_succ]
                refine wpAnyH_ready (rs := [15]) (by kernel_rfl) (by simp) ?_
                refine AllReadyH.cons rfl (fun K hK => ?_) AllReadyH.nil
                have hbu := BR.out.size
                have BRn := hide (below_next BR.out (below_alloc v33 (.cells #[.int .i64 0, .int .i64 0, .slice none 0 0] 28)))
                have XAn := hide (Box3.new v33 (.int .i64 0) (.int .i64 0) (.slice none 0 0) 28)
                have hsn : v33.heap.size < (v33.alloc (.cells #[.int .i64 0, .int .i64 0, .slice none 0 0] 28)).heap.size := by simp
                go_simp
                refine hK.out _ _ trivial (fun hHeld => ?_)
                clear hK K
                try simp only [Act.put, List.setIfInBounds_toArray, List.set_cons_zero, List.set_cons_succ]
                clear BRn XAn
                refine wpAnyH_ready (rs := [16]) (by kernel_rfl) (by simp) ?_
                refine AllReadyH.cons rfl (fun K hK => ?_) AllReadyH.nil
                go_simp
                have RVZ := hide (HHV.out.rd.below (below_alloc v33 (.cells #[.int .i64 0, .int .i64 rep, .slice av' (tdL V).length cv'] 28)))
                have BZ := hide (below_next BR.out (below_alloc v33 (.cells #[.int .i64 0, .int .i64 rep, .slice av' (tdL V).length cv'] 28)))
                have CZ : Hid (Tri (v33.alloc (.cells #[.int .i64 0, .int .i64 rep, .slice av' (tdL V).length cv'] 28)) v33.heap.size (.int .i64 0) (.int .i64 rep) (.slice av' (tdL V).length cv')) := hide ⟨by simp, by simp, by simp⟩
                refine hK.out _ _ trivial (fun hHeld => ?_)
                clear hK K
                try simp only [Act.put, List.setIfInBounds_toArray, List.set_cons_zero, List.set_cons_succ]
                refine wpAnyH_done (by kernel_rfl) ?_ _
                skip
                generalize v33.alloc (.cells #[.int .i64 0, .int .i64 rep, .slice av' (tdL V).length cv'] 28) = Z at *
                obtain ⟨g0, g1, g2⟩ := CZ.out
                go_wp2_with fail
                go_roundw
                case rel => exact ⟨k + 1, V, av', cv', by omega, by go_num, rfl, HRV, RVZ, hide (below_next HW.out BZ.out)⟩
                case measure => simp [intOf]; omega
              · have hbu := BR.out.size
                have BRn := hide (below_next BR.out (below_alloc v32 (.cells #[.int .i64 0, .int .i64 0, .slice none 0 0] 28)))
                have XAn := hide (Box3.new v32 (.int .i64 0) (.int .i64 0) (.slice none 0 0) 28)
                have RXn := hide (RX.out.below (below_alloc v32 (.cells #[.int .i64 0, .int .i64 0, .slice none 0 0] 28)))
                have hsn : v32.heap.size < (v32.alloc (.cells #[.int .i64 0, .int .i64 0, .slice none 0 0] 28)).heap.size := by simp
                go_simp
                refine hK.out _ _ trivial (fun hHeld => ?_)
                clear hK K BR RX
                try simp only [Act.put, List.setIfInBounds_toArray, List.set_cons_zero, List.set_cons_succ]
                generalize v32.alloc (.cells #[.int .i64 0, .int .i64 0, .slice none 0 0] 28) = v35 at *
                have BR := BRn
                clear BRn
                have XA := XAn
                clear XAn
                have RX := RXn
                clear RXn
                refine wpAnyH_ready (rs := [14]) (by kernel_rfl) (by simp) ?_
                refine AllReadyH.cons rfl (fun K hK => ?_) AllReadyH.nil
                go_simp
                refine (told8 U HRU.out av cv p (some ⟨D.heap.size, 0, none⟩) r1.toNat 3 (tdX.take r1.toNat) (1 + r2) _ (HRS.out.below BR.out) (by omega) hpl (RX.out.take _) (by simp [tdX]; omega) (td_x8 _) (by simp [tdX]; omega) (by simp [tdX]; omega)).mono ?_
                rintro e v36 ⟨rep, V, hRV, av', cv', rfl, hHV, hbv36⟩
                have HRV := hide hRV
                have HHV := hide hHV
                have BRn := hide (below_next BR.out hbv36)
                have XAn := hide (XA.out.below hbv36)
                have hb8 : v32.heap.size < v35.heap.size := XA.out.lt
                have hsv36 := hbv36.size
                clear hRV hHV hbv36 BR XA
                have BR := BRn
                clear BRn
                have XA := XAn
                clear XAn
                go_wp2_with fail
                refine hK.out _ _ trivial (fun hHeld => ?_)
                clear hK K
                try simp only [Act.put, List.setIfInBounds_toArray, List.set_cons_zero, List.set_cons_succ]
                refine wpAnyH_ready (rs := [16]) (by kernel_rfl) (by simp) ?_
                refine AllReadyH.cons rfl (fun K hK => ?_) AllReadyH.nil
                obtain ⟨⟨z0, z1, z2⟩, z3, z4, z5⟩ := XA.out
                go_simp
                have KT := hide (Kept.three' v36 v32.heap.size (.int .i64 0) (.int .i64 rep) (.slice av' (tdL V).length cv'))
                have RVZ := hide (HHV.out _ (KT.out.mono (fun x _ e => by omega)))
                have BZ := hide (BR.out.trans (KT.out.below BR.out.size (fun x hx e => by omega)))
                have CZ := hide (Tri.of (XA.out.set (.int .i64 0) (.int .i64 rep) (.slice av' (tdL V).length cv')))
                clear z0 z1 z2 z3 z4 z5
                refine hK.out _ _ trivial (fun hHeld => ?_)
                clear hK K
                try simp only [Act.put, List.setIfInBounds_toArray, List.set_cons_zero, List.set_cons_succ]
                refine wpAnyH_done (by kernel_rfl) ?_ _
                generalize ((v36.setCell ⟨v32.heap.size, 0, none⟩ (.int .i64 0)).setCell ⟨v32.heap.size, 1, none⟩ (.int .i64 rep)).setCell ⟨v32.heap.size, 2, none⟩ (.slice av' (tdL V).length cv') = Z at *
                obtain ⟨g0, g1, g2⟩ := CZ.out
                go_wp2_with fail
                go_roundw
                case rel => exact ⟨k + 1, V, av', cv', by omega, by go_num, rfl, HRV, RVZ, hide (below_next HW.out BZ.out)⟩
                case measure => simp [intOf]; omega
            · have hbu := BR.out.size
              have BRn := hide (below_next BR.out (below_alloc v31 (.cells #[.int .i64 0, .int .i64 0, .slice none 0 0] 28)))
              have XAn := hide (Box3.new v31 (.int .i64 0) (.int .i64 0) (.slice none 0 0) 28)
              have XBn := hide (((below_alloc v31 (.cells #[.int .i64 0, .int .i64 0, .slice none 0 0] 28)).block _ (Array.getElem?_eq_some_iff.1 XB.out).1).trans XB.out)
              have hsn : v31.heap.size < (v31.alloc (.cells #[.int .i64 0, .int .i64 0, .slice none 0 0] 28)).heap.size := by simp
              go_simp
              refine hK.out _ _ trivial (fun hHeld => ?_)
              clear hK K BR XB
              try simp only [Act.put, List.setIfInBounds_toArray, List.set_cons_zero, List.set_cons_succ]
              generalize v31.alloc (.cells #[.int .i64 0, .int .i64 0, .slice none 0 0] 28) = v38 at *
              have BR := BRn
              clear BRn
              have XA := XAn
              clear XAn
              have XB := XBn
              clear XBn
              refine wpAnyH_ready (rs := [3]) (by kernel_rfl) (by simp) ?_
              refine AllReadyH.cons rfl (fun K hK => ?_) AllReadyH.nil
              have hc3 : (convert 22 22 (.slice (some ⟨D.heap.size, 0, none⟩) 3 3)).run Tryz.prog v38 = .ok (.slice (some ⟨D.heap.size, 0, none⟩) 3 3) (v38.freeze ⟨D.heap.size, 3, none⟩ 1) := run_convert_at v38 _ _ #[.int .u8 120, .int .u8 121, .int .u8 122] D.heap.size 3 3 XB.out Tryz.underlying22 Tryz.underlying5
              have KF := hide (freeze_kept v38 D.heap.size 3)
              have RX := hide (xyz_reads v38 D.heap.size XB.out)
              have hks := KF.out.size
              have hbr := BR.out.size
              have BRn := hide (BR.out.trans (KF.out.below BR.out.size (fun k hk e => by omega)))
              have XAn := hide (XA.out.kept KF.out (by omega))
              go_simp
              refine hK.out _ _ trivial (fun hHeld => ?_)
              clear hK K BR hc3 XB XA
              try simp only [Act.put, List.setIfInBounds_toArray, List.set_cons_zero, List.set_cons_succ]
              generalize v38.freeze ⟨D.heap.size, 3, none⟩ 1 = v39 at *
              have BR := BRn
              clear BRn
              have XA := XAn
              clear XAn
              clear KF
              refine tk 8 52 (.slice (some ⟨D.heap.size, 0, none⟩) r1.toNat 3) hHeld rfl (by kernel_rfl) (by kernel_rfl) (by kernel_rfl) (fun _ _ _ h => h) (Or.inl ⟨by rfl, ?_⟩) ?_
              · intro w _
                go_simp <;> (first | done | decide | omega | (simp [IntKind.wrap, IntKind.bits, IntKind.signed]; omega))
              try simp only [Act.put, List.setIfInBounds_toArray, List.set_cons_zero, List.set_cons_succ]
              refine wpAnyH_ready (rs := [14]) (by kernel_rfl) (by simp) ?_
              refine AllReadyH.cons rfl (fun K hK => ?_) AllReadyH.nil
              go_simp
              refine (told8 U HRU.out av cv p (some ⟨D.heap.size, 0, none⟩) r1.toNat 3 (tdX.take r1.toNat) (1 + r2) _ (HRS.out.below BR.out) (by omega) hpl (RX.out.take _) (by simp [tdX]; omega) (td_x8 _) (by simp [tdX]; omega) (by simp [tdX]; omega)).mono ?_
              rintro e v40 ⟨rep, V, hRV, av', cv', rfl, hHV, hbv40⟩
              have HRV := hide hRV
              have HHV := hide hHV
              have BRn := hide (below_next BR.out hbv40)
              have XAn := hide (XA.out.below hbv40)
              have hb8 : v31.heap.size < v39.heap.size := XA.out.lt
              have hsv40 := hbv40.size
              clear hRV hHV hbv40 BR XA
              have BR := BRn
              clear BRn
              have XA := XAn
              clear XAn
              go_wp2_with fail
              refine hK.out _ _ trivial (fun hHeld => ?_)
              clear hK K
              try simp only [Act.put, List.setIfInBounds_toArray, List.set_cons_zero, List.set_cons_succ]
              refine wpAnyH_ready (rs := [16]) (by kernel_rfl) (by simp) ?_
              refine AllReadyH.cons rfl (fun K hK => ?_) AllReadyH.nil
              obtain ⟨⟨z0, z1, z2⟩, z3, z4, z5⟩ := XA.out
              go_simp
              have KT := hide (Kept.three' v40 v31.heap.size (.int .i64 0) (.int .i64 rep) (.slice av' (tdL V).length cv'))
              have RVZ := hide (HHV.out _ (KT.out.mono (fun x _ e => by omega)))
              have BZ := hide (BR.out.trans (KT.out.below BR.out.size (fun x hx e => by omega)))
              have CZ := hide (Tri.of (XA.out.set (.int .i64 0) (.int .i64 rep) (.slice av' (tdL V).length cv')))
              clear z0 z1 z2 z3 z4 z5
              refine hK.out _ _ trivial (fun hHeld => ?_)
              clear hK K
              try simp only [Act.put, List.setIfInBounds_toArray, List.set_cons_zero, List.set_cons_succ]
              refine wpAnyH_done (by kernel_rfl) ?_ _
              generalize ((v40.setCell ⟨v31.heap.size, 0, none⟩ (.int .i64 0)).setCell ⟨v31.heap.size, 1, none⟩ (.int .i64 rep)).setCell ⟨v31.heap.size, 2, none⟩ (.slice av' (tdL V).length cv') = Z at *
              obtain ⟨g0, g1, g2⟩ := CZ.out
              go_wp2_with fail
              go_roundw
              case rel => exact ⟨k + 1, V, av', cv', by omega, by go_num, rfl, HRV, RVZ, hide (below_next HW.out BZ.out)⟩
              case measure => simp [intOf]; omega
          · have hbu := BR.out.size
            have BRn := hide (below_next BR.out (below_alloc v19 (.cells #[.int .i64 0, .int .i64 0, .slice none 0 0] 28)))
            have XAn := hide (Box3.new v19 (.int .i64 0) (.int .i64 0) (.slice none 0 0) 28)
            have XBn := hide (((below_alloc v19 (.cells #[.int .i64 0, .int .i64 0, .slice none 0 0] 28)).block _ (Array.getElem?_eq_some_iff.1 XB.out).1).trans XB.out)
            have hsn : v19.heap.size < (v19.alloc (.cells #[.int .i64 0, .int .i64 0, .slice none 0 0] 28)).heap.size := by simp
            go_simp
            refine hK.out _ _ trivial (fun hHeld => ?_)
            clear hK K BR XB
            try simp only [Act.put, List.setIfInBounds_toArray, List.set_cons_zero, List.set_cons_succ]
            generalize v19.alloc (.cells #[.int .i64 0, .int .i64 0, .slice none 0 0] 28) = v42 at *
            have BR := BRn
            clear BRn
            have XA := XAn
            clear XAn
            have XB := XBn
            clear XBn
            refine wpAnyH_ready (rs := [3, 12]) (by kernel_rfl) (by simp) ?_
            refine AllReadyH.cons rfl (fun K hK => ?_) (AllReadyH.cons rfl (fun K hK => ?_) AllReadyH.nil)
            · have hc3 : (convert 22 22 (.slice (some ⟨D.heap.size, 0, none⟩) 3 3)).run Tryz.prog v42 = .ok (.slice (some ⟨D.heap.size, 0, none⟩) 3 3) (v42.freeze ⟨D.heap.size, 3, none⟩ 1) := run_convert_at v42 _ _ #[.int .u8 120, .int .u8 121, .int .u8 122] D.heap.size 3 3 XB.out Tryz.underlying22 Tryz.underlying5
              have KF := hide (freeze_kept v42 D.heap.size 3)
              have RX := hide (xyz_reads v42 D.heap.size XB.out)
              have hks := KF.out.size
              have hbr := BR.out.size
              have BRn := hide (BR.out.trans (KF.out.below BR.out.size (fun k hk e => by omega)))
              have XAn := hide (XA.out.kept KF.out (by omega))
              go_simp
              refine hK.out _ _ trivial (fun hHeld => ?_)
              clear hK K BR hc3 XB XA
              try simp only [Act.put, List.setIfInBounds_toArray, List.set_cons_zero, List.set_cons_succ]
              generalize v42.freeze ⟨D.heap.size, 3, none⟩ 1 = v43 at *
              have BR := BRn
              clear BRn
              have XA := XAn
              clear XAn
              clear KF
              refine tk 8 52 (.slice (some ⟨D.heap.size, 0, none⟩) r1.toNat 3) hHeld rfl (by kernel_rfl) (by kernel_rfl) (by kernel_rfl) (fun _ _ _ h => h) (Or.inl ⟨by rfl, ?_⟩) ?_
              · intro w _
                go_simp <;> (first | done | decide | omega | (simp [IntKind.wrap, IntKind.bits, IntKind.signed]; omega))
              try simp only [Act.put, List.setIfInBounds_toArray, List.set_cons_zero, List.set_cons_succ]
              refine wpAnyH_ready (rs := [12]) (by kernel_rfl) (by simp) ?_
              refine AllReadyH.cons rfl (fun K hK => ?_) AllReadyH.nil
              go_simp
              refine (lwAt_any a0 cap0 zs (k + 40) 3 _ (HR8.out.below (below_next HW.out BR.out)) HU.out (by omega) (by omega) (by omega) (by decide) (by decide)).mono ?_
              rintro e v44 ⟨r2, rfl, hr2, hr2', hbv44⟩
              have BRn := hide (below_next BR.out hbv44)
              have RXn := hide (RX.out.below hbv44)
              have XAn := hide (XA.out.below hbv44)
              have hsv44 := hbv44.size
              clear hbv44 BR RX XA
              have BR := BRn
              clear BRn
              have RX := RXn
              clear RXn
              have XA := XAn
              clear XAn
              go_wp2_with fail
              refine hK.out _ _ trivial (fun hHeld => ?_)
              clear hK K
              try simp only [Act.put, List.setIfInBounds_toArray, List.set_cons_zero, List.set_cons_succ]
              refine tk 13 57 (.int .i64 (1 + r2)) hHeld rfl (by kernel_rfl) (by kernel_rfl) (by kernel_rfl) (fun _ _ _ h => h) (Or.inl ⟨by rfl, ?_⟩) ?_
              · intro w _
                go_simp <;> (first | done | decide | omega | (simp [IntKind.wrap, IntKind.bits, IntKind.signed]; omega))
              try simp only [Act.put, List.setIfInBounds_toArray, List.set_cons_zero, List.set_cons_succ]
              refine wpAnyH_ready (rs := [14]) (by kernel_rfl) (by simp) ?_
              refine AllReadyH.cons rfl (fun K hK => ?_) AllReadyH.nil
              go_simp
              refine (told8 U HRU.out av cv p (some ⟨D.heap.size, 0, none⟩) r1.toNat 3 (tdX.take r1.toNat) (1 + r2) _ (HRS.out.below BR.out) (by omega) hpl (RX.out.take _) (by simp [tdX]; omega) (td_x8 _) (by simp [tdX]; omega) (by simp [tdX]; omega)).mono ?_
              rintro e v45 ⟨rep, V, hRV, av', cv', rfl, hHV, hbv45⟩
              have HRV := hide hRV
              have HHV := hide hHV
              have BRn := hide (below_next BR.out hbv45)
              have XAn := hide (XA.out.below hbv45)
              have hb8 : v19.heap.size < v44.heap.size := XA.out.lt
              have hsv45 := hbv45.size
              clear hRV hHV hbv45 BR XA
              have BR := BRn
              clear BRn
              have XA := XAn
              clear XAn
              go_wp2_with fail
              refine hK.out _ _ trivial (fun hHeld => ?_)
              clear hK K
              try simp only [Act.put, List.setIfInBounds_toArray, List.set_cons_zero, List.set_cons_succ]
              refine wpAnyH_ready (rs := [16]) (by kernel_rfl) (by simp) ?_
              refine AllReadyH.cons rfl (fun K hK => ?_) AllReadyH.nil
              obtain ⟨⟨z0, z1, z2⟩, z3, z4, z5⟩ := XA.out
              go_simp
              have KT := hide (Kept.three' v45 v19.heap.size (.int .i64 0) (.int .i64 rep) (.slice av' (tdL V).length cv'))
              have RVZ := hide (HHV.out _ (KT.out.mono (fun x _ e => by omega)))
              have BZ := hide (BR.out.trans (KT.out.below BR.out.size (fun x hx e => by omega)))
              have CZ := hide (Tri.of (XA.out.set (.int .i64 0) (.int .i64 rep) (.slice av' (tdL V).length cv')))
              clear z0 z1 z2 z3 z4 z5
              refine hK.out _ _ trivial (fun hHeld => ?_)
              clear hK K
              try simp only [Act.put, List.setIfInBounds_toArray, List.set_cons_zero, List.set_cons_succ]
              refine wpAnyH_done (by kernel_rfl) ?_ _
              generalize ((v45.setCell ⟨v19.heap.size, 0, none⟩ (.int .i64 0)).setCell ⟨v19.heap.size, 1, none⟩ (.int .i64 rep)).setCell ⟨v19.heap.size, 2, none⟩ (.slice av' (tdL V).length cv') = Z at *
              obtain ⟨g0, g1, g2⟩ := CZ.out
              go_wp2_with fail
              go_roundw
              case rel => exact ⟨k + 1, V, av', cv', by omega, by go_num, rfl, HRV, RVZ, hide (below_next HW.out BZ.out)⟩
              case measure => simp [intOf]; omega
            · go_simp
              refine (lwAt_any a0 cap0 zs (k + 40) 3 _ (HR8.out.below (below_next HW.out BR.out)) HU.out (by omega) (by omega) (by omega) (by decide) (by decide)).mono ?_
              rintro e v47 ⟨r2, rfl, hr2, hr2', hbv47⟩
              have BRn := hide (below_next BR.out hbv47)
              have XBn := hide ((hbv47.block _ (Array.getElem?_eq_some_iff.1 XB.out).1).trans XB.out)
              have XAn := hide (XA.out.below hbv47)
              have hsv47 := hbv47.size
              clear hbv47 BR XB XA
              have BR := BRn
              clear BRn
              have XB := XBn
              clear XBn
              have XA := XAn
              clear XAn
              go_wp2_with fail
              refine hK.out _ _ trivial (fun hHeld => ?_)
              clear hK K
              try simp only [Act.put, List.setIfInBounds_toArray, List.set_cons_zero, List.set_cons_succ]
              refine tk 13 57 (.int .i64 (1 + r2)) hHeld rfl (by kernel_rfl) (by kernel_rfl) (by kernel_rfl) (fun _ _ _ h => h) (Or.inl ⟨by rfl, ?_⟩) ?_
              · intro w _
                go_simp <;> (first | done | decide | omega | (simp [IntKind.wrap, IntKind.bits, IntKind.signed]; omega))
              try simp only [Act.put, List.setIfInBounds_toArray, List.set_cons_zero, List.set_cons_succ]
              refine wpAnyH_ready (rs := [3]) (by kernel_rfl) (by simp) ?_
              refine AllReadyH.cons rfl (fun K hK => ?_) AllReadyH.nil
              have hc3 : (convert 22 22 (.slice (some ⟨D.heap.size, 0, none⟩) 3 3)).run Tryz.prog v47 = .ok (.slice (some ⟨D.heap.size, 0, none⟩) 3 3) (v47.freeze ⟨D.heap.size, 3, none⟩ 1) := run_convert_at v47 _ _ #[.int .u8 120, .int .u8 121, .int .u8 122] D.heap.size 3 3 XB.out Tryz.underlying22 Tryz.underlying5
              have KF := hide (freeze_kept v47 D.heap.size 3)
              have RX := hide (xyz_reads v47 D.heap.size XB.out)
              have hks := KF.out.size
              have hbr := BR.out.size
              have BRn := hide (BR.out.trans (KF.out.below BR.out.size (fun k hk e => by omega)))
              have XAn := hide (XA.out.kept KF.out (by omega))
              go_simp
              refine hK.out _ _ trivial (fun hHeld => ?_)
              clear hK K BR hc3 XB XA
              try simp only [Act.put, List.setIfInBounds_toArray, List.set_cons_zero, List.set_cons_succ]
              generalize v47.freeze ⟨D.heap.size, 3, none⟩ 1 = v48 at *
              have BR := BRn
              clear BRn
              have XA := XAn
              clear XAn
              clear KF
              refine tk 8 52 (.slice (some ⟨D.heap.size, 0, none⟩) r1.toNat 3) hHeld rfl (by kernel_rfl) (by kernel_rfl) (by kernel_rfl) (fun _ _ _ h => h) (Or.inl ⟨by rfl, ?_⟩) ?_
              · intro w _
                go_simp <;> (first | done | decide | omega | (simp [IntKind.wrap, IntKind.bits, IntKind.signed]; omega))
              try simp only [Act.put, List.setIfInBounds_toArray, List.set_cons_zero, List.set_cons_succ]
              refine wpAnyH_ready (rs := [14]) (by kernel_rfl) (by simp) ?_
              refine AllReadyH.cons rfl (fun K hK => ?_) AllReadyH.nil
              go_simp
              refine (told8 U HRU.out av cv p (some ⟨D.heap.size, 0, none⟩) r1.toNat 3 (tdX.take r1.toNat) (1 + r2) _ (HRS.out.below BR.out) (by omega) hpl (RX.out.take _) (by simp [tdX]; omega) (td_x8 _) (by simp [tdX]; omega) (by simp [tdX]; omega)).mono ?_
              rintro e v49 ⟨rep, V, hRV, av', cv', rfl, hHV, hbv49⟩
              have HRV := hide hRV
              have HHV := hide hHV
              have BRn := hide (below_next BR.out hbv49)
              have XAn := hide (XA.out.below hbv49)
              have hb8 : v19.heap.size < v48.heap.size := XA.out.lt
              have hsv49 := hbv49.size
              clear hRV hHV hbv49 BR XA
              have BR := BRn
              clear BRn
              have XA := XAn
              clear XAn
              go_wp2_with fail
              refine hK.out _ _ trivial (fun hHeld => ?_)
              clear hK K
              try simp only [Act.put, List.setIfInBounds_toArray, List.set_cons_zero, List.set_cons_succ]
              refine wpAnyH_ready (rs := [16]) (by kernel_rfl) (by simp) ?_
              refine AllReadyH.cons rfl (fun K hK => ?_) AllReadyH.nil
              obtain ⟨⟨z0, z1, z2⟩, z3, z4, z5⟩ := XA.out
              go_simp
              have KT := hide (Kept.three' v49 v19.heap.size (.int .i64 0) (.int .i64 rep) (.slice av' (tdL V).length cv'))
              have RVZ := hide (HHV.out _ (KT.out.mono (fun x _ e => by omega)))
              have BZ := hide (BR.out.trans (KT.out.below BR.out.size (fun x hx e => by omega)))
              have CZ := hide (Tri.of (XA.out.set (.int .i64 0) (.int .i64 rep) (.slice av' (tdL V).length cv')))
              clear z0 z1 z2 z3 z4 z5
              refine hK.out _ _ trivial (fun hHeld => ?_)
              clear hK K
              try simp only [Act.put, List.setIfInBounds_toArray, List.set_cons_zero, List.set_cons_succ]
              refine wpAnyH_done (by kernel_rfl) ?_ _
              generalize ((v49.setCell ⟨v19.heap.size, 0, none⟩ (.int .i64 0)).setCell ⟨v19.heap.size, 1, none⟩ (.int .i64 rep)).setCell ⟨v19.heap.size, 2, none⟩ (.slice av' (tdL V).length cv') = Z at *
              obtain ⟨g0, g1, g2⟩ := CZ.out
              go_wp2_with fail
              go_roundw
              case rel => exact ⟨k + 1, V, av', cv', by omega, by go_num, rfl, HRV, RVZ, hide (below_next HW.out BZ.out)⟩
              case measure => simp [intOf]; omega
        · have hbu := BR.out.size
          have BRn := hide (below_next BR.out (below_alloc v1 (.cells #[.int .i64 0, .int .i64 0, .slice none 0 0] 28)))
          have XAn := hide (Box3.new v1 (.int .i64 0) (.int .i64 0) (.slice none 0 0) 28)
          have XBn := hide (((below_alloc v1 (.cells #[.int .i64 0, .int .i64 0, .slice none 0 0] 28)).block _ (Array.getElem?_eq_some_iff.1 XB.out).1).trans XB.out)
          have hsn : v1.heap.size < (v1.alloc (.cells #[.int .i64 0, .int .i64 0, .slice none 0 0] 28)).heap.size := by simp
          go_simp
          refine hK.out _ _ trivial (fun hHeld => ?_)
          clear hK K BR XB
          try simp only [Act.put, List.setIfInBounds_toArray, List.set_cons_zero, List.set_cons_succ]
          generalize v1.alloc (.cells #[.int .i64 0, .int .i64 0, .slice none 0 0] 28) = v51 at *
          have BR := BRn
          clear BRn
          have XA := XAn
          clear XAn
          have XB := XBn
          clear XBn
          refine wpAnyH_ready (rs := [3, 7]) (by kernel_rfl) (by simp) ?_
          refine AllReadyH.cons rfl (fun K hK => ?_) (AllReadyH.cons rfl (fun K hK => ?_) AllReadyH.nil)
          · have hc3 : (convert 22 22 (.slice (some ⟨D.heap.size, 0, none⟩) 3 3)).run Tryz.prog v51 = .ok (.slice (some ⟨D.heap.size, 0, none⟩) 3 3) (v51.freeze ⟨D.heap.size, 3, none⟩ 1) := run_convert_at v51 _ _ #[.int .u8 120, .int .u8 121, .int .u8 122] D.heap.size 3 3 XB.out Tryz.underlying22 Tryz.underlying5
            have KF := hide (freeze_kept v51 D.heap.size 3)
            have RX := hide (xyz_reads v51 D.heap.size XB.out)
            have hks := KF.out.size
            have hbr := BR.out.size
            have BRn := hide (BR.out.trans (KF.out.below BR.out.size (fun k hk e => by omega)))
            have XAn := hide (XA.out.kept KF.out (by omega))
            go_simp
            refine hK.out _ _ trivial (fun hHeld => ?_)
            clear hK K BR hc3 XB XA
            try simp only [Act.put, List.setIfInBounds_toArray, List.set_cons_zero, List.set_cons_succ]
            generalize v51.freeze ⟨D.heap.size, 3, none⟩ 1 = v52 at *
            have BR := BRn
            clear BRn
            have XA := XAn
            clear XAn
            clear KF
            refine wpAnyH_ready (rs := [7]) (by kernel_rfl) (by simp) ?_
            refine AllReadyH.cons rfl (fun K hK => ?_) AllReadyH.nil
            go_simp
            refine (lwAt_any a0 cap0 zs (k + 20) 4 _ (HR8.out.below (below_next HW.out BR.out)) HU.out (by omega) (by omega) (by omega) (by decide) (by decide)).mono ?_
            rintro e v53 ⟨r1, rfl, hr1, hr1', hbv53⟩
            have BRn := hide (below_next BR.out hbv53)
            have RXn := hide (RX.out.below hbv53)
            have XAn := hide (XA.out.below hbv53)
            have hsv53 := hbv53.size
            clear hbv53 BR RX XA
            have BR := BRn
            clear BRn
            have RX := RXn
            clear RXn
            have XA := XAn
            clear XAn
            go_wp2_with fail
            refine hK.out _ _ trivial (fun hHeld => ?_)
            clear hK K
            try simp only [Act.put, List.setIfInBounds_toArray, List.set_cons_zero, List.set_cons_succ]
            refine tk 8 52 (.slice (some ⟨D.heap.size, 0, none⟩) r1.toNat 3) hHeld rfl (by kernel_rfl) (by kernel_rfl) (by kernel_rfl) (fun _ _ _ h => h) (Or.inl ⟨by rfl, ?_⟩) ?_
            · intro w _
              go_simp <;> (first | done | decide | omega | (simp [IntKind.wrap, IntKind.bits, IntKind.signed]; omega))
            try simp only [Act.put, List.setIfInBounds_toArray, List.set_cons_zero, List.set_cons_succ]
            refine wpAnyH_ready (rs := [12]) (by kernel_rfl) (by simp) ?_
            refine AllReadyH.cons rfl (fun K hK => ?_) AllReadyH.nil
            go_simp
            refine (lwAt_any a0 cap0 zs (k + 40) 3 _ (HR8.out.below (below_next HW.out BR.out)) HU.out (by omega) (by omega) (by omega) (by decide) (by decide)).mono ?_
            rintro e v54 ⟨r2, rfl, hr2, hr2', hbv54⟩
            have BRn := hide (below_next BR.out hbv54)
            have RXn := hide (RX.out.below hbv54)
            have XAn := hide (XA.out.below hbv54)
            have hsv54 := hbv54.size
            clear hbv54 BR RX XA
            have BR := BRn
            clear BRn
            have RX := RXn
            clear RXn
            have XA := XAn
            clear XAn
            go_wp2_with fail
            refine hK.out _ _ trivial (fun hHeld => ?_)
            clear hK K
            try simp only [Act.put, List.setIfInBounds_toArray, List.set_cons_zero, List.set_cons_succ]
            refine tk 13 57 (.int .i64 (1 + r2)) hHeld rfl (by kernel_rfl) (by kernel_rfl) (by kernel_rfl) (fun _ _ _ h => h) (Or.inl ⟨by rfl, ?_⟩) ?_
            · intro w _
              go_simp <;> (first | done | decide | omega | (simp [IntKind.wrap, IntKind.bits, IntKind.signed]; omega))
            try simp only [Act.put, List.setIfInBounds_toArray, List.set_cons_zero, List.set_cons_succ]
            refine wpAnyH_ready (rs := [14]) (by kernel_rfl) (by simp) ?_
            refine AllReadyH.cons rfl (fun K hK => ?_) AllReadyH.nil
            go_simp
            refine (told8 U HRU.out av cv p (some ⟨D.heap.size, 0, none⟩) r1.toNat 3 (tdX.take r1.toNat) (1 + r2) _ (HRS.out.below BR.out) (by omega) hpl (RX.out.take _) (by simp [tdX]; omega) (td_x8 _) (by simp [tdX]; omega) (by simp [tdX]; omega)).mono ?_
            rintro e v55 ⟨rep, V, hRV, av', cv', rfl, hHV, hbv55⟩
            have HRV := hide hRV
            have HHV := hide hHV
            have BRn := hide (below_next BR.out hbv55)
            have XAn := hide (XA.out.below hbv55)
            have hb8 : v1.heap.size < v54.heap.size := XA.out.lt
            have hsv55 := hbv55.size
            clear hRV hHV hbv55 BR XA
            have BR := BRn
            clear BRn
            have XA := XAn
            clear XAn
            go_wp2_with fail
            refine hK.out _ _ trivial (fun hHeld => ?_)
            clear hK K
            try simp only [Act.put, List.setIfInBounds_toArray, List.set_cons_zero, List.set_cons_succ]
            refine wpAnyH_ready (rs := [16]) (by kernel_rfl) (by simp) ?_
            refine AllReadyH.cons rfl (fun K hK => ?_) AllReadyH.nil
            obtain ⟨⟨z0, z1, z2⟩, z3, z4, z5⟩ := XA.out
            go_simp
            have KT := hide (Kept.three' v55 v1.heap.size (.int .i64 0) (.int .i64 rep) (.slice av' (tdL V).length cv'))
            have RVZ := hide (HHV.out _ (KT.out.mono (fun x _ e => by omega)))
            have BZ := hide (BR.out.trans (KT.out.below BR.out.size (fun x hx e => by omega)))
            have CZ := hide (Tri.of (XA.out.set (.int .i64 0) (.int .i64 rep) (.slice av' (tdL V).length cv')))
            clear z0 z1 z2 z3 z4 z5
            refine hK.out _ _ trivial (fun hHeld => ?_)
            clear hK K
            try simp only [Act.put, List.setIfInBounds_toArray, List.set_cons_zero, List.set_cons_succ]
            refine wpAnyH_done (by kernel_rfl) ?_ _
            generalize ((v55.setCell ⟨v1.heap.size, 0, none⟩ (.int .i64 0)).setCell ⟨v1.heap.size, 1, none⟩ (.int .i64 rep)).setCell ⟨v1.heap.size, 2, none⟩ (.slice av' (tdL V).length cv') = Z at *
            obtain ⟨g0, g1, g2⟩ := CZ.out
            go_wp2_with fail
            go_roundw
            case rel => exact ⟨k + 1, V, av', cv', by omega, by go_num, rfl, HRV, RVZ, hide (below_next HW.out BZ.out)⟩
            case measure => simp [intOf]; omega
          · go_simp
            refine (lwAt_any a0 cap0 zs (k + 20) 4 _ (HR8.out.below (below_next HW.out BR.out)) HU.out (by omega) (by omega) (by omega) (by decide) (by decide)).mono ?_
            rintro e v57 ⟨r1, rfl, hr1, hr1', hbv57⟩
            have BRn := hide (below_next BR.out hbv57)
            have XBn := hide ((hbv57.block _ (Array.getElem?_eq_some_iff.1 XB.out).1).trans XB.out)
            have XAn := hide (XA.out.below hbv57)
            have hsv57 := hbv57.size
            clear hbv57 BR XB XA
            have BR := BRn
            clear BRn
            have XB := XBn
            clear XBn
            have XA := XAn
            clear XAn
            go_wp2_with fail
            refine hK.out _ _ trivial (fun hHeld => ?_)
            clear hK K
            try simp only [Act.put, List.setIfInBounds_toArray, List.set_cons_zero, List.set_cons_succ]
            refine wpAnyH_ready (rs := [3, 12]) (by kernel_rfl) (by simp) ?_
            refine AllReadyH.cons rfl (fun K hK => ?_) (AllReadyH.cons rfl (fun K hK => ?_) AllReadyH.nil)
            · have hc3 : (convert 22 22 (.slice (some ⟨D.heap.size, 0, none⟩) 3 3)).run Tryz.prog v57 = .ok (.slice (some ⟨D.heap.size, 0, none⟩) 3 3) (v57.freeze ⟨D.heap.size, 3, none⟩ 1) := run_convert_at v57 _ _ #[.int .u8 120, .int .u8 121, .int .u8 122] D.heap.size 3 3 XB.out Tryz.underlying22 Tryz.underlying5
              have KF := hide (freeze_kept v57 D.heap.size 3)
              have RX := hide (xyz_reads v57 D.heap.size XB.out)
              have hks := KF.out.size
              have hbr := BR.out.size
              have BRn := hide (BR.out.trans (KF.out.below BR.out.size (fun k hk e => by omega)))
              have XAn := hide (XA.out.kept KF.out (by omega))
              go_simp
              refine hK.out _ _ trivial (fun hHeld => ?_)
              clear hK K BR hc3 XB XA
              try simp only [Act.put, List.setIfInBounds_toArray, List.set_cons_zero, List.set_cons_succ]
              generalize v57.freeze ⟨D.heap.size, 3, none⟩ 1 = v58 at *
              have BR := BRn
              clear BRn
              have XA := XAn
              clear XAn
              clear KF
              refine tk 8 52 (.slice (some ⟨D.heap.size, 0, none⟩) r1.toNat 3) hHeld rfl (by kernel_rfl) (by kernel_rfl) (by kernel_rfl) (fun _ _ _ h => h) (Or.inl ⟨by rfl, ?_⟩) ?_
              · intro w _
                go_simp <;> (first | done | decide | omega | (simp [IntKind.wrap, IntKind.bits, IntKind.signed]; omega))
              try simp only [Act.put, List.setIfInBounds_toArray, List.set_cons_zero, List.set_cons_succ]
              refine wpAnyH_ready (rs := [12]) (by kernel_rfl) (by simp) ?_
              refine AllReadyH.cons rfl (fun K hK => ?_) AllReadyH.nil
              go_simp
              refine (lwAt_any a0 cap0 zs (k + 40) 3 _ (HR8.out.below (below_next HW.out BR.out)) HU.out (by omega) (by omega) (by omega) (by decide) (by decide)).mono ?_
              rintro e v59 ⟨r2, rfl, hr2, hr2', hbv59⟩
              have BRn := hide (below_next BR.out hbv59)
              have RXn := hide (RX.out.below hbv59)
              have XAn := hide (XA.out.below hbv59)
              have hsv59 := hbv59.size
              clear hbv59 BR RX XA
              have BR := BRn
              clear BRn
              have RX := RXn
              clear RXn
              have XA := XAn
              clear XAn
              go_wp2_with fail
              refine hK.out _ _ trivial (fun hHeld => ?_)
              clear hK K
              try simp only [Act.put, List.setIfInBounds_toArray, List.set_cons_zero, List.set_cons_succ]
              refine tk 13 57 (.int .i64 (1 + r2)) hHeld rfl (by kernel_rfl) (by kernel_rfl) (by kernel_rfl) (fun _ _ _ h => h) (Or.inl ⟨by rfl, ?_⟩) ?_
              · intro w _
                go_simp <;> (first | done | decide | omega | (simp [IntKind.wrap, IntKind.bits, IntKind.signed]; omega))
              try simp only [Act.put, List.setIfInBounds_toArray, List.set_cons_zero, List.set_cons_succ]
              refine wpAnyH_ready (rs := [14]) (by kernel_rfl) (by simp) ?_
              refine AllReadyH.cons rfl (fun K hK => ?_) AllReadyH.nil
              go_simp
              refine (told8 U HRU.out av cv p (some ⟨D.heap.size, 0, none⟩) r1.toNat 3 (tdX.take r1.toNat) (1 + r2) _ (HRS.out.below BR.out) (by omega) hpl (RX.out.take _) (by simp [tdX]; omega) (td_x8 _) (by simp [tdX]; omega) (by simp [tdX]; omega)).mono ?_
              rintro e v60 ⟨rep, V, hRV, av', cv', rfl, hHV, hbv60⟩
              have HRV := hide hRV
              have HHV := hide hHV
              have BRn := hide (below_next BR.out hbv60)
              have XAn := hide (XA.out.below hbv60)
              have hb8 : v1.heap.size < v59.heap.size := XA.out.lt
              have hsv60 := hbv60.size
              clear hRV hHV hbv60 BR XA
              have BR := BRn
              clear BRn
              have XA := XAn
              clear XAn
              go_wp2_with fail
              refine hK.out _ _ trivial (fun hHeld => ?_)
              clear hK K
              try simp only [Act.put, List.setIfInBounds_toArray, List.set_cons_zero, List.set_cons_succ]
              refine wpAnyH_ready (rs := [16]) (by kernel_rfl) (by simp) ?_
              refine AllReadyH.cons rfl (fun K hK => ?_) AllReadyH.nil
              obtain ⟨⟨z0, z1, z2⟩, z3, z4, z5⟩ := XA.out
              go_simp
              have KT := hide (Kept.three' v60 v1.heap.size (.int .i64 0) (.int .i64 rep) (.slice av' (tdL V).length cv'))
              have RVZ := hide (HHV.out _ (KT.out.mono (fun x _ e => by omega)))
              have BZ := hide (BR.out.trans (KT.out.below BR.out.size (fun x hx e => by omega)))
              have CZ := hide (Tri.of (XA.out.set (.int .i64 0) (.int .i64 rep) (.slice av' (tdL V).length cv')))
              clear z0 z1 z2 z3 z4 z5
              refine hK.out _ _ trivial (fun hHeld => ?_)
              clear hK K
              try simp only [Act.put, List.setIfInBounds_toArray, List.set_cons_zero, List.set_cons_succ]
              refine wpAnyH_done (by kernel_rfl) ?_ _
              generalize ((v60.setCell ⟨v1.heap.size, 0, none⟩ (.int .i64 0)).setCell ⟨v1.heap.size, 1, none⟩ (.int .i64 rep)).setCell ⟨v1.heap.size, 2, none⟩ (.slice av' (tdL V).length cv') = Z at *
              obtain ⟨g0, g1, g2⟩ := CZ.out
              go_wp2_with fail
              go_roundw
              case rel => exact ⟨k + 1, V, av', cv', by omega, by go_num, rfl, HRV, RVZ, hide (below_next HW.out BZ.out)⟩
              case measure => simp [intOf]; omega
            · go_simp
              refine (lwAt_any a0 cap0 zs (k + 40) 3 _ (HR8.out.below (below_next HW.out BR.out)) HU.out (by omega) (by omega) (by omega) (by decide) (by decide)).mono ?_
              rintro e v62 ⟨r2, rfl, hr2, hr2', hbv62⟩
              have BRn := hide (below_next BR.out hbv62)
              have XBn := hide ((hbv62.block _ (Array.getElem?_eq_some_iff.1 XB.out).1).trans XB.out)
              have XAn := hide (XA.out.below hbv62)
              have hsv62 := hbv62.size
              clear hbv62 BR XB XA
              have BR := BRn
              clear BRn
              have XB := XBn
              clear XBn
              have XA := XAn
              clear XAn
              go_wp2_with fail
              refine hK.out _ _ trivial (fun hHeld => ?_)
              clear hK K
              try simp only [Act.put, List.setIfInBounds_toArray, List.set_cons_zero, List.set_cons_succ]
              refine tk 13 57 (.int .i64 (1 + r2)) hHeld rfl (by kernel_rfl) (by kernel_rfl) (by kernel_rfl) (fun _ _ _ h => h) (Or.inl ⟨by rfl, ?_⟩) ?_
              · intro w _
                go_simp <;> (first | done | decide | omega | (simp [IntKind.wrap, IntKind.bits, IntKind.signed]; omega))
              try simp only [Act.put, List.setIfInBounds_toArray, List.set_cons_zero, List.set_cons_succ]
              refine wpAnyH_ready (rs := [3]) (by kernel_rfl) (by simp) ?_
              refine AllReadyH.cons rfl (fun K hK => ?_) AllReadyH.nil
              have hc3 : (convert 22 22 (.slice (some ⟨D.heap.size, 0, none⟩) 3 3)).run Tryz.prog v62 = .ok (.slice (some ⟨D.heap.size, 0, none⟩) 3 3) (v62.freeze ⟨D.heap.size, 3, none⟩ 1) := run_convert_at v62 _ _ #[.int .u8 120, .int .u8 121, .int .u8 122] D.heap.size 3 3 XB.out Tryz.underlying22 Tryz.underlying5
              have KF := hide (freeze_kept v62 D.heap.size 3)
              have RX := hide (xyz_reads v62 D.heap.size XB.out)
              have hks := KF.out.size
              have hbr := BR.out.size
              have BRn := hide (BR.out.trans (KF.out.below BR.out.size (fun k hk e => by omega)))
              have XAn := hide (XA.out.kept KF.out (by omega))
              go_simp
              refine hK.out _ _ trivial (fun hHeld => ?_)
              clear hK K BR hc3 XB XA
              try simp only [Act.put, List.setIfInBounds_toArray, List.set_cons_zero, List.set_cons_succ]
              generalize v62.freeze ⟨D.heap.size, 3, none⟩ 1 = v63 at *
              have BR := BRn
              clear BRn
              have XA := XAn
              clear XAn
              clear KF
              refine tk 8 52 (.slice (some ⟨D.heap.size, 0, none⟩) r1.toNat 3) hHeld rfl (by kernel_rfl) (by kernel_rfl) (by kernel_rfl) (fun _ _ _ h => h) (Or.inl ⟨by rfl, ?_⟩) ?_
              · intro w _
                go_simp <;> (first | done | decide | omega | (simp [IntKind.wrap, IntKind.bits, IntKind.signed]; omega))
              try simp only [Act.put, List.setIfInBounds_toArray, List.set_cons_zero, List.set_cons_succ]
              refine wpAnyH_ready (rs := [14]) (by kernel_rfl) (by simp) ?_
              refine AllReadyH.cons rfl (fun K hK => ?_) AllReadyH.nil
              go_simp
              refine (told8 U HRU.out av cv p (some ⟨D.heap.size, 0, none⟩) r1.toNat 3 (tdX.take r1.toNat) (1 + r2) _ (HRS.out.below BR.out) (by omega) hpl (RX.out.take _) (by simp [tdX]; omega) (td_x8 _) (by simp [tdX]; omega) (by simp [tdX]; omega)).mono ?_
              rintro e v64 ⟨rep, V, hRV, av', cv', rfl, hHV, hbv64⟩
              have HRV := hide hRV
              have HHV := hide hHV
              have BRn := hide (below_next BR.out hbv64)
              have XAn := hide (XA.out.below hbv64)
              have hb8 : v1.heap.size < v63.heap.size := XA.out.lt
              have hsv64 := hbv64.size
              clear hRV hHV hbv64 BR XA
              have BR := BRn
              clear BRn
              have XA := XAn
              clear XAn
              go_wp2_with fail
              refine hK.out _ _ trivial (fun hHeld => ?_)
              clear hK K
              try simp only [Act.put, List.setIfInBounds_toArray, List.set_cons_zero, List.set_cons_succ]
              refine wpAnyH_ready (rs := [16]) (by kernel_rfl) (by simp) ?_
              refine AllReadyH.cons rfl (fun K hK => ?_) AllReadyH.nil
              obtain ⟨⟨z0, z1, z2⟩, z3, z4, z5⟩ := XA.out
              go_simp
              have KT := hide (Kept.three' v64 v1.heap.size (.int .i64 0) (.int .i64 rep) (.slice av' (tdL V).length cv'))
              have RVZ := hide (HHV.out _ (KT.out.mono (fun x _ e => by omega)))
              have BZ := hide (BR.out.trans (KT.out.below BR.out.size (fun x hx e => by omega)))
              have CZ := hide (Tri.of (XA.out.set (.int .i64 0) (.int .i64 rep) (.slice av' (tdL V).length cv')))
              clear z0 z1 z2 z3 z4 z5
              refine hK.out _ _ trivial (fun hHeld => ?_)
              clear hK K
              try simp only [Act.put, List.setIfInBounds_toArray, List.set_cons_zero, List.set_cons_succ]
              refine wpAnyH_done (by kernel_rfl) ?_ _
              generalize ((v64.setCell ⟨v1.heap.size, 0, none⟩ (.int .i64 0)).setCell ⟨v1.heap.size, 1, none⟩ (.int .i64 rep)).setCell ⟨v1.heap.size, 2, none⟩ (.slice av' (tdL V).length cv') = Z at *
              obtain ⟨g0, g1, g2⟩ := CZ.out
              go_wp2_with fail
              go_roundw
              case rel => exact ⟨k + 1, V, av', cv', by omega, by go_num, rfl, HRV, RVZ, hide (below_next HW.out BZ.out)⟩
              case measure => simp [intOf]; omega
      · go_simp
        refine (lwAt_any a0 cap0 zs (k + 20) 4 _ (HR8.out.below (below_next HW.out BR.out)) HU.out (by omega) (by omega) (by omega) (by decide) (by decide)).mono ?_
        rintro e v66 ⟨r1, rfl, hr1, hr1', hbv66⟩
        have BRn := hide (below_next BR.out hbv66)
        have hsv66 := hbv66.size
        clear hbv66 BR
        have BR := BRn
        clear BRn
        go_wp2_with fail
        refine hK.out _ _ trivial (fun hHeld => ?_)
        clear hK K
        try simp only [Act.put, List.setIfInBounds_toArray, List.set_cons_zero, List.set_cons_succ]
        refine wpAnyH_ready (rs := [2, 12, 15]) (by kernel_rfl) (by simp) ?_
        refine AllReadyH.cons rfl (fun K hK => ?_) (AllReadyH.cons rfl (fun K hK => ?_) (AllReadyH.cons rfl (fun K hK => ?_) AllReadyH.nil))
        · have hbu := BR.out.size
          have BRn := hide (below_next BR.out (below_alloc v66 (.cells #[.int .u8 120, .int .u8 121, .int .u8 122] 5)))
          have XBn : Hid ((v66.alloc (.cells #[.int .u8 120, .int .u8 121, .int .u8 122] 5)).heap[v66.heap.size]? = some (.cells #[.int .u8 120, .int .u8 121, .int .u8 122] 5)) := hide (World.alloc_heap_new v66 _)
          have hsn : v66.heap.size < (v66.alloc (.cells #[.int .u8 120, .int .u8 121, .int .u8 122] 5)).heap.size := by simp
          go_simp
          refine hK.out _ _ trivial (fun hHeld => ?_)
          clear hK K BR
          try simp only [Act.put, List.setIfInBounds_toArray, List.set_cons_zero, List.set_cons_succ]
          generalize v66.alloc (.cells #[.int .u8 120, .int .u8 121, .int .u8 122] 5) = v67 at *
          have BR := BRn
          clear BRn
          have XB := XBn
          clear XBn
          have hb2s := BR.out.size
          refine wpAnyH_ready (rs := [3, 12, 15]) (by kernel_rfl) (by simp) ?_
          refine AllReadyH.cons rfl (fun K hK => ?_) (AllReadyH.cons rfl (fun K hK => ?_) (AllReadyH.cons rfl (fun K hK => ?_) AllReadyH.nil))
          · have hc3 : (convert 22 22 (.slice (some ⟨v66.heap.size, 0, none⟩) 3 3)).run Tryz.prog v67 = .ok (.slice (some ⟨v66.heap.size, 0, none⟩) 3 3) (v67.freeze ⟨v66.heap.size, 3, none⟩ 1) := run_convert_at v67 _ _ #[.int .u8 120, .int .u8 121, .int .u8 122] v66.heap.size 3 3 XB.out Tryz.underlying22 Tryz.underlying5
            have KF := hide (freeze_kept v67 v66.heap.size 3)
            have RX := hide (xyz_reads v67 v66.heap.size XB.out)
            have hks := KF.out.size
            have hbr := BR.out.size
            have BRn := hide (BR.out.trans (KF.out.below BR.out.size (fun k hk e => by omega)))
            go_simp
            refine hK.out _ _ trivial (fun hHeld => ?_)
            clear hK K BR hc3 XB
            try simp only [Act.put, List.setIfInBounds_toArray, List.set_cons_zero, List.set_cons_succ]
            generalize v67.freeze ⟨v66.heap.size, 3, none⟩ 1 = v68 at *
            have BR := BRn
            clear BRn
            clear KF
            refine tk 8 52 (.slice (some ⟨v66.heap.size, 0, none⟩) r1.toNat 3) hHeld rfl (by kernel_rfl) (by kernel_rfl) (by kernel_rfl) (fun _ _ _ h => h) (Or.inl ⟨by rfl, ?_⟩) ?_
            · intro w _
              go_simp <;> (first | done | decide | omega | (simp [IntKind.wrap, IntKind.bits, IntKind.signed]; omega))
            try simp only [Act.put, List.setIfInBounds_toArray, List.set_cons_zero, List.set_cons_succ]
            refine wpAnyH_ready (rs := [12, 15]) (by kernel_rfl) (by simp) ?_
            refine AllReadyH.cons rfl (fun K hK => ?_) (AllReadyH.cons rfl (fun K hK => ?_) AllReadyH.nil)
            · go_simp
              refine (lwAt_any a0 cap0 zs (k + 40) 3 _ (HR8.out.below (below_next HW.out BR.out)) HU.out (by omega) (by omega) (by omega) (by decide) (by decide)).mono ?_
              rintro e v69 ⟨r2, rfl, hr2, hr2', hbv69⟩
              have BRn := hide (below_next BR.out hbv69)
              have RXn := hide (RX.out.below hbv69)
              have hsv69 := hbv69.size
              clear hbv69 BR RX
              have BR := BRn
              clear BRn
              have RX := RXn
              clear RXn
              go_wp2_with fail
              refine hK.out _ _ trivial (fun hHeld => ?_)
              clear hK K
              try simp only [Act.put, List.setIfInBounds_toArray, List.set_cons_zero, List.set_cons_succ]
              refine tk 13 57 (.int .i64 (1 + r2)) hHeld rfl (by kernel_rfl) (by kernel_rfl) (by kernel_rfl) (fun _ _ _ h => h) (Or.inl ⟨by rfl, ?_⟩) ?_
              · intro w _
                go_simp <;> (first | done | decide | omega | (simp [IntKind.wrap, IntKind.bits, IntKind.signed]; omega))
              try simp only [Act.put, List.setIfInBounds_toArray, List.set_cons_zero, List.set_cons_succ]
              refine wpAnyH_ready (rs := [14, 15]) (by kernel_rfl) (by simp) ?_
              refine AllReadyH.cons rfl (fun K hK => ?_) (AllReadyH.cons rfl (fun K hK => ?_) AllReadyH.nil)
              · go_simp
                refine (told8 U HRU.out av cv p (some ⟨v66.heap.size, 0, none⟩) r1.toNat 3 (tdX.take r1.toNat) (1 + r2) _ (HRS.out.below BR.out) (by omega) hpl (RX.out.take _) (by simp [tdX]; omega) (td_x8 _) (by simp [tdX]; omega) (by simp [tdX]; omega)).mono ?_
                rintro e v70 ⟨rep, V, hRV, av', cv', rfl, hHV, hbv70⟩
                have HRV := hide hRV
                have HHV := hide hHV
                have BRn := hide (below_next BR.out hbv70)
                have hsv70 := hbv70.size
                clear hRV hHV hbv70 BR
                have BR := BRn
                clear BRn
                go_wp2_with fail
                refine hK.out _ _ trivial (fun hHeld => ?_)
                clear hK K
                try simp only [Act.put, List.setIfInBounds_toArray, List.set_cons_zero, List.set_cons_succ]
                refine wpAnyH_ready (rs := [15]) (by kernel_rfl) (by simp) ?_
                refine AllReadyH.cons rfl (fun K hK => ?_) AllReadyH.nil
                have hbu := BR.out.size
                have BRn := hide (below_next BR.out (below_alloc v70 (.cells #[.int .i64 0, .int .i64 0, .slice none 0 0] 28)))
                have XAn := hide (Box3.new v70 (.int .i64 0) (.int .i64 0) (.slice none 0 0) 28)
                have hsn : v70.heap.size < (v70.alloc (.cells #[.int .i64 0, .int .i64 0, .slice none 0 0] 28)).heap.size := by simp
                go_simp
                refine hK.out _ _ trivial (fun hHeld => ?_)
                clear hK K
                try simp only [Act.put, List.setIfInBounds_toArray, List.set_cons_zero, List.set_cons_succ]
                clear BRn XAn
                refine wpAnyH_ready (rs := [16]) (by kernel_rfl) (by simp) ?_
                refine AllReadyH.cons rfl (fun K hK => ?_) AllReadyH.nil
                go_simp
                have RVZ := hide (HHV.out.rd.below (below_alloc v70 (.cells #[.int .i64 0, .int .i64 rep, .slice av' (tdL V).length cv'] 28)))
                have BZ := hide (below_next BR.out (below_alloc v70 (.cells #[.int .i64 0, .int .i64 rep, .slice av' (tdL V).length cv'] 28)))
                have CZ : Hid (Tri (v70.alloc (.cells #[.int .i64 0, .int .i64 rep, .slice av' (tdL V).length cv'] 28)) v70.heap.size (.int .i64 0) (.int .i64 rep) (.slice av' (tdL V).length cv')) := hide ⟨by simp, by simp, by simp⟩
                refine hK.out _ _ trivial (fun hHeld => ?_)
                clear hK K
                try simp only [Act.put, List.setIfInBounds_toArray, List.set_cons_zero, List.set_cons_succ]
                refine wpAnyH_done (by kernel_rfl) ?_ _
                skip
                generalize v70.alloc (.cells #[.int .i64 0, .int .i64 rep, .slice av' (tdL V).length cv'] 28) = Z at *
                obtain ⟨g0, g1, g2⟩ := CZ.out
                go_wp2_with fail
                go_roundw
                case rel => exact ⟨k + 1, V, av', cv', by omega, by go_num, rfl, HRV, RVZ, hide (below_next HW.out BZ.out)⟩
                case measure => simp [intOf]; omega
              · have hbu := BR.out.size
                have BRn := hide (below_next BR.out (below_alloc v69 (.cells #[.int .i64 0, .int .i64 0, .slice none 0 0] 28)))
                have XAn := hide (Box3.new v69 (.int .i64 0) (.int .i64 0) (.slice none 0 0) 28)
                have RXn := hide (RX.out.below (below_alloc v69 (.cells #[.int .i64 0, .int .i64 0, .slice none 0 0] 28)))
                have hsn : v69.heap.size < (v69.alloc (.cells #[.int .i64 0, .int .i64 0, .slice none 0 0] 28)).heap.size := by simp
                go_simp
                refine hK.out _ _ trivial (fun hHeld => ?_)
                clear hK K BR RX
                try simp only [Act.put, List.setIfInBounds_toArray, List.set_cons_zero, List.set_cons_succ]
                generalize v69.alloc (.cells #[.int .i64 0, .int .i64 0, .slice none 0 0] 28) = v72 at *
                have BR := BRn
                clear BRn
                have XA := XAn
                clear XAn
                have RX := RXn
                clear RXn
                refine wpAnyH_ready (rs := [14]) (by kernel_rfl) (by simp) ?_
                refine AllReadyH.cons rfl (fun K hK => ?_) AllReadyH.nil
                go_simp
                refine (told8 U HRU.out av cv p (some ⟨v66.heap.size, 0, none⟩) r1.toNat 3 (tdX.take r1.toNat) (1 + r2) _ (HRS.out.below BR.out) (by omega) hpl (RX.out.take _) (by simp [tdX]; omega) (td_x8 _) (by simp [tdX]; omega) (by simp [tdX]; omega)).mono ?_
                rintro e v73 ⟨rep, V, hRV, av', cv', rfl, hHV, hbv73⟩
                have HRV := hide hRV
                have HHV := hide hHV
                have BRn := hide (below_next BR.out hbv73)
                have XAn := hide (XA.out.below hbv73)
                have hb8 : v69.heap.size < v72.heap.size := XA.out.lt
                have hsv73 := hbv73.size
                clear hRV hHV hbv73 BR XA
                have BR := BRn
                clear BRn
                have XA := XAn
                clear XAn
                go_wp2_with fail
                refine hK.out _ _ trivial (fun hHeld => ?_)
                clear hK K
                try simp only [Act.put, List.setIfInBounds_toArray, List.set_cons_zero, List.set_cons_succ]
                refine wpAnyH_ready (rs := [16]) (by kernel_rfl) (by simp) ?_
                refine AllReadyH.cons rfl (fun K hK => ?_) AllReadyH.nil
                obtain ⟨⟨z0, z1, z2⟩, z3, z4, z5⟩ := XA.out
                go_simp
                have KT := hide (Kept.three' v73 v69.heap.size (.int .i64 0) (.int .i64 rep) (.slice av' (tdL V).length cv'))
                have RVZ := hide (HHV.out _ (KT.out.mono (fun x _ e => by omega)))
                have BZ := hide (BR.out.trans (KT.out.below BR.out.size (fun x hx e => by omega)))
                have CZ := hide (Tri.of (XA.out.set (.int .i64 0) (.int .i64 rep) (.slice av' (tdL V).length cv')))
                clear z0 z1 z2 z3 z4 z5
                refine hK.out _ _ trivial (fun hHeld => ?_)
                clear hK K
                try simp only [Act.put, List.setIfInBounds_toArray, List.set_cons_zero, List.set_cons_succ]
                refine wpAnyH_done (by kernel_rfl) ?_ _
                generalize ((v73.setCell ⟨v69.heap.size, 0, none⟩ (.int .i64 0)).setCell ⟨v69.heap.size, 1, none⟩ (.int .i64 rep)).setCell ⟨v69.heap.size, 2, none⟩ (.slice av' (tdL V).length cv') = Z at *
                obtain ⟨g0, g1, g2⟩ := CZ.out
                go_wp2_with fail
                go_roundw
                case rel => exact ⟨k + 1, V, av', cv', by omega, by go_num, rfl, HRV, RVZ, hide (below_next HW.out BZ.out)⟩
                case measure => simp [intOf]; omega
            · have hbu := BR.out.size
              have BRn := hide (below_next BR.out (below_alloc v68 (.cells #[.int .i64 0, .int .i64 0, .slice none 0 0] 28)))
              have XAn := hide (Box3.new v68 (.int .i64 0) (.int .i64 0) (.slice none 0 0) 28)
              have RXn := hide (RX.out.below (below_alloc v68 (.cells #[.int .i64 0, .int .i64 0, .slice none 0 0] 28)))
              have hsn : v68.heap.size < (v68.alloc (.cells #[.int .i64 0, .int .i64 0, .slice none 0 0] 28)).heap.size := by simp
              go_simp
              refine hK.out _ _ trivial (fun hHeld => ?_)
              clear hK K BR RX
              try simp only [Act.put, List.setIfInBounds_toArray, List.set_cons_zero, List.set_cons_succ]
              generalize v68.alloc (.cells #[.int .i64 0, .int .i64 0, .slice none 0 0] 28) = v75 at *
              have BR := BRn
              clear BRn
              have XA := XAn
              clear XAn
              have RX := RXn
              clear RXn
              refine wpAnyH_ready (rs := [12]) (by kernel_rfl) (by simp) ?_
              refine AllReadyH.cons rfl (fun K hK => ?_) AllReadyH.nil
              go_simp
              refine (lwAt_any a0 cap0 zs (k + 40) 3 _ (HR8.out.below (below_next HW.out BR.out)) HU.out (by omega) (by omega) (by omega) (by decide) (by decide)).mono ?_
              rintro e v76 ⟨r2, rfl, hr2, hr2', hbv76⟩
              have BRn := hide (below_next BR.out hbv76)
              have RXn := hide (RX.out.below hbv76)
              have XAn := hide (XA.out.below hbv76)
              have hsv76 := hbv76.size
              clear hbv76 BR RX XA
              have BR := BRn
              clear BRn
              have RX := RXn
              clear RXn
              have XA := XAn
              clear XAn
              go_wp2_with fail
              refine hK.out _ _ trivial (fun hHeld => ?_)
              clear hK K
              try simp only [Act.put, List.setIfInBounds_toArray, List.set_cons_zero, List.set_cons_succ]
              refine tk 13 57 (.int .i64 (1 + r2)) hHeld rfl (by kernel_rfl) (by kernel_rfl) (by kernel_rfl) (fun _ _ _ h => h) (Or.inl ⟨by rfl, ?_⟩) ?_
              · intro w _
                go_simp <;> (first | done | decide | omega | (simp [IntKind.wrap, IntKind.bits, IntKind.signed]; omega))
              try simp only [Act.put, List.setIfInBounds_toArray, List.set_cons_zero, List.set_cons_succ]
              refine wpAnyH_ready (rs := [14]) (by kernel_rfl) (by simp) ?_
              refine AllReadyH.cons rfl (fun K hK => ?_) AllReadyH.nil
              go_simp
              refine (told8 U HRU.out av cv p (some ⟨v66.heap.size, 0, none⟩) r1.toNat 3 (tdX.take r1.toNat) (1 + r2) _ (HRS.out.below BR.out) (by omega) hpl (RX.out.take _) (by simp [tdX]; omega) (td_x8 _) (by simp [tdX]; omega) (by simp [tdX]; omega)).mono ?_
              rintro e v77 ⟨rep, V, hRV, av', cv', rfl, hHV, hbv77⟩
              have HRV := hide hRV
              have HHV := hide hHV
              have BRn := hide (below_next BR.out hbv77)
              have XAn := hide (XA.out.below hbv77)
              have hb8 : v68.heap.size < v76.heap.size := XA.out.lt
              have hsv77 := hbv77.size
              clear hRV hHV hbv77 BR XA
              have BR := BRn
              clear BRn
              have XA := XAn
              clear XAn
              go_wp2_with fail
              refine hK.out _ _ trivial (fun hHeld => ?_)
              clear hK K
              try simp only [Act.put, List.setIfInBounds_toArray, List.set_cons_zero, List.set_cons_succ]
              refine wpAnyH_ready (rs := [16]) (by kernel_rfl) (by simp) ?_
              refine AllReadyH.cons rfl (fun K hK => ?_) AllReadyH.nil
              obtain ⟨⟨z0, z1, z2⟩, z3, z4, z5⟩ := XA.out
              go_simp
              have KT := hide (Kept.three' v77 v68.heap.size (.int .i64 0) (.int .i64 rep) (.slice av' (tdL V).length cv'))
              have RVZ := hide (HHV.out _ (KT.out.mono (fun x _ e => by omega)))
              have BZ := hide (BR.out.trans (KT.out.below BR.out.size (fun x hx e => by omega)))
              have CZ := hide (Tri.of (XA.out.set (.int .i64 0) (.int .i64 rep) (.slice av' (tdL V).length cv')))
              clear z0 z1 z2 z3 z4 z5
              refine hK.out _ _ trivial (fun hHeld => ?_)
              clear hK K
              try simp only [Act.put, List.setIfInBounds_toArray, List.set_cons_zero, List.set_cons_succ]
              refine wpAnyH_done (by kernel_rfl) ?_ _
              generalize ((v77.setCell ⟨v68.heap.size, 0, none⟩ (.int .i64 0)).setCell ⟨v68.heap.size, 1, none⟩ (.int .i64 rep)).setCell ⟨v68.heap.size, 2, none⟩ (.slice av' (tdL V).length cv') = Z at *
              obtain ⟨g0, g1, g2⟩ := CZ.out
              go_wp2_with fail
              go_roundw
              case rel => exact ⟨k + 1, V, av', cv', by omega, by go_num, rfl, HRV, RVZ, hide (below_next HW.out BZ.out)⟩
              case measure => simp [intOf]; omega
          · go_simp
            refine (lwAt_any a0 cap0 zs (k + 40) 3 _ (HR8.out.below (below_next HW.out BR.out)) HU.out (by omega) (by omega) (by omega) (by decide) (by decide)).mono ?_
            rintro e v79 ⟨r2, rfl, hr2, hr2', hbv79⟩
            have BRn := hide (below_next BR.out hbv79)
            have XBn := hide ((hbv79.block _ (Array.getElem?_eq_some_iff.1 XB.out).1).trans XB.out)
            have hsv79 := hbv79.size
            clear hbv79 BR XB
            have BR := BRn
            clear BRn
            have XB := XBn
            clear XBn
            go_wp2_with fail
            refine hK.out _ _ trivial (fun hHeld => ?_)
            clear hK K
            try simp only [Act.put, List.setIfInBounds_toArray, List.set_cons_zero, List.set_cons_succ]
            refine tk 13 57 (.int .i64 (1 + r2)) hHeld rfl (by kernel_rfl) (by kernel_rfl) (by kernel_rfl) (fun _ _ _ h => h) (Or.inl ⟨by rfl, ?_⟩) ?_
            · intro w _
              go_simp <;> (first | done | decide | omega | (simp [IntKind.wrap, IntKind.bits, IntKind.signed]; omega))
            try simp only [Act.put, List.setIfInBounds_toArray, List.set_cons_zero, List.set_cons_succ]
            refine wpAnyH_ready (rs := [3, 15]) (by kernel_rfl) (by simp) ?_
            refine AllReadyH.cons rfl (fun K hK => ?_) (AllReadyH.cons rfl (fun K hK => ?_) AllReadyH.nil)
            · have hc3 : (convert 22 22 (.slice (some ⟨v66.heap.size, 0, none⟩) 3 3)).run Tryz.prog v79 = .ok (.slice (some ⟨v66.heap.size, 0, none⟩) 3 3) (v79.freeze ⟨v66.heap.size, 3, none⟩ 1) := run_convert_at v79 _ _ #[.int .u8 120, .int .u8 121, .int .u8 122] v66.heap.size 3 3 XB.out Tryz.underlying22 Tryz.underlying5
              have KF := hide (freeze_kept v79 v66.heap.size 3)
              have RX := hide (xyz_reads v79 v66.heap.size XB.out)
              have hks := KF.out.size
              have hbr := BR.out.size
              have BRn := hide (BR.out.trans (KF.out.below BR.out.size (fun k hk e => by omega)))
              go_simp
              refine hK.out _ _ trivial (fun hHeld => ?_)
              clear hK K BR hc3 XB
              try simp only [Act.put, List.setIfInBounds_toArray, List.set_cons_zero, List.set_cons_succ]
              generalize v79.freeze ⟨v66.heap.size, 3, none⟩ 1 = v80 at *
              have BR := BRn
              clear BRn
              clear KF
              refine tk 8 52 (.slice (some ⟨v66.heap.size, 0, none⟩) r1.toNat 3) hHeld rfl (by kernel_rfl) (by kernel_rfl) (by kernel_rfl) (fun _ _ _ h => h) (Or.inl ⟨by rfl, ?_⟩) ?_
              · intro w _
                go_simp <;> (first | done | decide | omega | (simp [IntKind.wrap, IntKind.bits, IntKind.signed]; omega))
              try simp only [Act.put, List.setIfInBounds_toArray, List.set_cons_zero, List.set_cons_succ]
              refine wpAnyH_ready (rs := [14, 15]) (by kernel_rfl) (by simp) ?_
              refine AllReadyH.cons rfl (fun K hK => ?_) (AllReadyH.cons rfl (fun K hK => ?_) AllReadyH.nil)
              · go_simp
                refine (told8 U HRU.out av cv p (some ⟨v66.heap.size, 0, none⟩) r1.toNat 3 (tdX.take r1.toNat) (1 + r2) _ (HRS.out.below BR.out) (by omega) hpl (RX.out.take _) (by simp [tdX]; omega) (td_x8 _) (by simp [tdX]; omega) (by simp [tdX]; omega)).mono ?_
                rintro e v81 ⟨rep, V, hRV, av', cv', rfl, hHV, hbv81⟩
                have HRV := hide hRV
                have HHV := hide hHV
                have BRn := hide (below_next BR.out hbv81)
                have hsv81 := hbv81.size
                clear hRV hHV hbv81 BR
                have BR := BRn
                clear BRn
                go_wp2_with fail
                refine hK.out _ _ trivial (fun hHeld => ?_)
                clear hK K
                try simp only [Act.put, List.setIfInBounds_toArray, List.set_cons_zero, List.set_cons_succ]
                refine wpAnyH_ready (rs := [15]) (by kernel_rfl) (by simp) ?_
                refine AllReadyH.cons rfl (fun K hK => ?_) AllReadyH.nil
                have hbu := BR.out.size
                have BRn := hide (below_next BR.out (below_alloc v81 (.cells #[.int .i64 0, .int .i64 0, .slice none 0 0] 28)))
                have XAn := hide (Box3.new v81 (.int .i64 0) (.int .i64 0) (.slice none 0 0) 28)
                have hsn : v81.heap.size < (v81.alloc (.cells #[.int .i64 0, .int .i64 0, .slice none 0 0] 28)).heap.size := by simp
                go_simp
                refine hK.out _ _ trivial (fun hHeld => ?_)
                clear hK K
                try simp only [Act.put, List.setIfInBounds_toArray, List.set_cons_zero, List.set_cons_succ]
                clear BRn XAn
                refine wpAnyH_ready (rs := [16]) (by kernel_rfl) (by simp) ?_
                refine AllReadyH.cons rfl (fun K hK => ?_) AllReadyH.nil
                go_simp
                have RVZ := hide (HHV.out.rd.below (below_alloc v81 (.cells #[.int .i64 0, .int .i64 rep, .slice av' (tdL V).length cv'] 28)))
                have BZ := hide (below_next BR.out (below_alloc v81 (.cells #[.int .i64 0, .int .i64 rep, .slice av' (tdL V).length cv'] 28)))
                have CZ : Hid (Tri (v81.alloc (.cells #[.int .i64 0, .int .i64 rep, .slice av' (tdL V).length cv'] 28)) v81.heap.size (.int .i64 0) (.int .i64 rep) (.slice av' (tdL V).length cv')) := hide ⟨by simp, by simp, by simp⟩
                refine hK.out _ _ trivial (fun hHeld => ?_)
                clear hK K
                try simp only [Act.put, List.setIfInBounds_toArray, List.set_cons_zero, List.set_cons_succ]
                refine wpAnyH_done (by kernel_rfl) ?_ _
                skip
                generalize v81.alloc (.cells #[.int .i64 0, .int .i64 rep, .slice av' (tdL V).length cv'] 28) = Z at *
                obtain ⟨g0, g1, g2⟩ := CZ.out
                go_wp2_with fail
                go_roundw
                case rel => exact ⟨k + 1, V, av', cv', by omega, by go_num, rfl, HRV, RVZ, hide (below_next HW.out BZ.out)⟩
                case measure => simp [intOf]; omega
              · have hbu := BR.out.size
                have BRn := hide (below_next BR.out (below_alloc v80 (.cells #[.int .i64 0, .int .i64 0, .slice none 0 0] 28)))
                have XAn := hide (Box3.new v80 (.int .i64 0) (.int .i64 0) (.slice none 0 0) 28)
                have RXn := hide (RX.out.below (below_alloc v80 (.cells #[.int .i64 0, .int .i64 0, .slice none 0 0] 28)))
                have hsn : v80.heap.size < (v80.alloc (.cells #[.int .i64 0, .int .i64 0, .slice none 0 0] 28)).heap.size := by simp
                go_simp
                refine hK.out _ _ trivial (fun hHeld => ?_)
                clear hK K BR RX
                try simp only [Act.put, List.setIfInBounds_toArray, List.set_cons_zero, List.set_cons_succ]
                generalize v80.alloc (.cells #[.int .i64 0, .int .i64 0, .slice none 0 0] 28) = v83 at *
                have BR := BRn
                clear BRn
                have XA := XAn
                clear XAn
                have RX := RXn
                clear RXn
                refine wpAnyH_ready (rs := [14]) (by kernel_rfl) (by simp) ?_
                refine AllReadyH.cons rfl (fun K hK => ?_) AllReadyH.nil
                go_simp
                refine (told8 U HRU.out av cv p (some ⟨v66.heap.size, 0, none⟩) r1.toNat 3 (tdX.take r1.toNat) (1 + r2) _ (HRS.out.below BR.out) (by omega) hpl (RX.out.take _) (by simp [tdX]; omega) (td_x8 _) (by simp [tdX]; omega) (by simp [tdX]; omega)).mono ?_
                rintro e v84 ⟨rep, V, hRV, av', cv', rfl, hHV, hbv84⟩
                have HRV := hide hRV
                have HHV := hide hHV
                have BRn := hide (below_next BR.out hbv84)
                have XAn := hide (XA.out.below hbv84)
                have hb8 : v80.heap.size < v83.heap.size := XA.out.lt
                have hsv84 := hbv84.size
                clear hRV hHV hbv84 BR XA
                have BR := BRn
                clear BRn
                have XA := XAn
                clear XAn
                go_wp2_with fail
                refine hK.out _ _ trivial (fun hHeld => ?_)
                clear hK K
                try simp only [Act.put, List.setIfInBounds_toArray, List.set_cons_zero, List.set_cons_succ]
                refine wpAnyH_ready (rs := [16]) (by kernel_rfl) (by simp) ?_
                refine AllReadyH.cons rfl (fun K hK => ?_) AllReadyH.nil
                obtain ⟨⟨z0, z1, z2⟩, z3, z4, z5⟩ := XA.out
                go_simp
                have KT := hide (Kept.three' v84 v80.heap.size (.int .i64 0) (.int .i64 rep) (.slice av' (tdL V).length cv'))
                have RVZ := hide (HHV.out _ (KT.out.mono (fun x _ e => by omega)))
                have BZ := hide (BR.out.trans (KT.out.below BR.out.size (fun x hx e => by omega)))
                have CZ := hide (Tri.of (XA.out.set (.int .i64 0) (.int .i64 rep) (.slice av' (tdL V).length cv')))
                clear z0 z1 z2 z3 z4 z5
                refine hK.out _ _ trivial (fun hHeld => ?_)
                clear hK K
                try simp only [Act.put, List.setIfInBounds_toArray, List.set_cons_zero, List.set_cons_succ]
                refine wpAnyH_done (by kernel_rfl) ?_ _
                generalize ((v84.setCell ⟨v80.heap.size, 0, none⟩ (.int .i64 0)).setCell ⟨v80.heap.size, 1, none⟩ (.int .i64 rep)).setCell ⟨v80.heap.size, 2, none⟩ (.slice av' (tdL V).length cv') = Z at *
                obtain ⟨g0, g1, g2⟩ := CZ.out
                go_wp2_with fail
                go_roundw
                case rel => exact ⟨k + 1, V, av', cv', by omega, by go_num, rfl, HRV, RVZ, hide (below_next HW.out BZ.out)⟩
                case measure => simp [intOf]; omega
            · have hbu := BR.out.size
              have BRn := hide (below_next BR.out (below_alloc v79 (.cells #[.int .i64 0, .int .i64 0, .slice none 0 0] 28)))
              have XAn := hide (Box3.new v79 (.int .i64 0) (.int .i64 0) (.slice none 0 0) 28)
              have XBn := hide (((below_alloc v79 (.cells #[.int .i64 0, .int .i64 0, .slice none 0 0] 28)).block _ (Array.getElem?_eq_some_iff.1 XB.out).1).trans XB.out)
              have hsn : v79.heap.size < (v79.alloc (.cells #[.int .i64 0, .int .i64 0, .slice none 0 0] 28)).heap.size := by simp
              go_simp
              refine hK.out _ _ trivial (fun hHeld => ?_)
              clear hK K BR XB
              try simp only [Act.put, List.setIfInBounds_toArray, List.set_cons_zero, List.set_cons_succ]
              generalize v79.alloc (.cells #[.int .i64 0, .int .i64 0, .slice none 0 0] 28) = v86 at *
              have BR := BRn
              clear BRn
              have XA := XAn
              clear XAn
              have XB := XBn
              clear XBn
              refine wpAnyH_ready (rs := [3]) (by kernel_rfl) (by simp) ?_
              refine AllReadyH.cons rfl (fun K hK => ?_) AllReadyH.nil
              have hc3 : (convert 22 22 (.slice (some ⟨v66.heap.size, 0, none⟩) 3 3)).run Tryz.prog v86 = .ok (.slice (some ⟨v66.heap.size, 0, none⟩) 3 3) (v86.freeze ⟨v66.heap.size, 3, none⟩ 1) := run_convert_at v86 _ _ #[.int .u8 120, .int .u8 121, .int .u8 122] v66.heap.size 3 3 XB.out Tryz.underlying22 Tryz.underlying5
              have KF := hide (freeze_kept v86 v66.heap.size 3)
              have RX := hide (xyz_reads v86 v66.heap.size XB.out)
              have hks := KF.out.size
              have hbr := BR.out.size
              have BRn := hide (BR.out.trans (KF.out.below BR.out.size (fun k hk e => by omega)))
              have XAn := hide (XA.out.kept KF.out (by omega))
              go_simp
              refine hK.out _ _ trivial (fun hHeld => ?_)
              clear hK K BR hc3 XB XA
              try simp only [Act.put, List.setIfInBounds_toArray, List.set_cons_zero, List.set_cons_succ]
              generalize v86.freeze ⟨v66.heap.size, 3, none⟩ 1 = v87 at *
              have BR := BRn
              clear BRn
              have XA := XAn
              clear XAn
              clear KF
              refine tk 8 52 (.slice (some ⟨v66.heap.size, 0, none⟩) r1.toNat 3) hHeld rfl (by kernel_rfl) (by kernel_rfl) (by kernel_rfl) (fun _ _ _ h => h) (Or.inl ⟨by rfl, ?_⟩) ?_
              · intro w _
                go_simp <;> (first | done | decide | omega | (simp [IntKind.wrap, IntKind.bits, IntKind.signed]; omega))
              try simp only [Act.put, List.setIfInBounds_toArray, List.set_cons_zero, List.set_cons_succ]
              refine wpAnyH_ready (rs := [14]) (by kernel_rfl) (by simp) ?_
              refine AllReadyH.cons rfl (fun K hK => ?_) AllReadyH.nil
              go_simp
              refine (told8 U HRU.out av cv p (some ⟨v66.heap.size, 0, none⟩) r1.toNat 3 (tdX.take r1.toNat) (1 + r2) _ (HRS.out.below BR.out) (by omega) hpl (RX.out.take _) (by simp [tdX]; omega) (td_x8 _) (by simp [tdX]; omega) (by simp [tdX]; omega)).mono ?_
              rintro e v88 ⟨rep, V, hRV, av', cv', rfl, hHV, hbv88⟩
              have HRV := hide hRV
              have HHV := hide hHV
              have BRn := hide (below_next BR.out hbv88)
              have XAn := hide (XA.out.below hbv88)
              have hb8 : v79.heap.size < v87.heap.size := XA.out.lt
              have hsv88 := hbv88.size
              clear hRV hHV hbv88 BR XA
              have BR := BRn
              clear BRn
              have XA := XAn
              clear XAn
              go_wp2_with fail
              refine hK.out _ _ trivial (fun hHeld => ?_)
              clear hK K
              try simp only [Act.put, List.setIfInBounds_toArray, List.set_cons_zero, List.set_cons_succ]
              refine wpAnyH_ready (rs := [16]) (by kernel_rfl) (by simp) ?_
              refine AllReadyH.cons rfl (fun K hK => ?_) AllReadyH.nil
              obtain ⟨⟨z0, z1, z2⟩, z3, z4, z5⟩ := XA.out
              go_simp
              have KT := hide (Kept.three' v88 v79.heap.size (.int .i64 0) (.int .i64 rep) (.slice av' (tdL V).length cv'))
              have RVZ := hide (HHV.out _ (KT.out.mono (fun x _ e => by omega)))
              have BZ := hide (BR.out.trans (KT.out.below BR.out.size (fun x hx e => by omega)))
              have CZ := hide (Tri.of (XA.out.set (.int .i64 0) (.int .i64 rep) (.slice av' (tdL V).length cv')))
              clear z0 z1 z2 z3 z4 z5
              refine hK.out _ _ trivial (fun hHeld => ?_)
              clear hK K
              try simp only [Act.put, List.setIfInBounds_toArray, List.set_cons_zero, List.set_cons_succ]
              refine wpAnyH_done (by kernel_rfl) ?_ _
              generalize ((v88.setCell ⟨v79.heap.size, 0, none⟩ (.int .i64 0)).setCell ⟨v79.heap.size, 1, none⟩ (.int .i64 rep)).setCell ⟨v79.heap.size, 2, none⟩ (.slice av' (tdL V).length cv') = Z at *
              obtain ⟨g0, g1, g2⟩ := CZ.out
              go_wp2_with fail
              go_roundw
              case rel => exact ⟨k + 1, V, av', cv', by omega, by go_num, rfl, HRV, RVZ, hide (below_next HW.out BZ.out)⟩
              case measure => simp [intOf]; omega
          · have hbu := BR.out.size
            have BRn := hide (below_next BR.out (below_alloc v67 (.cells #[.int .i64 0, .int .i64 0, .slice none 0 0] 28)))
            have XAn := hide (Box3.new v67 (.int .i64 0) (.int .i64 0) (.slice none 0 0) 28)
            have XBn := hide (((below_alloc v67 (.cells #[.int .i64 0, .int .i64 0, .slice none 0 0] 28)).block _ (Array.getElem?_eq_some_iff.1 XB.out).1).trans XB.out)
            have hsn : v67.heap.size < (v67.alloc (.cells #[.int .i64 0, .int .i64 0, .slice none 0 0] 28)).heap.size := by simp
            go_simp
            refine hK.out _ _ trivial (fun hHeld => ?_)
            clear hK K BR XB
            try simp only [Act.put, List.setIfInBounds_toArray, List.set_cons_zero, List.set_cons_succ]
            generalize v67.alloc (.cells #[.int .i64 0, .int .i64 0, .slice none 0 0] 28) = v90 at *
            have BR := BRn
            clear BRn
            have XA := XAn
            clear XAn
            have XB := XBn
            clear XBn
            refine wpAnyH_ready (rs := [3, 12]) (by kernel_rfl) (by simp) ?_
            refine AllReadyH.cons rfl (fun K hK => ?_) (AllReadyH.cons rfl (fun K hK => ?_) AllReadyH.nil)
            · have hc3 : (convert 22 22 (.slice (some ⟨v66.heap.size, 0, none⟩) 3 3)).run Tryz.prog v90 = .ok (.slice (some ⟨v66.heap.size, 0, none⟩) 3 3) (v90.freeze ⟨v66.heap.size, 3, none⟩ 1) := run_convert_at v90 _ _ #[.int .u8 120, .int .u8 121, .int .u8 122] v66.heap.size 3 3 XB.out Tryz.underlying22 Tryz.underlying5
              have KF := hide (freeze_kept v90 v66.heap.size 3)
              have RX := hide (xyz_reads v90 v66.heap.size XB.out)
              have hks := KF.out.size
              have hbr := BR.out.size
              have BRn := hide (BR.out.trans (KF.out.below BR.out.size (fun k hk e => by omega)))
              have XAn := hide (XA.out.kept KF.out (by omega))
              go_simp
              refine hK.out _ _ trivial (fun hHeld => ?_)
              clear hK K BR hc3 XB XA
              try simp only [Act.put, List.setIfInBounds_toArray, List.set_cons_zero, List.set_cons_succ]
              generalize v90.freeze ⟨v66.heap.size, 3, none⟩ 1 = v91 at *
              have BR := BRn
              clear BRn
              have XA := XAn
              clear XAn
              clear KF
              refine tk 8 52 (.slice (some ⟨v66.heap.size, 0, none⟩) r1.toNat 3) hHeld rfl (by kernel_rfl) (by kernel_rfl) (by kernel_rfl) (fun _ _ _ h => h) (Or.inl ⟨by rfl, ?_⟩) ?_
              · intro w _
                go_simp <;> (first | done | decide | omega | (simp [IntKind.wrap, IntKind.bits, IntKind.signed]; omega))
              try simp only [Act.put, List.setIfInBounds_toArray, List.set_cons_zero, List.set_cons_succ]
              refine wpAnyH_ready (rs := [12]) (by kernel_rfl) (by simp) ?_
              refine AllReadyH.cons rfl (fun K hK => ?_) AllReadyH.nil
              go_simp
              refine (lwAt_any a0 cap0 zs (k + 40) 3 _ (HR8.out.below (below_next HW.out BR.out)) HU.out (by omega) (by omega) (by omega) (by decide) (by decide)).mono ?_
              rintro e v92 ⟨r2, rfl, hr2, hr2', hbv92⟩
              have BRn := hide (below_next BR.out hbv92)
              have RXn := hide (RX.out.below hbv92)
              have XAn := hide (XA.out.below hbv92)
              have hsv92 := hbv92.size
              clear hbv92 BR RX XA
              have BR := BRn
              clear BRn
              have RX := RXn
              clear RXn
              have XA := XAn
              clear XAn
              go_wp2_with fail
              refine hK.out _ _ trivial (fun hHeld => ?_)
              clear hK K
              try simp only [Act.put, List.setIfInBounds_toArray, List.set_cons_zero, List.set_cons_succ]
              refine tk 13 57 (.int .i64 (1 + r2)) hHeld rfl (by kernel_rfl) (by kernel_rfl) (by kernel_rfl) (fun _ _ _ h => h) (Or.inl ⟨by rfl, ?_⟩) ?_
              · intro w _
                go_simp <;> (first | done | decide | omega | (simp [IntKind.wrap, IntKind.bits, IntKind.signed]; omega))
              try simp only [Act.put, List.setIfInBounds_toArray, List.set_cons_zero, List.set_cons_succ]
              refine wpAnyH_ready (rs := [14]) (by kernel_rfl) (by simp) ?_
              refine AllReadyH.cons rfl (fun K hK => ?_) AllReadyH.nil
              go_simp
              refine (told8 U HRU.out av cv p (some ⟨v66.heap.size, 0, none⟩) r1.toNat 3 (tdX.take r1.toNat) (1 + r2) _ (HRS.out.below BR.out) (by omega) hpl (RX.out.take _) (by simp [tdX]; omega) (td_x8 _) (by simp [tdX]; omega) (by simp [tdX]; omega)).mono ?_
              rintro e v93 ⟨rep, V, hRV, av', cv', rfl, hHV, hbv93⟩
              have HRV := hide hRV
              have HHV := hide hHV
              have BRn := hide (below_next BR.out hbv93)
              have XAn := hide (XA.out.below hbv93)
              have hb8 : v67.heap.size < v92.heap.size := XA.out.lt
              have hsv93 := hbv93.size
              clear hRV hHV hbv93 BR XA
              have BR := BRn
              clear BRn
              have XA := XAn
              clear XAn
              go_wp2_with fail
              refine hK.out _ _ trivial (fun hHeld => ?_)
              clear hK K
              try simp only [Act.put, List.setIfInBounds_toArray, List.set_cons_zero, List.set_cons_succ]
              refine wpAnyH_ready (rs := [16]) (by kernel_rfl) (by simp) ?_
              refine AllReadyH.cons rfl (fun K hK => ?_) AllReadyH.nil
              obtain ⟨⟨z0, z1, z2⟩, z3, z4, z5⟩ := XA.out
              go_simp
              have KT := hide (Kept.three' v93 v67.heap.size (.int .i64 0) (.int .i64 rep) (.slice av' (tdL V).length cv'))
              have RVZ := hide (HHV.out _ (KT.out.mono (fun x _ e => by omega)))
              have BZ := hide (BR.out.trans (KT.out.below BR.out.size (fun x hx e => by omega)))
              have CZ := hide (Tri.of (XA.out.set (.int .i64 0) (.int .i64 rep) (.slice av' (tdL V).length cv')))
              clear z0 z1 z2 z3 z4 z5
              refine hK.out _ _ trivial (fun hHeld => ?_)
              clear hK K
              try simp only [Act.put, List.setIfInBounds_toArray, List.set_cons_zero, List.set_cons_succ]
              refine wpAnyH_done (by kernel_rfl) ?_ _
              generalize ((v93.setCell ⟨v67.heap.size, 0, none⟩ (.int .i64 0)).setCell ⟨v67.heap.size, 1, none⟩ (.int .i64 rep)).setCell ⟨v67.heap.size, 2, none⟩ (.slice av' (tdL V).length cv') = Z at *
              obtain ⟨g0, g1, g2⟩ := CZ.out
              go_wp2_with fail
              go_roundw
              case rel => exact ⟨k + 1, V, av', cv', by omega, by go_num, rfl, HRV, RVZ, hide (below_next HW.out BZ.out)⟩
              case measure => simp [intOf]; omega
            · go_simp
              refine (lwAt_any a0 cap0 zs (k + 40) 3 _ (HR8.out.below (below_next HW.out BR.out)) HU.out (by omega) (by omega) (by omega) (by decide) (by decide)).mono ?_
              rintro e v95 ⟨r2, rfl, hr2, hr2', hbv95⟩
              have BRn := hide (below_next BR.out hbv95)
              have XBn := hide ((hbv95.block _ (Array.getElem?_eq_some_iff.1 XB.out).1).trans XB.out)
              have XAn := hide (XA.out.below hbv95)
              have hsv95 := hbv95.size
              clear hbv95 BR XB XA
              have BR := BRn
              clear BRn
              have XB := XBn
              clear XBn
              have XA := XAn
              clear XAn
              go_wp2_with fail
              refine hK.out _ _ trivial (fun hHeld => ?_)
              clear hK K
              try simp only [Act.put, List.setIfInBounds_toArray, List.set_cons_zero, List.set_cons_succ]
              refine tk 13 57 (.int .i64 (1 + r2)) hHeld rfl (by kernel_rfl) (by kernel_rfl) (by kernel_rfl) (fun _ _ _ h => h) (Or.inl ⟨by rfl, ?_⟩) ?_
              · intro w _
                go_simp <;> (first | done | decide | omega | (simp [IntKind.wrap, IntKind.bits, IntKind.signed]; omega))
              try simp only [Act.put, List.setIfInBounds_toArray, List.set_cons_zero, List.set_cons_succ]
              refine wpAnyH_ready (rs := [3]) (by kernel_rfl) (by simp) ?_
              refine AllReadyH.cons rfl (fun K hK => ?_) AllReadyH.nil
              have hc3 : (convert 22 22 (.slice (some ⟨v66.heap.size, 0, none⟩) 3 3)).run Tryz.prog v95 = .ok (.slice (some ⟨v66.heap.size, 0, none⟩) 3 3) (v95.freeze ⟨v66.heap.size, 3, none⟩ 1) := run_convert_at v95 _ _ #[.int .u8 120, .int .u8 121, .int .u8 122] v66.heap.size 3 3 XB.out Tryz.underlying22 Tryz.underlying5
              have KF := hide (freeze_kept v95 v66.heap.size 3)
              have RX := hide (xyz_reads v95 v66.heap.size XB.out)
              have hks := KF.out.size
              have hbr := BR.out.size
              have BRn := hide (BR.out.trans (KF.out.below BR.out.size (fun k hk e => by omega)))
              have XAn := hide (XA.out.kept KF.out (by omega))
              go_simp
              refine hK.out _ _ trivial (fun hHeld => ?_)
              clear hK K BR hc3 XB XA
              try simp only [Act.put, List.setIfInBounds_toArray, List.set_cons_zero, List.set_cons_succ]
              generalize v95.freeze ⟨v66.heap.size, 3, none⟩ 1 = v96 at *
              have BR := BRn
              clear BRn
              have XA := XAn
              clear XAn
              clear KF
              refine tk 8 52 (.slice (some ⟨v66.heap.size, 0, none⟩) r1.toNat 3) hHeld rfl (by kernel_rfl) (by kernel_rfl) (by kernel_rfl) (fun _ _ _ h => h) (Or.inl ⟨by rfl, ?_⟩) ?_
              · intro w _
                go_simp <;> (first | done | decide | omega | (simp [IntKind.wrap, IntKind.bits, IntKind.signed]; omega))
              try simp only [Act.put, List.setIfInBounds_toArray, List.set_cons_zero, List.set_cons_succ]
              refine wpAnyH_ready (rs := [14]) (by kernel_rfl) (by simp) ?_
              refine AllReadyH.cons rfl (fun K hK => ?_) AllReadyH.nil
              go_simp
              refine (told8 U HRU.out av cv p (some ⟨v66.heap.size, 0, none⟩) r1.toNat 3 (tdX.take r1.toNat) (1 + r2) _ (HRS.out.below BR.out) (by omega) hpl (RX.out.take _) (by simp [tdX]; omega) (td_x8 _) (by simp [tdX]; omega) (by simp [tdX]; omega)).mono ?_
              rintro e v97 ⟨rep, V, hRV, av', cv', rfl, hHV, hbv97⟩
              have HRV := hide hRV
              have HHV := hide hHV
              have BRn := hide (below_next BR.out hbv97)
              have XAn := hide (XA.out.below hbv97)
              have hb8 : v67.heap.size < v96.heap.size := XA.out.lt
              have hsv97 := hbv97.size
              clear hRV hHV hbv97 BR XA
              have BR := BRn
              clear BRn
              have XA := XAn
              clear XAn
              go_wp2_with fail
              refine hK.out _ _ trivial (fun hHeld => ?_)
              clear hK K
              try simp only [Act.put, List.setIfInBounds_toArray, List.set_cons_zero, List.set_cons_succ]
              refine wpAnyH_ready (rs := [16]) (by kernel_rfl) (by simp) ?_
              refine AllReadyH.cons rfl (fun K hK => ?_) AllReadyH.nil
              obtain ⟨⟨z0, z1, z2⟩, z3, z4, z5⟩ := XA.out
              go_simp
              have KT := hide (Kept.three' v97 v67.heap.size (.int .i64 0) (.int .i64 rep) (.slice av' (tdL V).length cv'))
              have RVZ := hide (HHV.out _ (KT.out.mono (fun x _ e => by omega)))
              have BZ := hide (BR.out.trans (KT.out.below BR.out.size (fun x hx e => by omega)))
              have CZ := hide (Tri.of (XA.out.set (.int .i64 0) (.int .i64 rep) (.slice av' (tdL V).length cv')))
              clear z0 z1 z2 z3 z4 z5
              refine hK.out _ _ trivial (fun hHeld => ?_)
              clear hK K
              try simp only [Act.put, List.setIfInBounds_toArray, List.set_cons_zero, List.set_cons_succ]
              refine wpAnyH_done (by kernel_rfl) ?_ _
              generalize ((v97.setCell ⟨v67.heap.size, 0, none⟩ (.int .i64 0)).setCell ⟨v67.heap.size, 1, none⟩ (.int .i64 rep)).setCell ⟨v67.heap.size, 2, none⟩ (.slice av' (tdL V).length cv') = Z at *
              obtain ⟨g0, g1, g2⟩ := CZ.out
              go_wp2_with fail
              go_roundw
              case rel => exact ⟨k + 1, V, av', cv', by omega, by go_num, rfl, HRV, RVZ, hide (below_next HW.out BZ.out)⟩
              case measure => simp [intOf]; omega
        · go_simp
          refine (lwAt_any a0 cap0 zs (k + 40) 3 _ (HR8.out.below (below_next HW.out BR.out)) HU.out (by omega) (by omega) (by omega) (by decide) (by decide)).mono ?_
          rintro e v99 ⟨r2, rfl, hr2, hr2', hbv99⟩
          have BRn := hide (below_next BR.out hbv99)
          have hsv99 := hbv99.size
          clear hbv99 BR
          have BR := BRn
          clear BRn
          go_wp2_with fail
          refine hK.out _ _ trivial (fun hHeld => ?_)
          clear hK K
          try simp only [Act.put, List.setIfInBounds_toArray, List.set_cons_zero, List.set_cons_succ]
          refine tk 13 57 (.int .i64 (1 + r2)) hHeld rfl (by kernel_rfl) (by kernel_rfl) (by kernel_rfl) (fun _ _ _ h => h) (Or.inl ⟨by rfl, ?_⟩) ?_
          · intro w _
            go_simp <;> (first | done | decide | omega | (simp [IntKind.wrap, IntKind.bits, IntKind.signed]; omega))
          try simp only [Act.put, List.setIfInBounds_toArray, List.set_cons_zero, List.set_cons_succ]
          refine wpAnyH_ready (rs := [2, 15]) (by kernel_rfl) (by simp) ?_
          refine AllReadyH.cons rfl (fun K hK => ?_) (AllReadyH.cons rfl (fun K hK => ?_) AllReadyH.nil)
          · have hbu := BR.out.size
            have BRn := hide (below_next BR.out (below_alloc v99 (.cells #[.int .u8 120, .int .u8 121, .int .u8 122] 5)))
            have XBn : Hid ((v99.alloc (.cells #[.int .u8 120, .int .u8 121, .int .u8 122] 5)).heap[v99.heap.size]? = some (.cells #[.int .u8 120, .int .u8 121, .int .u8 122] 5)) := hide (World.alloc_heap_new v99 _)
            have hsn : v99.heap.size < (v99.alloc (.cells #[.int .u8 120, .int .u8 121, .int .u8 122] 5)).heap.size := by simp
            go_simp
            refine hK.out _ _ trivial (fun hHeld => ?_)
            clear hK K BR
            try simp only [Act.put, List.setIfInBounds_toArray, List.set_cons_zero, List.set_cons_succ]
            generalize v99.alloc (.cells #[.int .u8 120, .int .u8 121, .int .u8 122] 5) = v100 at *
            have BR := BRn
            clear BRn
            have XB := XBn
            clear XBn
            have hb2s := BR.out.size
            refine wpAnyH_ready (rs := [3, 15]) (by kernel_rfl) (by simp) ?_
            refine AllReadyH.cons rfl (fun K hK => ?_) (AllReadyH.cons rfl (fun K hK => ?_) AllReadyH.nil)
            · have hc3 : (convert 22 22 (.slice (some ⟨v99.heap.size, 0, none⟩) 3 3)).run Tryz.prog v100 = .ok (.slice (some ⟨v99.heap.size, 0, none⟩) 3 3) (v100.freeze ⟨v99.heap.size, 3, none⟩ 1) := run_convert_at v100 _ _ #[.int .u8 120, .int .u8 121, .int .u8 122] v99.heap.size 3 3 XB.out Tryz.underlying22 Tryz.underlying5
              have KF := hide (freeze_kept v100 v99.heap.size 3)
              have RX := hide (xyz_reads v100 v99.heap.size XB.out)
              have hks := KF.out.size
              have hbr := BR.out.size
              have BRn := hide (BR.out.trans (KF.out.below BR.out.size (fun k hk e => by omega)))
              go_simp
              refine hK.out _ _ trivial (fun hHeld => ?_)
              clear hK K BR hc3 XB
              try simp only [Act.put, List.setIfInBounds_toArray, List.set_cons_zero, List.set_cons_succ]
              generalize v100.freeze ⟨v99.heap.size, 3, none⟩ 1 = v101 at *
              have BR := BRn
              clear BRn
              clear KF
              refine tk 8 52 (.slice (some ⟨v99.heap.size, 0, none⟩) r1.toNat 3) hHeld rfl (by kernel_rfl) (by kernel_rfl) (by kernel_rfl) (fun _ _ _ h => h) (Or.inl ⟨by rfl, ?_⟩) ?_
              · intro w _
                go_simp <;> (first | done | decide | omega | (simp [IntKind.wrap, IntKind.bits, IntKind.signed]; omega))
              try simp only [Act.put, List.setIfInBounds_toArray, List.set_cons_zero, List.set_cons_succ]
              refine wpAnyH_ready (rs := [14, 15]) (by kernel_rfl) (by simp) ?_
              refine AllReadyH.cons rfl (fun K hK => ?_) (AllReadyH.cons rfl (fun K hK => ?_) AllReadyH.nil)
              · go_simp
                refine (told8 U HRU.out av cv p (some ⟨v99.heap.size, 0, none⟩) r1.toNat 3 (tdX.take r1.toNat) (1 + r2) _ (HRS.out.below BR.out) (by omega) hpl (RX.out.take _) (by simp [tdX]; omega) (td_x8 _) (by simp [tdX]; omega) (by simp [tdX]; omega)).mono ?_
                rintro e v102 ⟨rep, V, hRV, av', cv', rfl, hHV, hbv102⟩
                have HRV := hide hRV
                have HHV := hide hHV
                have BRn := hide (below_next BR.out hbv102)
                have hsv102 := hbv102.size
                clear hRV hHV hbv102 BR
                have BR := BRn
                clear BRn
                go_wp2_with fail
                refine hK.out _ _ trivial (fun hHeld => ?_)
                clear hK K
                try simp only [Act.put, List.setIfInBounds_toArray, List.set_cons_zero, List.set_cons_succ]
                refine wpAnyH_ready (rs := [15]) (by kernel_rfl) (by simp) ?_
                refine AllReadyH.cons rfl (fun K hK => ?_) AllReadyH.nil
                have hbu := BR.out.size
                have BRn := hide (below_next BR.out (below_alloc v102 (.cells #[.int .i64 0, .int .i64 0, .slice none 0 0] 28)))
                have XAn := hide (Box3.new v102 (.int .i64 0) (.int .i64 0) (.slice none 0 0) 28)
                have hsn : v102.heap.size < (v102.alloc (.cells #[.int .i64 0, .int .i64 0, .slice none 0 0] 28)).heap.size := by simp
                go_simp
                refine hK.out _ _ trivial (fun hHeld => ?_)
                clear hK K
                try simp only [Act.put, List.setIfInBounds_toArray, List.set_cons_zero, List.set_cons_succ]
                clear BRn XAn
                refine wpAnyH_ready (rs := [16]) (by kernel_rfl) (by simp) ?_
                refine AllReadyH.cons rfl (fun K hK => ?_) AllReadyH.nil
                go_simp
                have RVZ := hide (HHV.out.rd.below (below_alloc v102 (.cells #[.int .i64 0, .int .i64 rep, .slice av' (tdL V).length cv'] 28)))
                have BZ := hide (below_next BR.out (below_alloc v102 (.cells #[.int .i64 0, .int .i64 rep, .slice av' (tdL V).length cv'] 28)))
                have CZ : Hid (Tri (v102.alloc (.cells #[.int .i64 0, .int .i64 rep, .slice av' (tdL V).length cv'] 28)) v102.heap.size (.int .i64 0) (.int .i64 rep) (.slice av' (tdL V).length cv')) := hide ⟨by simp, by simp, by simp⟩
                refine hK.out _ _ trivial (fun hHeld => ?_)
                clear hK K
                try simp only [Act.put, List.setIfInBounds_toArray, List.set_cons_zero, List.set_cons_succ]
                refine wpAnyH_done (by kernel_rfl) ?_ _
                skip
                generalize v102.alloc (.cells #[.int .i64 0, .int .i64 rep, .slice av' (tdL V).length cv'] 28) = Z at *
                obtain ⟨g0, g1, g2⟩ := CZ.out
                go_wp2_with fail
                go_roundw
                case rel => exact ⟨k + 1, V, av', cv', by omega, by go_num, rfl, HRV, RVZ, hide (below_next HW.out BZ.out)⟩
                case measure => simp [intOf]; omega
              · have hbu := BR.out.size
                have BRn := hide (below_next BR.out (below_alloc v101 (.cells #[.int .i64 0, .int .i64 0, .slice none 0 0] 28)))
                have XAn := hide (Box3.new v101 (.int .i64 0) (.int .i64 0) (.slice none 0 0) 28)
                have RXn := hide (RX.out.below (below_alloc v101 (.cells #[.int .i64 0, .int .i64 0, .slice none 0 0] 28)))
                have hsn : v101.heap.size < (v101.alloc (.cells #[.int .i64 0, .int .i64 0, .slice none 0 0] 28)).heap.size := by simp
                go_simp
                refine hK.out _ _ trivial (fun hHeld => ?_)
                clear hK K BR RX
                try simp only [Act.put, List.setIfInBounds_toArray, List.set_cons_zero, List.set_cons_succ]
                generalize v101.alloc (.cells #[.int .i64 0, .int .i64 0, .slice none 0 0] 28) = v104 at *
                have BR := BRn
                clear BRn
                have XA := XAn
                clear XAn
                have RX := RXn
                clear RXn
                refine wpAnyH_ready (rs := [14]) (by kernel_rfl) (by simp) ?_
                refine AllReadyH.cons rfl (fun K hK => ?_) AllReadyH.nil
                go_simp
                refine (told8 U HRU.out av cv p (some ⟨v99.heap.size, 0, none⟩) r1.toNat 3 (tdX.take r1.toNat) (1 + r2) _ (HRS.out.below BR.out) (by omega) hpl (RX.out.take _) (by simp [tdX]; omega) (td_x8 _) (by simp [tdX]; omega) (by simp [tdX]; omega)).mono ?_
                rintro e v105 ⟨rep, V, hRV, av', cv', rfl, hHV, hbv105⟩
                have HRV := hide hRV
                have HHV := hide hHV
                have BRn := hide (below_next BR.out hbv105)
                have XAn := hide (XA.out.below hbv105)
                have hb8 : v101.heap.size < v104.heap.size := XA.out.lt
                have hsv105 := hbv105.size
                clear hRV hHV hbv105 BR XA
                have BR := BRn
                clear BRn
                have XA := XAn
                clear XAn
                go_wp2_with fail
                refine hK.out _ _ trivial (fun hHeld => ?_)
                clear hK K
                try simp only [Act.put, List.setIfInBounds_toArray, List.set_cons_zero, List.set_cons_succ]
                refine wpAnyH_ready (rs := [16]) (by kernel_rfl) (by simp) ?_
                refine AllReadyH.cons rfl (fun K hK => ?_) AllReadyH.nil
                obtain ⟨⟨z0, z1, z2⟩, z3, z4, z5⟩ := XA.out
                go_simp
                have KT := hide (Kept.three' v105 v101.heap.size (.int .i64 0) (.int .i64 rep) (.slice av' (tdL V).length cv'))
                have RVZ := hide (HHV.out _ (KT.out.mono (fun x _ e => by omega)))
                have BZ := hide (BR.out.trans (KT.out.below BR.out.size (fun x hx e => by omega)))
                have CZ := hide (Tri.of (XA.out.set (.int .i64 0) (.int .i64 rep) (.slice av' (tdL V).length cv')))
                clear z0 z1 z2 z3 z4 z5
                refine hK.out _ _ trivial (fun hHeld => ?_)
                clear hK K
                try simp only [Act.put, List.setIfInBounds_toArray, List.set_cons_zero, List.set_cons_succ]
                refine wpAnyH_done (by kernel_rfl) ?_ _
                generalize ((v105.setCell ⟨v101.heap.size, 0, none⟩ (.int .i64 0)).setCell ⟨v101.heap.size, 1, none⟩ (.int .i64 rep)).setCell ⟨v101.heap.size, 2, none⟩ (.slice av' (tdL V).length cv') = Z at *
                obtain ⟨g0, g1, g2⟩ := CZ.out
                go_wp2_with fail
                go_roundw
                case rel => exact ⟨k + 1, V, av', cv', by omega, by go_num, rfl, HRV, RVZ, hide (below_next HW.out BZ.out)⟩
                case measure => simp [intOf]; omega
            · have hbu := BR.out.size
              have BRn := hide (below_next BR.out (below_alloc v100 (.cells #[.int .i64 0, .int .i64 0, .slice none 0 0] 28)))
              have XAn := hide (Box3.new v100 (.int .i64 0) (.int .i64 0) (.slice none 0 0) 28)
              have XBn := hide (((below_alloc v100 (.cells #[.int .i64 0, .int .i64 0, .slice none 0 0] 28)).block _ (Array.getElem?_eq_some_iff.1 XB.out).1).trans XB.out)
              have hsn : v100.heap.size < (v100.alloc (.cells #[.int .i64 0, .int .i64 0, .slice none 0 0] 28)).heap.size := by simp
              go_simp
              refine hK.out _ _ trivial (fun hHeld => ?_)
              clear hK K BR XB
              try simp only [Act.put, List.setIfInBounds_toArray, List.set_cons_zero, List.set_cons_succ]
              generalize v100.alloc (.cells #[.int .i64 0, .int .i64 0, .slice none 0 0] 28) = v107 at *
              have BR := BRn
              clear BRn
              have XA := XAn
              clear XAn
              have XB := XBn
              clear XBn
              refine wpAnyH_ready (rs := [3]) (by kernel_rfl) (by simp) ?_
              refine AllReadyH.cons rfl (fun K hK => ?_) AllReadyH.nil
              have hc3 : (convert 22 22 (.slice (some ⟨v99.heap.size, 0, none⟩) 3 3)).run Tryz.prog v107 = .ok (.slice (some ⟨v99.heap.size, 0, none⟩) 3 3) (v107.freeze ⟨v99.heap.size, 3, none⟩ 1) := run_convert_at v107 _ _ #[.int .u8 120, .int .u8 121, .int .u8 122] v99.heap.size 3 3 XB.out Tryz.underlying22 Tryz.underlying5
              have KF := hide (freeze_kept v107 v99.heap.size 3)
              have RX := hide (xyz_reads v107 v99.heap.size XB.out)
              have hks := KF.out.size
              have hbr := BR.out.size
              have BRn := hide (BR.out.trans (KF.out.below BR.out.size (fun k hk e => by omega)))
              have XAn := hide (XA.out.kept KF.out (by omega))
              go_simp
              refine hK.out _ _ trivial (fun hHeld => ?_)
              clear hK K BR hc3 XB XA
              try simp only [Act.put, List.setIfInBounds_toArray, List.set_cons_zero, List.set_cons_succ]
              generalize v107.freeze ⟨v99.heap.size, 3, none⟩ 1 = v108 at *
              have BR := BRn
              clear BRn
              have XA := XAn
              clear XAn
              clear KF
              refine tk 8 52 (.slice (some ⟨v99.heap.size, 0, none⟩) r1.toNat 3) hHeld rfl (by kernel_rfl) (by kernel_rfl) (by kernel_rfl) (fun _ _ _ h => h) (Or.inl ⟨by rfl, ?_⟩) ?_
              · intro w _
                go_simp <;> (first | done | decide | omega | (simp [IntKind.wrap, IntKind.bits, IntKind.signed]; omega))
              try simp only [Act.put, List.setIfInBounds_toArray, List.set_cons_zero, List.set_cons_succ]
              refine wpAnyH_ready (rs := [14]) (by kernel_rfl) (by simp) ?_
              refine AllReadyH.cons rfl (fun K hK => ?_) AllReadyH.nil
              go_simp
              refine (told8 U HRU.out av cv p (some ⟨v99.heap.size, 0, none⟩) r1.toNat 3 (tdX.take r1.toNat) (1 + r2) _ (HRS.out.below BR.out) (by omega) hpl (RX.out.take _) (by simp [tdX]; omega) (td_x8 _) (by simp [tdX]; omega) (by simp [tdX]; omega)).mono ?_
              rintro e v109 ⟨rep, V, hRV, av', cv', rfl, hHV, hbv109⟩
              have HRV := hide hRV
              have HHV := hide hHV
              have BRn := hide (below_next BR.out hbv109)
              have XAn := hide (XA.out.below hbv109)
              have hb8 : v100.heap.size < v108.heap.size := XA.out.lt
              have hsv109 := hbv109.size
              clear hRV hHV hbv109 BR XA
              have BR := BRn
              clear BRn
              have XA := XAn
              clear XAn
              go_wp2_with fail
              refine hK.out _ _ trivial (fun hHeld => ?_)
              clear hK K
              try simp only [Act.put, List.setIfInBounds_toArray, List.set_cons_zero, List.set_cons_succ]
              refine wpAnyH_ready (rs := [16]) (by kernel_rfl) (by simp) ?_
              refine AllReadyH.cons rfl (fun K hK => ?_) AllReadyH.nil
              obtain ⟨⟨z0, z1, z2⟩, z3, z4, z5⟩ := XA.out
              go_simp
              have KT := hide (Kept.three' v109 v100.heap.size (.int .i64 0) (.int .i64 rep) (.slice av' (tdL V).length cv'))
              have RVZ := hide (HHV.out _ (KT.out.mono (fun x _ e => by omega)))
              have BZ := hide (BR.out.trans (KT.out.below BR.out.size (fun x hx e => by omega)))
              have CZ := hide (Tri.of (XA.out.set (.int .i64 0) (.int .i64 rep) (.slice av' (tdL V).length cv')))
              clear z0 z1 z2 z3 z4 z5
              refine hK.out _ _ trivial (fun hHeld => ?_)
              clear hK K
              try simp only [Act.put, List.setIfInBounds_toArray, List.set_cons_zero, List.set_cons_succ]
              refine wpAnyH_done (by kernel_rfl) ?_ _
              generalize ((v109.setCell ⟨v100.heap.size, 0, none⟩ (.int .i64 0)).setCell ⟨v100.heap.size, 1, none⟩ (.int .i64 rep)).setCell ⟨v100.heap.size, 2, none⟩ (.slice av' (tdL V).length cv') = Z at *
              obtain ⟨g0, g1, g2⟩ := CZ.out
              go_wp2_with fail
              go_roundw
              case rel => exact ⟨k + 1, V, av', cv', by omega, by go_num, rfl, HRV, RVZ, hide (below_next HW.out BZ.out)⟩
              case measure => simp [intOf]; omega
          · have hbu := BR.out.size
            have BRn := hide (below_next BR.out (below_alloc v99 (.cells #[.int .i64 0, .int .i64 0, .slice none 0 0] 28)))
            have XAn := hide (Box3.new v99 (.int .i64 0) (.int .i64 0) (.slice none 0 0) 28)
            have hsn : v99.heap.size < (v99.alloc (.cells #[.int .i64 0, .int .i64 0, .slice none 0 0] 28)).heap.size := by simp
            go_simp
            refine hK.out _ _ trivial (fun hHeld => ?_)
            clear hK K BR
            try simp only [Act.put, List.setIfInBounds_toArray, List.set_cons_zero, List.set_cons_succ]
            generalize v99.alloc (.cells #[.int .i64 0, .int .i64 0, .slice none 0 0] 28) = v111 at *
            have BR := BRn
            clear BRn
            have XA := XAn
            clear XAn
            refine wpAnyH_ready (rs := [2]) (by kernel_rfl) (by simp) ?_
            refine AllReadyH.cons rfl (fun K hK => ?_) AllReadyH.nil
            have hbu := BR.out.size
            have BRn := hide (below_next BR.out (below_alloc v111 (.cells #[.int .u8 120, .int .u8 121, .int .u8 122] 5)))
            have XBn : Hid ((v111.alloc (.cells #[.int .u8 120, .int .u8 121, .int .u8 122] 5)).heap[v111.heap.size]? = some (.cells #[.int .u8 120, .int .u8 121, .int .u8 122] 5)) := hide (World.alloc_heap_new v111 _)
            have XAn := hide (XA.out.below (below_alloc v111 (.cells #[.int .u8 120, .int .u8 121, .int .u8 122] 5)))
            have hsn : v111.heap.size < (v111.alloc (.cells #[.int .u8 120, .int .u8 121, .int .u8 122] 5)).heap.size := by simp
            go_simp
            refine hK.out _ _ trivial (fun hHeld => ?_)
            clear hK K BR XA
            try simp only [Act.put, List.setIfInBounds_toArray, List.set_cons_zero, List.set_cons_succ]
            generalize v111.alloc (.cells #[.int .u8 120, .int .u8 121, .int .u8 122] 5) = v112 at *
            have BR := BRn
            clear BRn
            have XB := XBn
            clear XBn
            have XA := XAn
            clear XAn
            have hb2s := BR.out.size
            refine wpAnyH_ready (rs := [3]) (by kernel_rfl) (by simp) ?_
            refine AllReadyH.cons rfl (fun K hK => ?_) AllReadyH.nil
            have hc3 : (convert 22 22 (.slice (some ⟨v111.heap.size, 0, none⟩) 3 3)).run Tryz.prog v112 = .ok (.slice (some ⟨v111.heap.size, 0, none⟩) 3 3) (v112.freeze ⟨v111.heap.size, 3, none⟩ 1) := run_convert_at v112 _ _ #[.int .u8 120, .int .u8 121, .int .u8 122] v111.heap.size 3 3 XB.out Tryz.underlying22 Tryz.underlying5
            have KF := hide (freeze_kept v112 v111.heap.size 3)
            have RX := hide (xyz_reads v112 v111.heap.size XB.out)
            have hks := KF.out.size
            have hbr := BR.out.size
            have BRn := hide (BR.out.trans (KF.out.below BR.out.size (fun k hk e => by omega)))
            have XAn := hide (XA.out.kept KF.out (by omega))
            go_simp
            refine hK.out _ _ trivial (fun hHeld => ?_)
            clear hK K BR hc3 XB XA
            try simp only [Act.put, List.setIfInBounds_toArray, List.set_cons_zero, List.set_cons_succ]
            generalize v112.freeze ⟨v111.heap.size, 3, none⟩ 1 = v113 at *
            have BR := BRn
            clear BRn
            have XA := XAn
            clear XAn
            clear KF
            refine tk 8 52 (.slice (some ⟨v111.heap.size, 0, none⟩) r1.toNat 3) hHeld rfl (by kernel_rfl) (by kernel_rfl) (by kernel_rfl) (fun _ _ _ h => h) (Or.inl ⟨by rfl, ?_⟩) ?_
            · intro w _
              go_simp <;> (first | done | decide | omega | (simp [IntKind.wrap, IntKind.bits, IntKind.signed]; omega))
            try simp only [Act.put, List.setIfInBounds_toArray, List.set_cons_zero, List.set_cons_succ]
            refine wpAnyH_ready (rs := [14]) (by kernel_rfl) (by simp) ?_
            refine AllReadyH.cons rfl (fun K hK => ?_) AllReadyH.nil
            go_simp
            refine (told8 U HRU.out av cv p (some ⟨v111.heap.size, 0, none⟩) r1.toNat 3 (tdX.take r1.toNat) (1 + r2) _ (HRS.out.below BR.out) (by omega) hpl (RX.out.take _) (by simp [tdX]; omega) (td_x8 _) (by simp [tdX]; omega) (by simp [tdX]; omega)).mono ?_
            rintro e v114 ⟨rep, V, hRV, av', cv', rfl, hHV, hbv114⟩
            have HRV := hide hRV
            have HHV := hide hHV
            have BRn := hide (below_next BR.out hbv114)
            have XAn := hide (XA.out.below hbv114)
            have hb8 : v99.heap.size < v113.heap.size := XA.out.lt
            have hsv114 := hbv114.size
            clear hRV hHV hbv114 BR XA
            have BR := BRn
            clear BRn
            have XA := XAn
            clear XAn
            go_wp2_with fail
            refine hK.out _ _ trivial (fun hHeld => ?_)
            clear hK K
            try simp only [Act.put, List.setIfInBounds_toArray, List.set_cons_zero, List.set_cons_succ]
            refine wpAnyH_ready (rs := [16]) (by kernel_rfl) (by simp) ?_
            refine AllReadyH.cons rfl (fun K hK => ?_) AllReadyH.nil
            obtain ⟨⟨z0, z1, z2⟩, z3, z4, z5⟩ := XA.out
            go_simp
            have KT := hide (Kept.three' v114 v99.heap.size (.int .i64 0) (.int .i64 rep) (.slice av' (tdL V).length cv'))
            have RVZ := hide (HHV.out _ (KT.out.mono (fun x _ e => by omega)))
            have BZ := hide (BR.out.trans (KT.out.below BR.out.size (fun x hx e => by omega)))
            have CZ := hide (Tri.of (XA.out.set (.int .i64 0) (.int .i64 rep) (.slice av' (tdL V).length cv')))
            clear z0 z1 z2 z3 z4 z5
            refine hK.out _ _ trivial (fun hHeld => ?_)
            clear hK K
            try simp only [Act.put, List.setIfInBounds_toArray, List.set_cons_zero, List.set_cons_succ]
            refine wpAnyH_done (by kernel_rfl) ?_ _
            generalize ((v114.setCell ⟨v99.heap.size, 0, none⟩ (.int .i64 0)).setCell ⟨v99.heap.size, 1, none⟩ (.int .i64 rep)).setCell ⟨v99.heap.size, 2, none⟩ (.slice av' (tdL V).length cv') = Z at *
            obtain ⟨g0, g1, g2⟩ := CZ.out
            go_wp2_with fail
            go_roundw
            case rel => exact ⟨k + 1, V, av', cv', by omega, by go_num, rfl, HRV, RVZ, hide (below_next HW.out BZ.out)⟩
            case measure => simp [intOf]; omega
        · have hbu := BR.out.size
          have BRn := hide (below_next BR.out (below_alloc v66 (.cells #[.int .i64 0, .int .i64 0, .slice none 0 0] 28)))
          have XAn := hide (Box3.new v66 (.int .i64 0) (.int .i64 0) (.slice none 0 0) 28)
          have hsn : v66.heap.size < (v66.alloc (.cells #[.int .i64 0, .int .i64 0, .slice none 0 0] 28)).heap.size := by simp
          go_simp
          refine hK.out _ _ trivial (fun hHeld => ?_)
          clear hK K BR
          try simp only [Act.put, List.setIfInBounds_toArray, List.set_cons_zero, List.set_cons_succ]
          generalize v66.alloc (.cells #[.int .i64 0, .int .i64 0, .slice none 0 0] 28) = v116 at *
          have BR := BRn
          clear BRn
          have XA := XAn
          clear XAn
          refine wpAnyH_ready (rs := [2, 12]) (by kernel_rfl) (by simp) ?_
          refine AllReadyH.cons rfl (fun K hK => ?_) (AllReadyH.cons rfl (fun K hK => ?_) AllReadyH.nil)
          · have hbu := BR.out.size
            have BRn := hide (below_next BR.out (below_alloc v116 (.cells #[.int .u8 120, .int .u8 121, .int .u8 122] 5)))
            have XBn : Hid ((v116.alloc (.cells #[.int .u8 120, .int .u8 121, .int .u8 122] 5)).heap[v116.heap.size]? = some (.cells #[.int .u8 120, .int .u8 121, .int .u8 122] 5)) := hide (World.alloc_heap_new v116 _)
            have XAn := hide (XA.out.below (below_alloc v116 (.cells #[.int .u8 120, .int .u8 121, .int .u8 122] 5)))
            have hsn : v116.heap.size < (v116.alloc (.cells #[.int .u8 120, .int .u8 121, .int .u8 122] 5)).heap.size := by simp
            go_simp
            refine hK.out _ _ trivial (fun hHeld => ?_)
            clear hK K BR XA
            try simp only [Act.put, List.setIfInBounds_toArray, List.set_cons_zero, List.set_cons_succ]
            generalize v116.alloc (.cells #[.int .u8 120, .int .u8 121, .int .u8 122] 5) = v117 at *
            have BR := BRn
            clear BRn
            have XB := XBn
            clear XBn
            have XA := XAn
            clear XAn
            have hb2s := BR.out.size
            refine wpAnyH_ready (rs := [3, 12]) (by kernel_rfl) (by simp) ?_
            refine AllReadyH.cons rfl (fun K hK => ?_) (AllReadyH.cons rfl (fun K hK => ?_) AllReadyH.nil)
            · have hc3 : (convert 22 22 (.slice (some ⟨v116.heap.size, 0, none⟩) 3 3)).run Tryz.prog v117 = .ok (.slice (some ⟨v116.heap.size, 0, none⟩) 3 3) (v117.freeze ⟨v116.heap.size, 3, none⟩ 1) := run_convert_at v117 _ _ #[.int .u8 120, .int .u8 121, .int .u8 122] v116.heap.size 3 3 XB.out Tryz.underlying22 Tryz.underlying5
              have KF := hide (freeze_kept v117 v116.heap.size 3)
              have RX := hide (xyz_reads v117 v116.heap.size XB.out)
              have hks := KF.out.size
              have hbr := BR.out.size
              have BRn := hide (BR.out.trans (KF.out.below BR.out.size (fun k hk e => by omega)))
              have XAn := hide (XA.out.kept KF.out (by omega))
              go_simp
              refine hK.out _ _ trivial (fun hHeld => ?_)
              clear hK K BR hc3 XB XA
              try simp only [Act.put, List.setIfInBounds_toArray, List.set_cons_zero, List.set_cons_succ]
              generalize v117.freeze ⟨v116.heap.size, 3, none⟩ 1 = v118 at *
              have BR := BRn
              clear BRn
              have XA := XAn
              clear XAn
              clear KF
              refine tk 8 52 (.slice (some ⟨v116.heap.size, 0, none⟩) r1.toNat 3) hHeld rfl (by kernel_rfl) (by kernel_rfl) (by kernel_rfl) (fun _ _ _ h => h) (Or.inl ⟨by rfl, ?_⟩) ?_
              · intro w _
                go_simp <;> (first | done | decide | omega | (simp [IntKind.wrap, IntKind.bits, IntKind.signed]; omega))
              try simp only [Act.put, List.setIfInBounds_toArray, List.set_cons_zero, List.set_cons_succ]
              refine wpAnyH_ready (rs := [12]) (by kernel_rfl) (by simp) ?_
              refine AllReadyH.cons rfl (fun K hK => ?_) AllReadyH.nil
              go_simp
              refine (lwAt_any a0 cap0 zs (k + 40) 3 _ (HR8.out.below (below_next HW.out BR.out)) HU.out (by omega) (by omega) (by omega) (by decide) (by decide)).mono ?_
              rintro e v119 ⟨r2, rfl, hr2, hr2', hbv119⟩
              have BRn := hide (below_next BR.out hbv119)
              have RXn := hide (RX.out.below hbv119)
              have XAn := hide (XA.out.below hbv119)
              have hsv119 := hbv119.size
              clear hbv119 BR RX XA
              have BR := BRn
              clear BRn
              have RX := RXn
              clear RXn
              have XA := XAn
              clear XAn
              go_wp2_with fail
              refine hK.out _ _ trivial (fun hHeld => ?_)
              clear hK K
              try simp only [Act.put, List.setIfInBounds_toArray, List.set_cons_zero, List.set_cons_succ]
              refine tk 13 57 (.int .i64 (1 + r2)) hHeld rfl (by kernel_rfl) (by kernel_rfl) (by kernel_rfl) (fun _ _ _ h => h) (Or.inl ⟨by rfl, ?_⟩) ?_
              · intro w _
                go_simp <;> (first | done | decide | omega | (simp [IntKind.wrap, IntKind.bits, IntKind.signed]; omega))
              try simp only [Act.put, List.setIfInBounds_toArray, List.set_cons_zero, List.set_cons_succ]
              refine wpAnyH_ready (rs := [14]) (by kernel_rfl) (by simp) ?_
              refine AllReadyH.cons rfl (fun K hK => ?_) AllReadyH.nil
              go_simp
              refine (told8 U HRU.out av cv p (some ⟨v116.heap.size, 0, none⟩) r1.toNat 3 (tdX.take r1.toNat) (1 + r2) _ (HRS.out.below BR.out) (by omega) hpl (RX.out.take _) (by simp [tdX]; omega) (td_x8 _) (by simp [tdX]; omega) (by simp [tdX]; omega)).mono ?_
              rintro e v120 ⟨rep, V, hRV, av', cv', rfl, hHV, hbv120⟩
              have HRV := hide hRV
              have HHV := hide hHV
              have BRn := hide (below_next BR.out hbv120)
              have XAn := hide (XA.out.below hbv120)
              have hb8 : v66.heap.size < v119.heap.size := XA.out.lt
              have hsv120 := hbv120.size
              clear hRV hHV hbv120 BR XA
              have BR := BRn
              clear BRn
              have XA := XAn
              clear XAn
              go_wp2_with fail
              refine hK.out _ _ trivial (fun hHeld => ?_)
              clear hK K
              try simp only [Act.put, List.setIfInBounds_toArray, List.set_cons_zero, List.set_cons_succ]
              refine wpAnyH_ready (rs := [16]) (by kernel_rfl) (by simp) ?_
              refine AllReadyH.cons rfl (fun K hK => ?_) AllReadyH.nil
              obtain ⟨⟨z0, z1, z2⟩, z3, z4, z5⟩ := XA.out
              go_simp
              have KT := hide (Kept.three' v120 v66.heap.size (.int .i64 0) (.int .i64 rep) (.slice av' (tdL V).length cv'))
              have RVZ := hide (HHV.out _ (KT.out.mono (fun x _ e => by omega)))
              have BZ := hide (BR.out.trans (KT.out.below BR.out.size (fun x hx e => by omega)))
              have CZ := hide (Tri.of (XA.out.set (.int .i64 0) (.int .i64 rep) (.slice av' (tdL V).length cv')))
              clear z0 z1 z2 z3 z4 z5
              refine hK.out _ _ trivial (fun hHeld => ?_)
              clear hK K
              try simp only [Act.put, List.setIfInBounds_toArray, List.set_cons_zero, List.set_cons_succ]
              refine wpAnyH_done (by kernel_rfl) ?_ _
              generalize ((v120.setCell ⟨v66.heap.size, 0, none⟩ (.int .i64 0)).setCell ⟨v66.heap.size, 1, none⟩ (.int .i64 rep)).setCell ⟨v66.heap.size, 2, none⟩ (.slice av' (tdL V).length cv') = Z at *
              obtain ⟨g0, g1, g2⟩ := CZ.out
              go_wp2_with fail
              go_roundw
              case rel => exact ⟨k + 1, V, av', cv', by omega, by go_num, rfl, HRV, RVZ, hide (below_next HW.out BZ.out)⟩
              case measure => simp [intOf]; omega
            · go_simp
              refine (lwAt_any a0 cap0 zs (k + 40) 3 _ (HR8.out.below (below_next HW.out BR.out)) HU.out (by omega) (by omega) (by omega) (by decide) (by decide)).mono ?_
              rintro e v122 ⟨r2, rfl, hr2, hr2', hbv122⟩
              have BRn := hide (below_next BR.out hbv122)
              have XBn := hide ((hbv122.block _ (Array.getElem?_eq_some_iff.1 XB.out).1).trans XB.out)
              have XAn := hide (XA.out.below hbv122)
              have hsv122 := hbv122.size
              clear hbv122 BR XB XA
              have BR := BRn
              clear BRn
              have XB := XBn
              clear XBn
              have XA := XAn
              clear XAn
              go_wp2_with fail
              refine hK.out _ _ trivial (fun hHeld => ?_)
              clear hK K
              try simp only [Act.put, List.setIfInBounds_toArray, List.set_cons_zero, List.set_cons_succ]
              refine tk 13 57 (.int .i64 (1 + r2)) hHeld rfl (by kernel_rfl) (by kernel_rfl) (by kernel_rfl) (fun _ _ _ h => h) (Or.inl ⟨by rfl, ?_⟩) ?_
              · intro w _
                go_simp <;> (first | done | decide | omega | (simp [IntKind.wrap, IntKind.bits, IntKind.signed]; omega))
              try simp only [Act.put, List.setIfInBounds_toArray, List.set_cons_zero, List.set_cons_succ]
              refine wpAnyH_ready (rs := [3]) (by kernel_rfl) (by simp) ?_
              refine AllReadyH.cons rfl (fun K hK => ?_) AllReadyH.nil
              have hc3 : (convert 22 22 (.slice (some ⟨v116.heap.size, 0, none⟩) 3 3)).run Tryz.prog v122 = .ok (.slice (some ⟨v116.heap.size, 0, none⟩) 3 3) (v122.freeze ⟨v116.heap.size, 3, none⟩ 1) := run_convert_at v122 _ _ #[.int .u8 120, .int .u8 121, .int .u8 122] v116.heap.size 3 3 XB.out Tryz.underlying22 Tryz.underlying5
              have KF := hide (freeze_kept v122 v116.heap.size 3)
              have RX := hide (xyz_reads v122 v116.heap.size XB.out)
              have hks := KF.out.size
              have hbr := BR.out.size
              have BRn := hide (BR.out.trans (KF.out.below BR.out.size (fun k hk e => by omega)))
              have XAn := hide (XA.out.kept KF.out (by omega))
              go_simp
              refine hK.out _ _ trivial (fun hHeld => ?_)
              clear hK K BR hc3 XB XA
              try simp only [Act.put, List.setIfInBounds_toArray, List.set_cons_zero, List.set_cons_succ]
              generalize v122.freeze ⟨v116.heap.size, 3, none⟩ 1 = v123 at *
              have BR := BRn
              clear BRn
              have XA := XAn
              clear XAn
              clear KF
              refine tk 8 52 (.slice (some ⟨v116.heap.size, 0, none⟩) r1.toNat 3) hHeld rfl (by kernel_rfl) (by kernel_rfl) (by kernel_rfl) (fun _ _ _ h => h) (Or.inl ⟨by rfl, ?_⟩) ?_
              · intro w _
                go_simp <;> (first | done | decide | omega | (simp [IntKind.wrap, IntKind.bits, IntKind.signed]; omega))
              try simp only [Act.put, List.setIfInBounds_toArray, List.set_cons_zero, List.set_cons_succ]
              refine wpAnyH_ready (rs := [14]) (by kernel_rfl) (by simp) ?_
              refine AllReadyH.cons rfl (fun K hK => ?_) AllReadyH.nil
              go_simp
              refine (told8 U HRU.out av cv p (some ⟨v116.heap.size, 0, none⟩) r1.toNat 3 (tdX.take r1.toNat) (1 + r2) _ (HRS.out.below BR.out) (by omega) hpl (RX.out.take _) (by simp [tdX]; omega) (td_x8 _) (by simp [tdX]; omega) (by simp [tdX]; omega)).mono ?_
              rintro e v124 ⟨rep, V, hRV, av', cv', rfl, hHV, hbv124⟩
              have HRV := hide hRV
              have HHV := hide hHV
              have BRn := hide (below_next BR.out hbv124)
              have XAn := hide (XA.out.below hbv124)
              have hb8 : v66.heap.size < v123.heap.size := XA.out.lt
              have hsv124 := hbv124.size
              clear hRV hHV hbv124 BR XA
              have BR := BRn
              clear BRn
              have XA := XAn
              clear XAn
              go_wp2_with fail
              refine hK.out _ _ trivial (fun hHeld => ?_)
              clear hK K
              try simp only [Act.put, List.setIfInBounds_toArray, List.set_cons_zero, List.set_cons_succ]
              refine wpAnyH_ready (rs := [16]) (by kernel_rfl) (by simp) ?_
              refine AllReadyH.cons rfl (fun K hK => ?_) AllReadyH.nil
              obtain ⟨⟨z0, z1, z2⟩, z3, z4, z5⟩ := XA.out
              go_simp
              have KT := hide (Kept.three' v124 v66.heap.size (.int .i64 0) (.int .i64 rep) (.slice av' (tdL V).length cv'))
              have RVZ := hide (HHV.out _ (KT.out.mono (fun x _ e => by omega)))
              have BZ := hide (BR.out.trans (KT.out.below BR.out.size (fun x hx e => by omega)))
              have CZ := hide (Tri.of (XA.out.set (.int .i64 0) (.int .i64 rep) (.slice av' (tdL V).length cv')))
              clear z0 z1 z2 z3 z4 z5
              refine hK.out _ _ trivial (fun hHeld => ?_)
              clear hK K
              try simp only [Act.put, List.setIfInBounds_toArray, List.set_cons_zero, List.set_cons_succ]
              refine wpAnyH_done (by kernel_rfl) ?_ _
              generalize ((v124.setCell ⟨v66.heap.size, 0, none⟩ (.int .i64 0)).setCell ⟨v66.heap.size, 1, none⟩ (.int .i64 rep)).setCell ⟨v66.heap.size, 2, none⟩ (.slice av' (tdL V).length cv') = Z at *
              obtain ⟨g0, g1, g2⟩ := CZ.out
              go_wp2_with fail
              go_roundw
              case rel => exact ⟨k + 1, V, av', cv', by omega, by go_num, rfl, HRV, RVZ, hide (below_next HW.out BZ.out)⟩
              case measure => simp [intOf]; omega
          · go_simp
            refine (lwAt_any a0 cap0 zs (k + 40) 3 _ (HR8.out.below (below_next HW.out BR.out)) HU.out (by omega) (by omega) (by omega) (by decide) (by decide)).mono ?_
            rintro e v126 ⟨r2, rfl, hr2, hr2', hbv126⟩
            have BRn := hide (below_next BR.out hbv126)
            have XAn := hide (XA.out.below hbv126)
            have hsv126 := hbv126.size
            clear hbv126 BR XA
            have BR := BRn
            clear BRn
            have XA := XAn
            clear XAn
            go_wp2_with fail
            refine hK.out _ _ trivial (fun hHeld => ?_)
            clear hK K
            try simp only [Act.put, List.setIfInBounds_toArray, List.set_cons_zero, List.set_cons_succ]
            refine tk 13 57 (.int .i64 (1 + r2)) hHeld rfl (by kernel_rfl) (by kernel_rfl) (by kernel_rfl) (fun _ _ _ h => h) (Or.inl ⟨by rfl, ?_⟩) ?_
            · intro w _
              go_simp <;> (first | done | decide | omega | (simp [IntKind.wrap, IntKind.bits, IntKind.signed]; omega))
            try simp only [Act.put, List.setIfInBounds_toArray, List.set_cons_zero, List.set_cons_succ]
            refine wpAnyH_ready (rs := [2]) (by kernel_rfl) (by simp) ?_
            refine AllReadyH.cons rfl (fun K hK => ?_) AllReadyH.nil
            have hbu := BR.out.size
            have BRn := hide (below_next BR.out (below_alloc v126 (.cells #[.int .u8 120, .int .u8 121, .int .u8 122] 5)))
            have XBn : Hid ((v126.alloc (.cells #[.int .u8 120, .int .u8 121, .int .u8 122] 5)).heap[v126.heap.size]? = some (.cells #[.int .u8 120, .int .u8 121, .int .u8 122] 5)) := hide (World.alloc_heap_new v126 _)
            have XAn := hide (XA.out.below (below_alloc v126 (.cells #[.int .u8 120, .int .u8 121, .int .u8 122] 5)))
            have hsn : v126.heap.size < (v126.alloc (.cells #[.int .u8 120, .int .u8 121, .int .u8 122] 5)).heap.size := by simp
            go_simp
            refine hK.out _ _ trivial (fun hHeld => ?_)
            clear hK K BR XA
            try simp only [Act.put, List.setIfInBounds_toArray, List.set_cons_zero, List.set_cons_succ]
            generalize v126.alloc (.cells #[.int .u8 120, .int .u8 121, .int .u8 122] 5) = v127 at *
            have BR := BRn
            clear BRn
            have XB := XBn
            clear XBn
            have XA := XAn
            clear XAn
            have hb2s := BR.out.size
            refine wpAnyH_ready (rs := [3]) (by kernel_rfl) (by simp) ?_
            refine AllReadyH.cons rfl (fun K hK => ?_) AllReadyH.nil
            have hc3 : (convert 22 22 (.slice (some ⟨v126.heap.size, 0, none⟩) 3 3)).run Tryz.prog v127 = .ok (.slice (some ⟨v126.heap.size, 0, none⟩) 3 3) (v127.freeze ⟨v126.heap.size, 3, none⟩ 1) := run_convert_at v127 _ _ #[.int .u8 120, .int .u8 121, .int .u8 122] v126.heap.size 3 3 XB.out Tryz.underlying22 Tryz.underlying5
            have KF := hide (freeze_kept v127 v126.heap.size 3)
            have RX := hide (xyz_reads v127 v126.heap.size XB.out)
            have hks := KF.out.size
            have hbr := BR.out.size
            have BRn := hide (BR.out.trans (KF.out.below BR.out.size (fun k hk e => by omega)))
            have XAn := hide (XA.out.kept KF.out (by omega))
            go_simp
            refine hK.out _ _ trivial (fun hHeld => ?_)
            clear hK K BR hc3 XB XA
            try simp only [Act.put, List.setIfInBounds_toArray, List.set_cons_zero, List.set_cons_succ]
            generalize v127.freeze ⟨v126.heap.size, 3, none⟩ 1 = v128 at *
            have BR := BRn
            clear BRn
            have XA := XAn
            clear XAn
            clear KF
            refine tk 8 52 (.slice (some ⟨v126.heap.size, 0, none⟩) r1.toNat 3) hHeld rfl (by kernel_rfl) (by kernel_rfl) (by kernel_rfl) (fun _ _ _ h => h) (Or.inl ⟨by rfl, ?_⟩) ?_
            · intro w _
              go_simp <;> (first | done | decide | omega | (simp [IntKind.wrap, IntKind.bits, IntKind.signed]; omega))
            try simp only [Act.put, List.setIfInBounds_toArray, List.set_cons_zero, List.set_cons_succ]
            refine wpAnyH_ready (rs := [14]) (by kernel_rfl) (by simp) ?_
            refine AllReadyH.cons rfl (fun K hK => ?_) AllReadyH.nil
            go_simp
            refine (told8 U HRU.out av cv p (some ⟨v126.heap.size, 0, none⟩) r1.toNat 3 (tdX.take r1.toNat) (1 + r2) _ (HRS.out.below BR.out) (by omega) hpl (RX.out.take _) (by simp [tdX]; omega) (td_x8 _) (by simp [tdX]; omega) (by simp [tdX]; omega)).mono ?_
            rintro e v129 ⟨rep, V, hRV, av', cv', rfl, hHV, hbv129⟩
            have HRV := hide hRV
            have HHV := hide hHV
            have BRn := hide (below_next BR.out hbv129)
            have XAn := hide (XA.out.below hbv129)
            have hb8 : v66.heap.size < v128.heap.size := XA.out.lt
            have hsv129 := hbv129.size
            clear hRV hHV hbv129 BR XA
            have BR := BRn
            clear BRn
            have XA := XAn
            clear XAn
            go_wp2_with fail
            refine hK.out _ _ trivial (fun hHeld => ?_)
            clear hK K
            try simp only [Act.put, List.setIfInBounds_toArray, List.set_cons_zero, List.set_cons_succ]
            refine wpAnyH_ready (rs := [16]) (by kernel_rfl) (by simp) ?_
            refine AllReadyH.cons rfl (fun K hK => ?_) AllReadyH.nil
            obtain ⟨⟨z0, z1, z2⟩, z3, z4, z5⟩ := XA.out
            go_simp
            have KT := hide (Kept.three' v129 v66.heap.size (.int .i64 0) (.int .i64 rep) (.slice av' (tdL V).length cv'))
            have RVZ := hide (HHV.out _ (KT.out.mono (fun x _ e => by omega)))
            have BZ := hide (BR.out.trans (KT.out.below BR.out.size (fun x hx e => by omega)))
            have CZ := hide (Tri.of (XA.out.set (.int .i64 0) (.int .i64 rep) (.slice av' (tdL V).length cv')))
            clear z0 z1 z2 z3 z4 z5
            refine hK.out _ _ trivial (fun hHeld => ?_)
            clear hK K
            try simp only [Act.put, List.setIfInBounds_toArray, List.set_cons_zero, List.set_cons_succ]
            refine wpAnyH_done (by kernel_rfl) ?_ _
            generalize ((v129.setCell ⟨v66.heap.size, 0, none⟩ (.int .i64 0)).setCell ⟨v66.heap.size, 1, none⟩ (.int .i64 rep)).setCell ⟨v66.heap.size, 2, none⟩ (.slice av' (tdL V).length cv') = Z at *
            obtain ⟨g0, g1, g2⟩ := CZ.out
            go_wp2_with fail
            go_roundw
            case rel => exact ⟨k + 1, V, av', cv', by omega, by go_num, rfl, HRV, RVZ, hide (below_next HW.out BZ.out)⟩
            case measure => simp [intOf]; omega
      · have hbu := BR.out.size
        have BRn := hide (below_next BR.out (below_alloc D (.cells #[.int .i64 0, .int .i64 0, .slice none 0 0] 28)))
        have XAn := hide (Box3.new D (.int .i64 0) (.int .i64 0) (.slice none 0 0) 28)
        have hsn : D.heap.size < (D.alloc (.cells #[.int .i64 0, .int .i64 0, .slice none 0 0] 28)).heap.size := by simp
        go_simp
        refine hK.out _ _ trivial (fun hHeld => ?_)
        clear hK K BR
        try simp only [Act.put, List.setIfInBounds_toArray, List.set_cons_zero, List.set_cons_succ]
        generalize D.alloc (.cells #[.int .i64 0, .int .i64 0, .slice none 0 0] 28) = v131 at *
        have BR := BRn
        clear BRn
        have XA := XAn
        clear XAn
        refine wpAnyH_ready (rs := [2, 7]) (by kernel_rfl) (by simp) ?_
        refine AllReadyH.cons rfl (fun K hK => ?_) (AllReadyH.cons rfl (fun K hK => ?_) AllReadyH.nil)
        · have hbu := BR.out.size
          have BRn := hide (below_next BR.out (below_alloc v131 (.cells #[.int .u8 120, .int .u8 121, .int .u8 122] 5)))
          have XBn : Hid ((v131.alloc (.cells #[.int .u8 120, .int .u8 121, .int .u8 122] 5)).heap[v131.heap.size]? = some (.cells #[.int .u8 120, .int .u8 121, .int .u8 122] 5)) := hide (World.alloc_heap_new v131 _)
          have XAn := hide (XA.out.below (below_alloc v131 (.cells #[.int .u8 120, .int .u8 121, .int .u8 122] 5)))
          have hsn : v131.heap.size < (v131.alloc (.cells #[.int .u8 120, .int .u8 121, .int .u8 122] 5)).heap.size := by simp
          go_simp
          refine hK.out _ _ trivial (fun hHeld => ?_)
          clear hK K BR XA
          try simp only [Act.put, List.setIfInBounds_toArray, List.set_cons_zero, List.set_cons_succ]
          generalize v131.alloc (.cells #[.int .u8 120, .int .u8 121, .int .u8 122] 5) = v132 at *
          have BR := BRn
          clear BRn
          have XB := XBn
          clear XBn
          have XA := XAn
          clear XAn
          have hb2s := BR.out.size
          refine wpAnyH_ready (rs := [3, 7]) (by kernel_rfl) (by simp) ?_
          refine AllReadyH.cons rfl (fun K hK => ?_) (AllReadyH.cons rfl (fun K hK => ?_) AllReadyH.nil)
          · have hc3 : (convert 22 22 (.slice (some ⟨v131.heap.size, 0, none⟩) 3 3)).run Tryz.prog v132 = .ok (.slice (some ⟨v131.heap.size, 0, none⟩) 3 3) (v132.freeze ⟨v131.heap.size, 3, none⟩ 1) := run_convert_at v132 _ _ #[.int .u8 120, .int .u8 121, .int .u8 122] v131.heap.size 3 3 XB.out Tryz.underlying22 Tryz.underlying5
            have KF := hide (freeze_kept v132 v131.heap.size 3)
            have RX := hide (xyz_reads v132 v131.heap.size XB.out)
            have hks := KF.out.size
            have hbr := BR.out.size
            have BRn := hide (BR.out.trans (KF.out.below BR.out.size (fun k hk e => by omega)))
            have XAn := hide (XA.out.kept KF.out (by omega))
            go_simp
            refine hK.out _ _ trivial (fun hHeld => ?_)
            clear hK K BR hc3 XB XA
            try simp only [Act.put, List.setIfInBounds_toArray, List.set_cons_zero, List.set_cons_succ]
            generalize v132.freeze ⟨v131.heap.size, 3, none⟩ 1 = v133 at *
            have BR := BRn
            clear BRn
            have XA := XAn
            clear XAn
            clear KF
            refine wpAnyH_ready (rs := [7]) (by kernel_rfl) (by simp) ?_
            refine AllReadyH.cons rfl (fun K hK => ?_) AllReadyH.nil
            go_simp
            refine (lwAt_any a0 cap0 zs (k + 20) 4 _ (HR8.out.below (below_next HW.out BR.out)) HU.out (by omega) (by omega) (by omega) (by decide) (by decide)).mono ?_
            rintro e v134 ⟨r1, rfl, hr1, hr1', hbv134⟩
            have BRn := hide (below_next BR.out hbv134)
            have RXn := hide (RX.out.below hbv134)
            have XAn := hide (XA.out.below hbv134)
            have hsv134 := hbv134.size
            clear hbv134 BR RX XA
            have BR := BRn
            clear BRn
            have RX := RXn
            clear RXn
            have XA := XAn
            clear XAn
            go_wp2_with fail
            refine hK.out _ _ trivial (fun hHeld => ?_)
            clear hK K
            try simp only [Act.put, List.setIfInBounds_toArray, List.set_cons_zero, List.set_cons_succ]
            refine tk 8 52 (.slice (some ⟨v131.heap.size, 0, none⟩) r1.toNat 3) hHeld rfl (by kernel_rfl) (by kernel_rfl) (by kernel_rfl) (fun _ _ _ h => h) (Or.inl ⟨by rfl, ?_⟩) ?_
            · intro w _
              go_simp <;> (first | done | decide | omega | (simp [IntKind.wrap, IntKind.bits, IntKind.signed]; omega))
            try simp only [Act.put, List.setIfInBounds_toArray, List.set_cons_zero, List.set_cons_succ]
            refine wpAnyH_ready (rs := [12]) (by kernel_rfl) (by simp) ?_
            refine AllReadyH.cons rfl (fun K hK => ?_) AllReadyH.nil
            go_simp
            refine (lwAt_any a0 cap0 zs (k + 40) 3 _ (HR8.out.below (below_next HW.out BR.out)) HU.out (by omega) (by omega) (by omega) (by decide) (by decide)).mono ?_
            rintro e v135 ⟨r2, rfl, hr2, hr2', hbv135⟩
            have BRn := hide (below_next BR.out hbv135)
            have RXn := hide (RX.out.below hbv135)
            have XAn := hide (XA.out.below hbv135)
            have hsv135 := hbv135.size
            clear hbv135 BR RX XA
            have BR := BRn
            clear BRn
            have RX := RXn
            clear RXn
            have XA := XAn
            clear XAn
            go_wp2_with fail
            refine hK.out _ _ trivial (fun hHeld => ?_)
            clear hK K
            try simp only [Act.put, List.setIfInBounds_toArray, List.set_cons_zero, List.set_cons_succ]
            refine tk 13 57 (.int .i64 (1 + r2)) hHeld rfl (by kernel_rfl) (by kernel_rfl) (by kernel_rfl) (fun _ _ _ h => h) (Or.inl ⟨by rfl, ?_⟩) ?_
            · intro w _
              go_simp <;> (first | done | decide | omega | (simp [IntKind.wrap, IntKind.bits, IntKind.signed]; omega))
            try simp only [Act.put, List.setIfInBounds_toArray, List.set_cons_zero, List.set_cons_succ]
            refine wpAnyH_ready (rs := [14]) (by kernel_rfl) (by simp) ?_
            refine AllReadyH.cons rfl (fun K hK => ?_) AllReadyH.nil
            go_simp
            refine (told8 U HRU.out av cv p (some ⟨v131.heap.size, 0, none⟩) r1.toNat 3 (tdX.take r1.toNat) (1 + r2) _ (HRS.out.below BR.out) (by omega) hpl (RX.out.take _) (by simp [tdX]; omega) (td_x8 _) (by simp [tdX]; omega) (by simp [tdX]; omega)).mono ?_
            rintro e v136 ⟨rep, V, hRV, av', cv', rfl, hHV, hbv136⟩
            have HRV := hide hRV
            have HHV := hide hHV
            have BRn := hide (below_next BR.out hbv136)
            have XAn := hide (XA.out.below hbv136)
            have hb8 : D.heap.size < v135.heap.size := XA.out.lt
            have hsv136 := hbv136.size
            clear hRV hHV hbv136 BR XA
            have BR := BRn
            clear BRn
            have XA := XAn
            clear XAn
            go_wp2_with fail
            refine hK.out _ _ trivial (fun hHeld => ?_)
            clear hK K
            try simp only [Act.put, List.setIfInBounds_toArray, List.set_cons_zero, List.set_cons_succ]
            refine wpAnyH_ready (rs := [16]) (by kernel_rfl) (by simp) ?_
            refine AllReadyH.cons rfl (fun K hK => ?_) AllReadyH.nil
            obtain ⟨⟨z0, z1, z2⟩, z3, z4, z5⟩ := XA.out
            go_simp
            have KT := hide (Kept.three' v136 D.heap.size (.int .i64 0) (.int .i64 rep) (.slice av' (tdL V).length cv'))
            have RVZ := hide (HHV.out _ (KT.out.mono (fun x _ e => by omega)))
            have BZ := hide (BR.out.trans (KT.out.below BR.out.size (fun x hx e => by omega)))
            have CZ := hide (Tri.of (XA.out.set (.int .i64 0) (.int .i64 rep) (.slice av' (tdL V).length cv')))
            clear z0 z1 z2 z3 z4 z5
            refine hK.out _ _ trivial (fun hHeld => ?_)
            clear hK K
            try simp only [Act.put, List.setIfInBounds_toArray, List.set_cons_zero, List.set_cons_succ]
            refine wpAnyH_done (by kernel_rfl) ?_ _
            generalize ((v136.setCell ⟨D.heap.size, 0, none⟩ (.int .i64 0)).setCell ⟨D.heap.size, 1, none⟩ (.int .i64 rep)).setCell ⟨D.heap.size, 2, none⟩ (.slice av' (tdL V).length cv') = Z at *
            obtain ⟨g0, g1, g2⟩ := CZ.out
            go_wp2_with fail
            go_roundw
            case rel => exact ⟨k + 1, V, av', cv', by omega, by go_num, rfl, HRV, RVZ, hide (below_next HW.out BZ.out)⟩
            case measure => simp [intOf]; omega
          · go_simp
            refine (lwAt_any a0 cap0 zs (k + 20) 4 _ (HR8.out.below (below_next HW.out BR.out)) HU.out (by omega) (by omega) (by omega) (by decide) (by decide)).mono ?_
            rintro e v138 ⟨r1, rfl, hr1, hr1', hbv138⟩
            have BRn := hide (below_next BR.out hbv138)
            have XBn := hide ((hbv138.block _ (Array.getElem?_eq_some_iff.1 XB.out).1).trans XB.out)
            have XAn := hide (XA.out.below hbv138)
            have hsv138 := hbv138.size
            clear hbv138 BR XB XA
            have BR := BRn
            clear BRn
            have XB := XBn
            clear XBn
            have XA := XAn
            clear XAn
            go_wp2_with fail
            refine hK.out _ _ trivial (fun hHeld => ?_)
            clear hK K
            try simp only [Act.put, List.setIfInBounds_toArray, List.set_cons_zero, List.set_cons_succ]
            refine wpAnyH_ready (rs := [3, 12]) (by kernel_rfl) (by simp) ?_
            refine AllReadyH.cons rfl (fun K hK => ?_) (AllReadyH.cons rfl (fun K hK => ?_) AllReadyH.nil)
            · have hc3 : (convert 22 22 (.slice (some ⟨v131.heap.size, 0, none⟩) 3 3)).run Tryz.prog v138 = .ok (.slice (some ⟨v131.heap.size, 0, none⟩) 3 3) (v138.freeze ⟨v131.heap.size, 3, none⟩ 1) := run_convert_at v138 _ _ #[.int .u8 120, .int .u8 121, .int .u8 122] v131.heap.size 3 3 XB.out Tryz.underlying22 Tryz.underlying5
              have KF := hide (freeze_kept v138 v131.heap.size 3)
              have RX := hide (xyz_reads v138 v131.heap.size XB.out)
              have hks := KF.out.size
              have hbr := BR.out.size
              have BRn := hide (BR.out.trans (KF.out.below BR.out.size (fun k hk e => by omega)))
              have XAn := hide (XA.out.kept KF.out (by omega))
              go_simp
              refine hK.out _ _ trivial (fun hHeld => ?_)
              clear hK K BR hc3 XB XA
              try simp only [Act.put, List.setIfInBounds_toArray, List.set_cons_zero, List.set_cons_succ]
              generalize v138.freeze ⟨v131.heap.size, 3, none⟩ 1 = v139 at *
              have BR := BRn
              clear BRn
              have XA := XAn
              clear XAn
              clear KF
              refine tk 8 52 (.slice (some ⟨v131.heap.size, 0, none⟩) r1.toNat 3) hHeld rfl (by kernel_rfl) (by kernel_rfl) (by kernel_rfl) (fun _ _ _ h => h) (Or.inl ⟨by rfl, ?_⟩) ?_
              · intro w _
                go_simp <;> (first | done | decide | omega | (simp [IntKind.wrap, IntKind.bits, IntKind.signed]; omega))
              try simp only [Act.put, List.setIfInBounds_toArray, List.set_cons_zero, List.set_cons_succ]
              refine wpAnyH_ready (rs := [12]) (by kernel_rfl) (by simp) ?_
              refine AllReadyH.cons rfl (fun K hK => ?_) AllReadyH.nil
              go_simp
              refine (lwAt_any a0 cap0 zs (k + 40) 3 _ (HR8.out.below (below_next HW.out BR.out)) HU.out (by omega) (by omega) (by omega) (by decide) (by decide)).mono ?_
              rintro e v140 ⟨r2, rfl, hr2, hr2', hbv140⟩
              have BRn := hide (below_next BR.out hbv140)
              have RXn := hide (RX.out.below hbv140)
              have XAn := hide (XA.out.below hbv140)
              have hsv140 := hbv140.size
              clear hbv140 BR RX XA
              have BR := BRn
              clear BRn
              have RX := RXn
              clear RXn
              have XA := XAn
              clear XAn
              go_wp2_with fail
              refine hK.out _ _ trivial (fun hHeld => ?_)
              clear hK K
              try simp only [Act.put, List.setIfInBounds_toArray, List.set_cons_zero, List.set_cons_succ]
              refine tk 13 57 (.int .i64 (1 + r2)) hHeld rfl (by kernel_rfl) (by kernel_rfl) (by kernel_rfl) (fun _ _ _ h => h) (Or.inl ⟨by rfl, ?_⟩) ?_
              · intro w _
                go_simp <;> (first | done | decide | omega | (simp [IntKind.wrap, IntKind.bits, IntKind.signed]; omega))
              try simp only [Act.put, List.setIfInBounds_toArray, List.set_cons_zero, List.set_cons_succ]
              refine wpAnyH_ready (rs := [14]) (by kernel_rfl) (by simp) ?_
              refine AllReadyH.cons rfl (fun K hK => ?_) AllReadyH.nil
              go_simp
              refine (told8 U HRU.out av cv p (some ⟨v131.heap.size, 0, none⟩) r1.toNat 3 (tdX.take r1.toNat) (1 + r2) _ (HRS.out.below BR.out) (by omega) hpl (RX.out.take _) (by simp [tdX]; omega) (td_x8 _) (by simp [tdX]; omega) (by simp [tdX]; omega)).mono ?_
              rintro e v141 ⟨rep, V, hRV, av', cv', rfl, hHV, hbv141⟩
              have HRV := hide hRV
              have HHV := hide hHV
              have BRn := hide (below_next BR.out hbv141)
              have XAn := hide (XA.out.below hbv141)
              have hb8 : D.heap.size < v140.heap.size := XA.out.lt
              have hsv141 := hbv141.size
              clear hRV hHV hbv141 BR XA
              have BR := BRn
              clear BRn
              have XA := XAn
              clear XAn
              go_wp2_with fail
              refine hK.out _ _ trivial (fun hHeld => ?_)
              clear hK K
              try simp only [Act.put, List.setIfInBounds_toArray, List.set_cons_zero, List.set_cons_succ]
              refine wpAnyH_ready (rs := [16]) (by kernel_rfl) (by simp) ?_
              refine AllReadyH.cons rfl (fun K hK => ?_) AllReadyH.nil
              obtain ⟨⟨z0, z1, z2⟩, z3, z4, z5⟩ := XA.out
              go_simp
              have KT := hide (Kept.three' v141 D.heap.size (.int .i64 0) (.int .i64 rep) (.slice av' (tdL V).length cv'))
              have RVZ := hide (HHV.out _ (KT.out.mono (fun x _ e => by omega)))
              have BZ := hide (BR.out.trans (KT.out.below BR.out.size (fun x hx e => by omega)))
              have CZ := hide (Tri.of (XA.out.set (.int .i64 0) (.int .i64 rep) (.slice av' (tdL V).length cv')))
              clear z0 z1 z2 z3 z4 z5
              refine hK.out _ _ trivial (fun hHeld => ?_)
              clear hK K
              try simp only [Act.put, List.setIfInBounds_toArray, List.set_cons_zero, List.set_cons_succ]
              refine wpAnyH_done (by kernel_rfl) ?_ _
              generalize ((v141.setCell ⟨D.heap.size, 0, none⟩ (.int .i64 0)).setCell ⟨D.heap.size, 1, none⟩ (.int .i64 rep)).setCell ⟨D.heap.size, 2, none⟩ (.slice av' (tdL V).length cv') = Z at *
              obtain ⟨g0, g1, g2⟩ := CZ.out
              go_wp2_with fail
              go_roundw
              case rel => exact ⟨k + 1, V, av', cv', by omega, by go_num, rfl, HRV, RVZ, hide (below_next HW.out BZ.out)⟩
              case measure => simp [intOf]; omega
            · go_simp
              refine (lwAt_any a0 cap0 zs (k + 40) 3 _ (HR8.out.below (below_next HW.out BR.out)) HU.out (by omega) (by omega) (by omega) (by decide) (by decide)).mono ?_
              rintro e v143 ⟨r2, rfl, hr2, hr2', hbv143⟩
              have BRn := hide (below_next BR.out hbv143)
              have XBn := hide ((hbv143.block _ (Array.getElem?_eq_some_iff.1 XB.out).1).trans XB.out)
              have XAn := hide (XA.out.below hbv143)
              have hsv143 := hbv143.size
              clear hbv143 BR XB XA
              have BR := BRn
              clear BRn
              have XB := XBn
              clear XBn
              have XA := XAn
              clear XAn
              go_wp2_with fail
              refine hK.out _ _ trivial (fun hHeld => ?_)
              clear hK K
              try simp only [Act.put, List.setIfInBounds_toArray, List.set_cons_zero, List.set_cons_succ]
              refine tk 13 57 (.int .i64 (1 + r2)) hHeld rfl (by kernel_rfl) (by kernel_rfl) (by kernel_rfl) (fun _ _ _ h => h) (Or.inl ⟨by rfl, ?_⟩) ?_
              · intro w _
                go_simp <;> (first | done | decide | omega | (simp [IntKind.wrap, IntKind.bits, IntKind.signed]; omega))
              try simp only [Act.put, List.setIfInBounds_toArray, List.set_cons_zero, List.set_cons_succ]
              refine wpAnyH_ready (rs := [3]) (by kernel_rfl) (by simp) ?_
              refine AllReadyH.cons rfl (fun K hK => ?_) AllReadyH.nil
              have hc3 : (convert 22 22 (.slice (some ⟨v131.heap.size, 0, none⟩) 3 3)).run Tryz.prog v143 = .ok (.slice (some ⟨v131.heap.size, 0, none⟩) 3 3) (v143.freeze ⟨v131.heap.size, 3, none⟩ 1) := run_convert_at v143 _ _ #[.int .u8 120, .int .u8 121, .int .u8 122] v131.heap.size 3 3 XB.out Tryz.underlying22 Tryz.underlying5
              have KF := hide (freeze_kept v143 v131.heap.size 3)
              have RX := hide (xyz_reads v143 v131.heap.size XB.out)
              have hks := KF.out.size
              have hbr := BR.out.size
              have BRn := hide (BR.out.trans (KF.out.below BR.out.size (fun k hk e => by omega)))
              have XAn := hide (XA.out.kept KF.out (by omega))
              go_simp
              refine hK.out _ _ trivial (fun hHeld => ?_)
              clear hK K BR hc3 XB XA
              try simp only [Act.put, List.setIfInBounds_toArray, List.set_cons_zero, List.set_cons_succ]
              generalize v143.freeze ⟨v131.heap.size, 3, none⟩ 1 = v144 at *
              have BR := BRn
              clear BRn
              have XA := XAn
              clear XAn
              clear KF
              refine tk 8 52 (.slice (some ⟨v131.heap.size, 0, none⟩) r1.toNat 3) hHeld rfl (by kernel_rfl) (by kernel_rfl) (by kernel_rfl) (fun _ _ _ h => h) (Or.inl ⟨by rfl, ?_⟩) ?_
              · intro w _
                go_simp <;> (first | done | decide | omega | (simp [IntKind.wrap, IntKind.bits, IntKind.signed]; omega))
              try simp only [Act.put, List.setIfInBounds_toArray, List.set_cons_zero, List.set_cons_succ]
              refine wpAnyH_ready (rs := [14]) (by kernel_rfl) (by simp) ?_
              refine AllReadyH.cons rfl (fun K hK => ?_) AllReadyH.nil
              go_simp
              refine (told8 U HRU.out av cv p (some ⟨v131.heap.size, 0, none⟩) r1.toNat 3 (tdX.take r1.toNat) (1 + r2) _ (HRS.out.below BR.out) (by omega) hpl (RX.out.take _) (by simp [tdX]; omega) (td_x8 _) (by simp [tdX]; omega) (by simp [tdX]; omega)).mono ?_
              rintro e v145 ⟨rep, V, hRV, av', cv', rfl, hHV, hbv145⟩
              have HRV := hide hRV
              have HHV := hide hHV
              have BRn := hide (below_next BR.out hbv145)
              have XAn := hide (XA.out.below hbv145)
              have hb8 : D.heap.size < v144.heap.size := XA.out.lt
              have hsv145 := hbv145.size
              clear hRV hHV hbv145 BR XA
              have BR := BRn
              clear BRn
              have XA := XAn
              clear XAn
              go_wp2_with fail
              refine hK.out _ _ trivial (fun hHeld => ?_)
              clear hK K
              try simp only [Act.put, List.setIfInBounds_toArray, List.set_cons_zero, List.set_cons_succ]
              refine wpAnyH_ready (rs := [16]) (by kernel_rfl) (by simp) ?_
              refine AllReadyH.cons rfl (fun K hK => ?_) AllReadyH.nil
              obtain ⟨⟨z0, z1, z2⟩, z3, z4, z5⟩ := XA.out
              go_simp
              have KT := hide (Kept.three' v145 D.heap.size (.int .i64 0) (.int .i64 rep) (.slice av' (tdL V).length cv'))
              have RVZ := hide (HHV.out _ (KT.out.mono (fun x _ e => by omega)))
              have BZ := hide (BR.out.trans (KT.out.below BR.out.size (fun x hx e => by omega)))
              have CZ := hide (Tri.of (XA.out.set (.int .i64 0) (.int .i64 rep) (.slice av' (tdL V).length cv')))
              clear z0 z1 z2 z3 z4 z5
              refine hK.out _ _ trivial (fun hHeld => ?_)
              clear hK K
              try simp only [Act.put, List.setIfInBounds_toArray, List.set_cons_zero, List.set_cons_succ]
              refine wpAnyH_done (by kernel_rfl) ?_ _
              generalize ((v145.setCell ⟨D.heap.size, 0, none⟩ (.int .i64 0)).setCell ⟨D.heap.size, 1, none⟩ (.int .i64 rep)).setCell ⟨D.heap.size, 2, none⟩ (.slice av' (tdL V).length cv') = Z at *
              obtain ⟨g0, g1, g2⟩ := CZ.out
              go_wp2_with fail
              go_roundw
              case rel => exact ⟨k + 1, V, av', cv', by omega, by go_num, rfl, HRV, RVZ, hide (below_next HW.out BZ.out)⟩
              case measure => simp [intOf]; omega
        · go_simp
          refine (lwAt_any a0 cap0 zs (k + 20) 4 _ (HR8.out.below (below_next HW.out BR.out)) HU.out (by omega) (by omega) (by omega) (by decide) (by decide)).mono ?_
          rintro e v147 ⟨r1, rfl, hr1, hr1', hbv147⟩
          have BRn := hide (below_next BR.out hbv147)
          have XAn := hide (XA.out.below hbv147)
          have hsv147 := hbv147.size
          clear hbv147 BR XA
          have BR := BRn
          clear BRn
          have XA := XAn
          clear XAn
          go_wp2_with fail
          refine hK.out _ _ trivial (fun hHeld => ?_)
          clear hK K
          try simp only [Act.put, List.setIfInBounds_toArray, List.set_cons_zero, List.set_cons_succ]
          refine wpAnyH_ready (rs := [2, 12]) (by kernel_rfl) (by simp) ?_
          refine AllReadyH.cons rfl (fun K hK => ?_) (AllReadyH.cons rfl (fun K hK => ?_) AllReadyH.nil)
          · have hbu := BR.out.size
            have BRn := hide (below_next BR.out (below_alloc v147 (.cells #[.int .u8 120, .int .u8 121, .int .u8 122] 5)))
            have XBn : Hid ((v147.alloc (.cells #[.int .u8 120, .int .u8 121, .int .u8 122] 5)).heap[v147.heap.size]? = some (.cells #[.int .u8 120, .int .u8 121, .int .u8 122] 5)) := hide (World.alloc_heap_new v147 _)
            have XAn := hide (XA.out.below (below_alloc v147 (.cells #[.int .u8 120, .int .u8 121, .int .u8 122] 5)))
            have hsn : v147.heap.size < (v147.alloc (.cells #[.int .u8 120, .int .u8 121, .int .u8 122] 5)).heap.size := by simp
            go_simp
            refine hK.out _ _ trivial (fun hHeld => ?_)
            clear hK K BR XA
            try simp only [Act.put, List.setIfInBounds_toArray, List.set_cons_zero, List.set_cons_succ]
            generalize v147.alloc (.cells #[.int .u8 120, .int .u8 121, .int .u8 122] 5) = v148 at *
            have BR := BRn
            clear BRn
            have XB := XBn
            clear XBn
            have XA := XAn
            clear XAn
            have hb2s := BR.out.size
            refine wpAnyH_ready (rs := [3, 12]) (by kernel_rfl) (by simp) ?_
            refine AllReadyH.cons rfl (fun K hK => ?_) (AllReadyH.cons rfl (fun K hK => ?_) AllReadyH.nil)
            · have hc3 : (convert 22 22 (.slice (some ⟨v147.heap.size, 0, none⟩) 3 3)).run Tryz.prog v148 = .ok (.slice (some ⟨v147.heap.size, 0, none⟩) 3 3) (v148.freeze ⟨v147.heap.size, 3, none⟩ 1) := run_convert_at v148 _ _ #[.int .u8 120, .int .u8 121, .int .u8 122] v147.heap.size 3 3 XB.out Tryz.underlying22 Tryz.underlying5
              have KF := hide (freeze_kept v148 v147.heap.size 3)
              have RX := hide (xyz_reads v148 v147.heap.size XB.out)
              have hks := KF.out.size
              have hbr := BR.out.size
              have BRn := hide (BR.out.trans (KF.out.below BR.out.size (fun k hk e => by omega)))
              have XAn := hide (XA.out.kept KF.out (by omega))
              go_simp
              refine hK.out _ _ trivial (fun hHeld => ?_)
              clear hK K BR hc3 XB XA
              try simp only [Act.put, List.setIfInBounds_toArray, List.set_cons_zero, List.set_cons_succ]
              generalize v148.freeze ⟨v147.heap.size, 3, none⟩ 1 = v149 at *
              have BR := BRn
              clear BRn
              have XA := XAn
              clear XAn
              clear KF
              refine tk 8 52 (.slice (some ⟨v147.heap.size, 0, none⟩) r1.toNat 3) hHeld rfl (by kernel_rfl) (by kernel_rfl) (by kernel_rfl) (fun _ _ _ h => h) (Or.inl ⟨by rfl, ?_⟩) ?_
              · intro w _
                go_simp <;> (first | done | decide | omega | (simp [IntKind.wrap, IntKind.bits, IntKind.signed]; omega))
              try simp only [Act.put, List.setIfInBounds_toArray, List.set_cons_zero, List.set_cons_succ]
              refine wpAnyH_ready (rs := [12]) (by kernel_rfl) (by simp) ?_
              refine AllReadyH.cons rfl (fun K hK => ?_) AllReadyH.nil
              go_simp
              refine (lwAt_any a0 cap0 zs (k + 40) 3 _ (HR8.out.below (below_next HW.out BR.out)) HU.out (by omega) (by omega) (by omega) (by decide) (by decide)).mono ?_
              rintro e v150 ⟨r2, rfl, hr2, hr2', hbv150⟩
              have BRn := hide (below_next BR.out hbv150)
              have RXn := hide (RX.out.below hbv150)
              have XAn := hide (XA.out.below hbv150)
              have hsv150 := hbv150.size
              clear hbv150 BR RX XA
              have BR := BRn
              clear BRn
              have RX := RXn
              clear RXn
              have XA := XAn
              clear XAn
              go_wp2_with fail
              refine hK.out _ _ trivial (fun hHeld => ?_)
              clear hK K
              try simp only [Act.put, List.setIfInBounds_toArray, List.set_cons_zero, List.set_cons_succ]
              refine tk 13 57 (.int .i64 (1 + r2)) hHeld rfl (by kernel_rfl) (by kernel_rfl) (by kernel_rfl) (fun _ _ _ h => h) (Or.inl ⟨by rfl, ?_⟩) ?_
              · intro w _
                go_simp <;> (first | done | decide | omega | (simp [IntKind.wrap, IntKind.bits, IntKind.signed]; omega))
              try simp only [Act.put, List.setIfInBounds_toArray, List.set_cons_zero, List.set_cons_succ]
              refine wpAnyH_ready (rs := [14]) (by kernel_rfl) (by simp) ?_
              refine AllReadyH.cons rfl (fun K hK => ?_) AllReadyH.nil
              go_simp
              refine (told8 U HRU.out av cv p (some ⟨v147.heap.size, 0, none⟩) r1.toNat 3 (tdX.take r1.toNat) (1 + r2) _ (HRS.out.below BR.out) (by omega) hpl (RX.out.take _) (by simp [tdX]; omega) (td_x8 _) (by simp [tdX]; omega) (by simp [tdX]; omega)).mono ?_
              rintro e v151 ⟨rep, V, hRV, av', cv', rfl, hHV, hbv151⟩
              have HRV := hide hRV
              have HHV := hide hHV
              have BRn := hide (below_next BR.out hbv151)
              have XAn := hide (XA.out.below hbv151)
              have hb8 : D.heap.size < v150.heap.size := XA.out.lt
              have hsv151 := hbv151.size
              clear hRV hHV hbv151 BR XA
              have BR := BRn
              clear BRn
              have XA := XAn
              clear XAn
              go_wp2_with fail
              refine hK.out _ _ trivial (fun hHeld => ?_)
              clear hK K
              try simp only [Act.put, List.setIfInBounds_toArray, List.set_cons_zero, List.set_cons_succ]
              refine wpAnyH_ready (rs := [16]) (by kernel_rfl) (by simp) ?_
              refine AllReadyH.cons rfl (fun K hK => ?_) AllReadyH.nil
              obtain ⟨⟨z0, z1, z2⟩, z3, z4, z5⟩ := XA.out
              go_simp
              have KT := hide (Kept.three' v151 D.heap.size (.int .i64 0) (.int .i64 rep) (.slice av' (tdL V).length cv'))
              have RVZ := hide (HHV.out _ (KT.out.mono (fun x _ e => by omega)))
              have BZ := hide (BR.out.trans (KT.out.below BR.out.size (fun x hx e => by omega)))
              have CZ := hide (Tri.of (XA.out.set (.int .i64 0) (.int .i64 rep) (.slice av' (tdL V).length cv')))
              clear z0 z1 z2 z3 z4 z5
              refine hK.out _ _ trivial (fun hHeld => ?_)
              clear hK K
              try simp only [Act.put, List.setIfInBounds_toArray, List.set_cons_zero, List.set_cons_succ]
              refine wpAnyH_done (by kernel_rfl) ?_ _
              generalize ((v151.setCell ⟨D.heap.size, 0, none⟩ (.int .i64 0)).setCell ⟨D.heap.size, 1, none⟩ (.int .i64 rep)).setCell ⟨D.heap.size, 2, none⟩ (.slice av' (tdL V).length cv') = Z at *
              obtain ⟨g0, g1, g2⟩ := CZ.out
              go_wp2_with fail
              go_roundw
              case rel => exact ⟨k + 1, V, av', cv', by omega, by go_num, rfl, HRV, RVZ, hide (below_next HW.out BZ.out)⟩
              case measure => simp [intOf]; omega
            · go_simp
              refine (lwAt_any a0 cap0 zs (k + 40) 3 _ (HR8.out.below (below_next HW.out BR.out)) HU.out (by omega) (by omega) (by omega) (by decide) (by decide)).mono ?_
              rintro e v153 ⟨r2, rfl, hr2, hr2', hbv153⟩
              have BRn := hide (below_next BR.out hbv153)
              have XBn := hide ((hbv153.block _ (Array.getElem?_eq_some_iff.1 XB.out).1).trans XB.out)
              have XAn := hide (XA.out.below hbv153)
              have hsv153 := hbv153.size
              clear hbv153 BR XB XA
              have BR := BRn
              clear BRn
              have XB := XBn
              clear XBn
              have XA := XAn
              clear XAn
              go_wp2_with fail
              refine hK.out _ _ trivial (fun hHeld => ?_)
              clear hK K
              try simp only [Act.put, List.setIfInBounds_toArray, List.set_cons_zero, List.set_cons_succ]
              refine tk 13 57 (.int .i64 (1 + r2)) hHeld rfl (by kernel_rfl) (by kernel_rfl) (by kernel_rfl) (fun _ _ _ h => h) (Or.inl ⟨by rfl, ?_⟩) ?_
              · intro w _
                go_simp <;> (first | done | decide | omega | (simp [IntKind.wrap, IntKind.bits, IntKind.signed]; omega))
              try simp only [Act.put, List.setIfInBounds_toArray, List.set_cons_zero, List.set_cons_succ]
              refine wpAnyH_ready (rs := [3]) (by kernel_rfl) (by simp) ?_
              refine AllReadyH.cons rfl (fun K hK => ?_) AllReadyH.nil
              have hc3 : (convert 22 22 (.slice (some ⟨v147.heap.size, 0, none⟩) 3 3)).run Tryz.prog v153 = .ok (.slice (some ⟨v147.heap.size, 0, none⟩) 3 3) (v153.freeze ⟨v147.heap.size, 3, none⟩ 1) := run_convert_at v153 _ _ #[.int .u8 120, .int .u8 121, .int .u8 122] v147.heap.size 3 3 XB.out Tryz.underlying22 Tryz.underlying5
              have KF := hide (freeze_kept v153 v147.heap.size 3)
              have RX := hide (xyz_reads v153 v147.heap.size XB.out)
              have hks := KF.out.size
              have hbr := BR.out.size
              have BRn := hide (BR.out.trans (KF.out.below BR.out.size (fun k hk e => by omega)))
              have XAn := hide (XA.out.kept KF.out (by omega))
              go_simp
              refine hK.out _ _ trivial (fun hHeld => ?_)
              clear hK K BR hc3 XB XA
              try simp only [Act.put, List.setIfInBounds_toArray, List.set_cons_zero, List.set_cons_succ]
              generalize v153.freeze ⟨v147.heap.size, 3, none⟩ 1 = v154 at *
              have BR := BRn
              clear BRn
              have XA := XAn
              clear XAn
              clear KF
              refine tk 8 52 (.slice (some ⟨v147.heap.size, 0, none⟩) r1.toNat 3) hHeld rfl (by kernel_rfl) (by kernel_rfl) (by kernel_rfl) (fun _ _ _ h => h) (Or.inl ⟨by rfl, ?_⟩) ?_
              · intro w _
                go_simp <;> (first | done | decide | omega | (simp [IntKind.wrap, IntKind.bits, IntKind.signed]; omega))
              try simp only [Act.put, List.setIfInBounds_toArray, List.set_cons_zero, List.set_cons_succ]
              refine wpAnyH_ready (rs := [14]) (by kernel_rfl) (by simp) ?_
              refine AllReadyH.cons rfl (fun K hK => ?_) AllReadyH.nil
              go_simp
              refine (told8 U HRU.out av cv p (some ⟨v147.heap.size, 0, none⟩) r1.toNat 3 (tdX.take r1.toNat) (1 + r2) _ (HRS.out.below BR.out) (by omega) hpl (RX.out.take _) (by simp [tdX]; omega) (td_x8 _) (by simp [tdX]; omega) (by simp [tdX]; omega)).mono ?_
              rintro e v155 ⟨rep, V, hRV, av', cv', rfl, hHV, hbv155⟩
              have HRV := hide hRV
              have HHV := hide hHV
              have BRn := hide (below_next BR.out hbv155)
              have XAn := hide (XA.out.below hbv155)
              have hb8 : D.heap.size < v154.heap.size := XA.out.lt
              have hsv155 := hbv155.size
              clear hRV hHV hbv155 BR XA
              have BR := BRn
              clear BRn
              have XA := XAn
              clear XAn
              go_wp2_with fail
              refine hK.out _ _ trivial (fun hHeld => ?_)
              clear hK K
              try simp only [Act.put, List.setIfInBounds_toArray, List.set_cons_zero, List.set_cons_succ]
              refine wpAnyH_ready (rs := [16]) (by kernel_rfl) (by simp) ?_
              refine AllReadyH.cons rfl (fun K hK => ?_) AllReadyH.nil
              obtain ⟨⟨z0, z1, z2⟩, z3, z4, z5⟩ := XA.out
              go_simp
              have KT := hide (Kept.three' v155 D.heap.size (.int .i64 0) (.int .i64 rep) (.slice av' (tdL V).length cv'))
              have RVZ := hide (HHV.out _ (KT.out.mono (fun x _ e => by omega)))
              have BZ := hide (BR.out.trans (KT.out.below BR.out.size (fun x hx e => by omega)))
              have CZ := hide (Tri.of (XA.out.set (.int .i64 0) (.int .i64 rep) (.slice av' (tdL V).length cv')))
              clear z0 z1 z2 z3 z4 z5
              refine hK.out _ _ trivial (fun hHeld => ?_)
              clear hK K
              try simp only [Act.put, List.setIfInBounds_toArray, List.set_cons_zero, List.set_cons_succ]
              refine wpAnyH_done (by kernel_rfl) ?_ _
              generalize ((v155.setCell ⟨D.heap.size, 0, none⟩ (.int .i64 0)).setCell ⟨D.heap.size, 1, none⟩ (.int .i64 rep)).setCell ⟨D.heap.size, 2, none⟩ (.slice av' (tdL V).length cv') = Z at *
              obtain ⟨g0, g1, g2⟩ := CZ.out
              go_wp2_with fail
              go_roundw
              case rel => exact ⟨k + 1, V, av', cv', by omega, by go_num, rfl, HRV, RVZ, hide (below_next HW.out BZ.out)⟩
              case measure => simp [intOf]; omega
          · go_simp
            refine (lwAt_any a0 cap0 zs (k + 40) 3 _ (HR8.out.below (below_next HW.out BR.out)) HU.out (by omega) (by omega) (by omega) (by decide) (by decide)).mono ?_
            rintro e v157 ⟨r2, rfl, hr2, hr2', hbv157⟩
            have BRn := hide (below_next BR.out hbv157)
            have XAn := hide (XA.out.below hbv157)
            have hsv157 := hbv157.size
            clear hbv157 BR XA
            have BR := BRn
            clear BRn
            have XA := XAn
            clear XAn
            go_wp2_with fail
            refine hK.out _ _ trivial (fun hHeld => ?_)
            clear hK K
            try simp only [Act.put, List.setIfInBounds_toArray, List.set_cons_zero, List.set_cons_succ]
            refine tk 13 57 (.int .i64 (1 + r2)) hHeld rfl (by kernel_rfl) (by kernel_rfl) (by kernel_rfl) (fun _ _ _ h => h) (Or.inl ⟨by rfl, ?_⟩) ?_
            · intro w _
              go_simp <;> (first | done | decide | omega | (simp [IntKind.wrap, IntKind.bits, IntKind.signed]; omega))
            try simp only [Act.put, List.setIfInBounds_toArray, List.set_cons_zero, List.set_cons_succ]
            refine wpAnyH_ready (rs := [2]) (by kernel_rfl) (by simp) ?_
            refine AllReadyH.cons rfl (fun K hK => ?_) AllReadyH.nil
            have hbu := BR.out.size
            have BRn := hide (below_next BR.out (below_alloc v157 (.cells #[.int .u8 120, .int .u8 121, .int .u8 122] 5)))
            have XBn : Hid ((v157.alloc (.cells #[.int .u8 120, .int .u8 121, .int .u8 122] 5)).heap[v157.heap.size]? = some (.cells #[.int .u8 120, .int .u8 121, .int .u8 122] 5)) := hide (World.alloc_heap_new v157 _)
            have XAn := hide (XA.out.below (below_alloc v157 (.cells #[.int .u8 120, .int .u8 121, .int .u8 122] 5)))
            have hsn : v157.heap.size < (v157.alloc (.cells #[.int .u8 120, .int .u8 121, .int .u8 122] 5)).heap.size := by simp
            go_simp
            refine hK.out _ _ trivial (fun hHeld => ?_)
            clear hK K BR XA
            try simp only [Act.put, List.setIfInBounds_toArray, List.set_cons_zero, List.set_cons_succ]
            generalize v157.alloc (.cells #[.int .u8 120, .int .u8 121, .int .u8 122] 5) = v158 at *
            have BR := BRn
            clear BRn
            have XB := XBn
            clear XBn
            have XA := XAn
            clear XAn
            have hb2s := BR.out.size
            refine wpAnyH_ready (rs := [3]) (by kernel_rfl) (by simp) ?_
            refine AllReadyH.cons rfl (fun K hK => ?_) AllReadyH.nil
            have hc3 : (convert 22 22 (.slice (some ⟨v157.heap.size, 0, none⟩) 3 3)).run Tryz.prog v158 = .ok (.slice (some ⟨v157.heap.size, 0, none⟩) 3 3) (v158.freeze ⟨v157.heap.size, 3, none⟩ 1) := run_convert_at v158 _ _ #[.int .u8 120, .int .u8 121, .int .u8 122] v157.heap.size 3 3 XB.out Tryz.underlying22 Tryz.underlying5
            have KF := hide (freeze_kept v158 v157.heap.size 3)
            have RX := hide (xyz_reads v158 v157.heap.size XB.out)
            have hks := KF.out.size
            have hbr := BR.out.size
            have BRn := hide (BR.out.trans (KF.out.below BR.out.size (fun k hk e => by omega)))
            have XAn := hide (XA.out.kept KF.out (by omega))
            go_simp
            refine hK.out _ _ trivial (fun hHeld => ?_)
            clear hK K BR hc3 XB XA
            try simp only [Act.put, List.setIfInBounds_toArray, List.set_cons_zero, List.set_cons_succ]
            generalize v158.freeze ⟨v157.heap.size, 3, none⟩ 1 = v159 at *
            have BR := BRn
            clear BRn
            have XA := XAn
            clear XAn
            clear KF
            refine tk 8 52 (.slice (some ⟨v157.heap.size, 0, none⟩) r1.toNat 3) hHeld rfl (by kernel_rfl) (by kernel_rfl) (by kernel_rfl) (fun _ _ _ h => h) (Or.inl ⟨by rfl, ?_⟩) ?_
            · intro w _
              go_simp <;> (first | done | decide | omega | (simp [IntKind.wrap, IntKind.bits, IntKind.signed]; omega))
            try simp only [Act.put, List.setIfInBounds_toArray, List.set_cons_zero, List.set_cons_succ]
            refine wpAnyH_ready (rs := [14]) (by kernel_rfl) (by simp) ?_
            refine AllReadyH.cons rfl (fun K hK => ?_) AllReadyH.nil
            go_simp
            refine (told8 U HRU.out av cv p (some ⟨v157.heap.size, 0, none⟩) r1.toNat 3 (tdX.take r1.toNat) (1 + r2) _ (HRS.out.below BR.out) (by omega) hpl (RX.out.take _) (by simp [tdX]; omega) (td_x8 _) (by simp [tdX]; omega) (by simp [tdX]; omega)).mono ?_
            rintro e v160 ⟨rep, V, hRV, av', cv', rfl, hHV, hbv160⟩
            have HRV := hide hRV
            have HHV := hide hHV
            have BRn := hide (below_next BR.out hbv160)
            have XAn := hide (XA.out.below hbv160)
            have hb8 : D.heap.size < v159.heap.size := XA.out.lt
            have hsv160 := hbv160.size
            clear hRV hHV hbv160 BR XA
            have BR := BRn
            clear BRn
            have XA := XAn
            clear XAn
            go_wp2_with fail
            refine hK.out _ _ trivial (fun hHeld => ?_)
            clear hK K
            try simp only [Act.put, List.setIfInBounds_toArray, List.set_cons_zero, List.set_cons_succ]
            refine wpAnyH_ready (rs := [16]) (by kernel_rfl) (by simp) ?_
            refine AllReadyH.cons rfl (fun K hK => ?_) AllReadyH.nil
            obtain ⟨⟨z0, z1, z2⟩, z3, z4, z5⟩ := XA.out
            go_simp
            have KT := hide (Kept.three' v160 D.heap.size (.int .i64 0) (.int .i64 rep) (.slice av' (tdL V).length cv'))
            have RVZ := hide (HHV.out _ (KT.out.mono (fun x _ e => by omega)))
            have BZ := hide (BR.out.trans (KT.out.below BR.out.size (fun x hx e => by omega)))
            have CZ := hide (Tri.of (XA.out.set (.int .i64 0) (.int .i64 rep) (.slice av' (tdL V).length cv')))
            clear z0 z1 z2 z3 z4 z5
            refine hK.out _ _ trivial (fun hHeld => ?_)
            clear hK K
            try simp only [Act.put, List.setIfInBounds_toArray, List.set_cons_zero, List.set_cons_succ]
            refine wpAnyH_done (by kernel_rfl) ?_ _
            generalize ((v160.setCell ⟨D.heap.size, 0, none⟩ (.int .i64 0)).setCell ⟨D.heap.size, 1, none⟩ (.int .i64 rep)).setCell ⟨D.heap.size, 2, none⟩ (.slice av' (tdL V).length cv') = Z at *
            obtain ⟨g0, g1, g2⟩ := CZ.out
            go_wp2_with fail
            go_roundw
            case rel => exact ⟨k + 1, V, av', cv', by omega, by go_num, rfl, HRV, RVZ, hide (below_next HW.out BZ.out)⟩
            case measure => simp [intOf]; omega
    · have hk8 : ¬ (k : Int) < 8 := by omega
      obtain ⟨bw, ow, Aw, Cw, hbw, -, -⟩ := R8.out (by simp [tdU])
      subst hbw
      have hc8' : (2 : Int) ≤ (c8 : Int) := by omega
      go_wp2_with fail
      refine (told6 U HRU.out _ _ _ HRS.out).mono ?_
      rintro e wM ⟨aM, cM, rfl, hrM, hbM⟩
      have RM := hide hrM
      have BM := hide hbM
      clear hrM hbM
      go_wp2_with fail
      refine (told7 _ _ _ RM.out).mono ?_
      rintro e wN ⟨aN, cN, rfl, hrN, -, hbN⟩
      have RN0 := hide (hrN.below (below_alloc wN (.cells #[.int .u8 104, .int .u8 101, .int .u8 108, .int .u8 108, .int .u8 111] 5 (5, 6))))
      have BN0 := hide (below_next (below_next BM.out hbN) (below_alloc wN (.cells #[.int .u8 104, .int .u8 101, .int .u8 108, .int .u8 108, .int .u8 111] 5 (5, 6))))
      clear hrN hbN
      go_wp2_with fail
      refine (told9 _ _ (hello_reads wN)).mono ?_
      rintro e wF ⟨aF, cF, rfl, hrF, hbF⟩
      have RF := hide (hrF.below (below_alloc wF (.cells #[.int .i64 0, .slice aF 1 cF] 54)))
      have RN := hide (RN0.out.below (below_next hbF (below_alloc wF (.cells #[.int .i64 0, .slice aF 1 cF] 54))))
      have BN := hide (below_next BN0.out (below_next hbF (below_alloc wF (.cells #[.int .i64 0, .slice aF 1 cF] 54))))
      have C10 : Hid (Two (wF.alloc (.cells #[.int .i64 0, .slice aF 1 cF] 54)) wF.heap.size (.int .i64 0) (.slice aF 1 cF)) := hide (Two.new wF _ _ _)
      have RA := hide (HRS.out.below BN.out)
      have RW : Hid (∀ u : World, Below (wF.alloc (.cells #[.int .i64 0, .slice aF 1 cF] 54)).heap.size (wF.alloc (.cells #[.int .i64 0, .slice aF 1 cF] 54)) u → RdE u (some ⟨bw, ow, none⟩) tdU) := hide (fun u hu => R8.out.below (below_next HW.out (below_next BN.out hu)))
      have BEND := hide (below_next B8.out (below_next HW.out BN.out))
      clear hrF hbF RN0 BN0
      go_wp2_with fail
      generalize wF.alloc (.cells #[.int .i64 0, .slice aF 1 cF] 54) = Y at *
      have KD : Hid (∀ u : World, Below Y.heap.size Y u → Two u wF.heap.size (.int .i64 0) (.slice aF 1 cF)) := hide (fun u hu => C10.out.below hu)
      have BX : Hid (Below Y.heap.size Y Y.drew) := hide ((Below.refl _ _).drew)
      refine wp_region_held_drew (S := fun w' => Two w' wF.heap.size (.int .i64 0) (.slice aF 1 cF)) (by kernel_rfl) (KD.out _ BX.out) (fun hHeld => ?_)
      change wpAnyH _ _ _ _ _ _ (Array.replicate _ false) _ _
      refine tk 0 72 (.slice av 3 cv) hHeld rfl (by kernel_rfl) (by kernel_rfl) (by kernel_rfl) (fun _ _ _ h => h) (Or.inl ⟨by rfl, ?_⟩) ?_
      · rintro w ⟨q0, q1⟩
        go_simp <;> (first | done | omega | (intro _; omega))
      try simp only [Act.put, List.setIfInBounds_toArray, List.set_cons_zero, List.set_cons_succ]
      refine tk 1 73 (.int .i64 3) hHeld rfl (by kernel_rfl) (by kernel_rfl) (by kernel_rfl) (fun _ _ _ h => h) (Or.inl ⟨by rfl, ?_⟩) ?_
      · rintro w ⟨q0, q1⟩
        go_simp <;> (first | done | omega | (intro _; omega))
      try simp only [Act.put, List.setIfInBounds_toArray, List.set_cons_zero, List.set_cons_succ]
      refine tk 2 74 (.bool true) hHeld rfl (by kernel_rfl) (by kernel_rfl) (by kernel_rfl) (fun _ _ _ h => h) (Or.inl ⟨by rfl, ?_⟩) ?_
      · rintro w ⟨q0, q1⟩
        go_simp <;> (first | done | omega | (intro _; omega))
      try simp only [Act.put, List.setIfInBounds_toArray, List.set_cons_zero, List.set_cons_succ]
      refine tk 3 75 (.bool true) hHeld rfl (by kernel_rfl) (by kernel_rfl) (by kernel_rfl) (fun _ _ _ h => h) (Or.inl ⟨by rfl, ?_⟩) ?_
      · rintro w ⟨q0, q1⟩
        go_simp <;> (first | done | omega | (intro _; omega))
      try simp only [Act.put, List.setIfInBounds_toArray, List.set_cons_zero, List.set_cons_succ]
      refine tk 4 76 (.slice (some ⟨bw, ow, none⟩) 2 c8) hHeld rfl (by kernel_rfl) (by kernel_rfl) (by kernel_rfl) (fun _ _ _ h => h) (Or.inl ⟨by rfl, ?_⟩) ?_
      · rintro w ⟨q0, q1⟩
        go_simp <;> (first | done | omega | (intro _; omega))
      try simp only [Act.put, List.setIfInBounds_toArray, List.set_cons_zero, List.set_cons_succ]
      refine tk 5 77 (.int .i64 2) hHeld rfl (by kernel_rfl) (by kernel_rfl) (by kernel_rfl) (fun _ _ _ h => h) (Or.inl ⟨by rfl, ?_⟩) ?_
      · rintro w ⟨q0, q1⟩
        go_simp <;> (first | done | omega | (intro _; omega))
      try simp only [Act.put, List.setIfInBounds_toArray, List.set_cons_zero, List.set_cons_succ]
      refine tk 6 78 (.bool true) hHeld rfl (by kernel_rfl) (by kernel_rfl) (by kernel_rfl) (fun _ _ _ h => h) (Or.inl ⟨by rfl, ?_⟩) ?_
      · rintro w ⟨q0, q1⟩
        go_simp <;> (first | done | omega | (intro _; omega))
      try simp only [Act.put, List.setIfInBounds_toArray, List.set_cons_zero, List.set_cons_succ]
      refine tk 7 79 (.bool true) hHeld rfl (by kernel_rfl) (by kernel_rfl) (by kernel_rfl) (fun _ _ _ h => h) (Or.inl ⟨by rfl, ?_⟩) ?_
      · rintro w ⟨q0, q1⟩
        go_simp <;> (first | done | omega | (intro _; omega))
      try simp only [Act.put, List.setIfInBounds_toArray, List.set_cons_zero, List.set_cons_succ]
      refine tk 8 80 (.bool true) hHeld rfl (by kernel_rfl) (by kernel_rfl) (by kernel_rfl) (fun _ _ _ h => h) (Or.inl ⟨by rfl, ?_⟩) ?_
      · rintro w ⟨q0, q1⟩
        go_simp <;> (first | done | omega | (intro _; omega))
      try simp only [Act.put, List.setIfInBounds_toArray, List.set_cons_zero, List.set_cons_succ]
      refine tk 9 81 (.slice (some ⟨bw, ow, none⟩) 2 c8) hHeld rfl (by kernel_rfl) (by kernel_rfl) (by kernel_rfl) (fun _ _ _ h => h) (Or.inl ⟨by rfl, ?_⟩) ?_
      · rintro w ⟨q0, q1⟩
        go_simp <;> (first | done | omega | (intro _; omega))
      try simp only [Act.put, List.setIfInBounds_toArray, List.set_cons_zero, List.set_cons_succ]
      refine tk 10 82 (.slice aN 2 cN) hHeld rfl (by kernel_rfl) (by kernel_rfl) (by kernel_rfl) (fun _ _ _ h => h) (Or.inl ⟨by rfl, ?_⟩) ?_
      · rintro w ⟨q0, q1⟩
        go_simp <;> (first | done | omega | (intro _; omega))
      try simp only [Act.put, List.setIfInBounds_toArray, List.set_cons_zero, List.set_cons_succ]
      refine wpAnyH_ready (rs := [11]) (by kernel_rfl) (by simp) ?_
      refine AllReadyH.cons rfl (fun K hK => ?_) AllReadyH.nil
      go_simp
      refine (same_any tdU (some ⟨bw, ow, none⟩) aN c8 cN 2 2 _ (RW.out _ BX.out) (RN.out.below BX.out) rfl rfl (by decide) td_smE).mono ?_
      rintro e x1 ⟨rfl, hx1⟩
      have BXn := hide (below_next BX.out hx1)
      clear hx1 BX
      have BX := BXn
      clear BXn
      go_wp2_with fail
      refine hK.out _ _ (KD.out _ BX.out) (fun hHeld => ?_)
      clear hK K
      try simp only [Act.put, List.setIfInBounds_toArray, List.set_cons_zero, List.set_cons_succ]
      refine tk 12 84 (.bool true) hHeld rfl (by kernel_rfl) (by kernel_rfl) (by kernel_rfl) (fun _ _ _ h => h) (Or.inl ⟨by rfl, ?_⟩) ?_
      · rintro w ⟨q0, q1⟩
        go_simp <;> (first | done | omega | (intro _; omega))
      try simp only [Act.put, List.setIfInBounds_toArray, List.set_cons_zero, List.set_cons_succ]
      refine tk 13 85 (.bool true) hHeld rfl (by kernel_rfl) (by kernel_rfl) (by kernel_rfl) (fun _ _ _ h => h) (Or.inl ⟨by rfl, ?_⟩) ?_
      · rintro w ⟨q0, q1⟩
        go_simp <;> (first | done | omega | (intro _; omega))
      try simp only [Act.put, List.setIfInBounds_toArray, List.set_cons_zero, List.set_cons_succ]
      refine tk 14 86 (.pointer (some ⟨wF.heap.size, 0, none⟩)) hHeld rfl (by kernel_rfl) (by kernel_rfl) (by kernel_rfl) (fun _ _ _ h => h) (Or.inl ⟨by rfl, ?_⟩) ?_
      · rintro w ⟨q0, q1⟩
        go_simp <;> (first | done | omega | (intro _; omega))
      try simp only [Act.put, List.setIfInBounds_toArray, List.set_cons_zero, List.set_cons_succ]
      refine tk 15 87 (.int .i64 0) hHeld rfl (by kernel_rfl) (by kernel_rfl) (by kernel_rfl) (fun _ _ _ h => h) (Or.inl ⟨by rfl, ?_⟩) ?_
      · rintro w ⟨q0, q1⟩
        go_simp <;> (first | done | omega | (intro _; omega))
      try simp only [Act.put, List.setIfInBounds_toArray, List.set_cons_zero, List.set_cons_succ]
      refine tk 16 88 (.bool true) hHeld rfl (by kernel_rfl) (by kernel_rfl) (by kernel_rfl) (fun _ _ _ h => h) (Or.inl ⟨by rfl, ?_⟩) ?_
      · rintro w ⟨q0, q1⟩
        go_simp <;> (first | done | omega | (intro _; omega))
      try simp only [Act.put, List.setIfInBounds_toArray, List.set_cons_zero, List.set_cons_succ]
      refine tk 17 89 (.bool true) hHeld rfl (by kernel_rfl) (by kernel_rfl) (by kernel_rfl) (fun _ _ _ h => h) (Or.inl ⟨by rfl, ?_⟩) ?_
      · rintro w ⟨q0, q1⟩
        go_simp <;> (first | done | omega | (intro _; omega))
      try simp only [Act.put, List.setIfInBounds_toArray, List.set_cons_zero, List.set_cons_succ]
      refine tk 18 90 (.bool true) hHeld rfl (by kernel_rfl) (by kernel_rfl) (by kernel_rfl) (fun _ _ _ h => h) (Or.inl ⟨by rfl, ?_⟩) ?_
      · rintro w ⟨q0, q1⟩
        go_simp <;> (first | done | omega | (intro _; omega))
      try simp only [Act.put, List.setIfInBounds_toArray, List.set_cons_zero, List.set_cons_succ]
      refine tk 19 91 (.slice (some ⟨bw, ow, none⟩) 2 c8) hHeld rfl (by kernel_rfl) (by kernel_rfl) (by kernel_rfl) (fun _ _ _ h => h) (Or.inl ⟨by rfl, ?_⟩) ?_
      · rintro w ⟨q0, q1⟩
        go_simp <;> (first | done | omega | (intro _; omega))
      try simp only [Act.put, List.setIfInBounds_toArray, List.set_cons_zero, List.set_cons_succ]
      refine tk 20 92 (.slice (some ⟨bw, ow + 4, none⟩) 1 (c8 - 1)) hHeld rfl (by kernel_rfl) (by kernel_rfl) (by kernel_rfl) (fun _ _ _ h => h) (Or.inl ⟨by rfl, ?_⟩) ?_
      · rintro w ⟨q0, q1⟩
        go_simp <;> (first | done | omega | (intro _; omega))
      try simp only [Act.put, List.setIfInBounds_toArray, List.set_cons_zero, List.set_cons_succ]
      refine tk 21 93 (.pointer (some ⟨wF.heap.size, 1, none⟩)) hHeld rfl (by kernel_rfl) (by kernel_rfl) (by kernel_rfl) (fun _ _ _ h => h) (Or.inl ⟨by rfl, ?_⟩) ?_
      · rintro w ⟨q0, q1⟩
        go_simp <;> (first | done | omega | (intro _; omega))
      try simp only [Act.put, List.setIfInBounds_toArray, List.set_cons_zero, List.set_cons_succ]
      refine tk 22 94 (.slice aF 1 cF) hHeld rfl (by kernel_rfl) (by kernel_rfl) (by kernel_rfl) (fun _ _ _ h => h) (Or.inl ⟨by rfl, ?_⟩) ?_
      · rintro w ⟨q0, q1⟩
        go_simp <;> (first | done | omega | (intro _; omega))
      try simp only [Act.put, List.setIfInBounds_toArray, List.set_cons_zero, List.set_cons_succ]
      refine wpAnyH_ready (rs := [23]) (by kernel_rfl) (by simp) ?_
      refine AllReadyH.cons rfl (fun K hK => ?_) AllReadyH.nil
      go_simp
      refine (same_any [tdF] (some ⟨bw, ow + 4, none⟩) aF (c8 - 1) cF 1 1 _ ((RW.out _ BX.out).one (k := 1) (e := tdF) rfl) (RF.out.below BX.out) rfl rfl (by decide) td_smF).mono ?_
      rintro e x2 ⟨rfl, hx2⟩
      have BXn := hide (below_next BX.out hx2)
      clear hx2 BX
      have BX := BXn
      clear BXn
      go_wp2_with fail
      refine hK.out _ _ (KD.out _ BX.out) (fun hHeld => ?_)
      clear hK K
      try simp only [Act.put, List.setIfInBounds_toArray, List.set_cons_zero, List.set_cons_succ]
      refine tk 24 96 (.bool true) hHeld rfl (by kernel_rfl) (by kernel_rfl) (by kernel_rfl) (fun _ _ _ h => h) (Or.inl ⟨by rfl, ?_⟩) ?_
      · rintro w ⟨q0, q1⟩
        go_simp <;> (first | done | omega | (intro _; omega))
      try simp only [Act.put, List.setIfInBounds_toArray, List.set_cons_zero, List.set_cons_succ]
      refine tk 25 97 (.bool true) hHeld rfl (by kernel_rfl) (by kernel_rfl) (by kernel_rfl) (fun _ _ _ h => h) (Or.inl ⟨by rfl, ?_⟩) ?_
      · rintro w ⟨q0, q1⟩
        go_simp <;> (first | done | omega | (intro _; omega))
      try simp only [Act.put, List.setIfInBounds_toArray, List.set_cons_zero, List.set_cons_succ]
      refine tk 26 98 (.slice av 3 cv) hHeld rfl (by kernel_rfl) (by kernel_rfl) (by kernel_rfl) (fun _ _ _ h => h) (Or.inl ⟨by rfl, ?_⟩) ?_
      · rintro w ⟨q0, q1⟩
        go_simp <;> (first | done | omega | (intro _; omega))
      try simp only [Act.put, List.setIfInBounds_toArray, List.set_cons_zero, List.set_cons_succ]
      refine wpAnyH_ready (rs := [27]) (by kernel_rfl) (by simp) ?_
      refine AllReadyH.cons rfl (fun K hK => ?_) AllReadyH.nil
      go_simp
      refine (told11 U HRU.out av cv _ (RA.out.below BX.out)).mono ?_
      rintro e x3 ⟨⟨a11, c11, rfl⟩, hx3⟩
      have BXn := hide (below_next BX.out hx3)
      clear hx3 BX
      have BX := BXn
      clear BXn
      go_wp2_with fail
      refine hK.out _ _ (KD.out _ BX.out) (fun hHeld => ?_)
      clear hK K
      try simp only [Act.put, List.setIfInBounds_toArray, List.set_cons_zero, List.set_cons_succ]
      refine tk 28 100 (.int .i64 10) hHeld rfl (by kernel_rfl) (by kernel_rfl) (by kernel_rfl) (fun _ _ _ h => h) (Or.inl ⟨by rfl, ?_⟩) ?_
      · rintro w ⟨q0, q1⟩
        go_simp <;> (first | done | omega | (intro _; omega))
      try simp only [Act.put, List.setIfInBounds_toArray, List.set_cons_zero, List.set_cons_succ]
      refine tk 29 101 (.bool true) hHeld rfl (by kernel_rfl) (by kernel_rfl) (by kernel_rfl) (fun _ _ _ h => h) (Or.inl ⟨by rfl, ?_⟩) ?_
      · rintro w ⟨q0, q1⟩
        go_simp <;> (first | done | omega | (intro _; omega))
      try simp only [Act.put, List.setIfInBounds_toArray, List.set_cons_zero, List.set_cons_succ]
      refine tk 30 102 (.bool true) hHeld rfl (by kernel_rfl) (by kernel_rfl) (by kernel_rfl) (fun _ _ _ h => h) (Or.inl ⟨by rfl, ?_⟩) ?_
      · rintro w ⟨q0, q1⟩
        go_simp <;> (first | done | omega | (intro _; omega))
      try simp only [Act.put, List.setIfInBounds_toArray, List.set_cons_zero, List.set_cons_succ]
      refine tk 31 2 (.bool true) hHeld rfl (by kernel_rfl) (by kernel_rfl) (by kernel_rfl) (fun _ _ _ h => h) (Or.inl ⟨by rfl, ?_⟩) ?_
      · rintro w ⟨q0, q1⟩
        go_simp <;> (first | done | omega | (intro _; omega))
      try simp only [Act.put, List.setIfInBounds_toArray, List.set_cons_zero, List.set_cons_succ]
      refine wpAnyH_done (by kernel_rfl) ?_ _
      go_wp2_with fail
      go_ret
      exact ⟨rfl, below_next BEND.out BX.out⟩

set_option maxRecDepth 100000 in
theorem lifted (os : Os) (started : os.Started) (H : Type) (enc : TypeId × Value → H) :
    ReturnsInHanded {} Tryz.checked os 5 .any (Rows.fnToldSpec.pre6 enc Tryz.prog Tryz.f5 Rows.fnToldRow.domain false) (Rows.fnToldSpec.post enc Tryz.prog Tryz.f5 false true false false) := by
  refine returnsInHanded_of_change (C := Tryz.checked) own started (by kernel_rfl) Tryz.func5
    (ChangeSpec.witness6 (enc := enc) (C := Tryz.checked) false ⟨#[], #[.slice none 0 0], []⟩ 8 (by kernel_rfl) (by kernel_rfl) (by kernel_rfl) (by kernel_rfl)) ?_
  intro W base args ds gs before hval0 hW hcnd _
  have hval : ∀ (j : Nat) t v, Tryz.f5.params[j]? = some t → args[j]? = some v → Value.okWide Tryz.prog W .any base t v := hval0
  have hW' := hW
  obtain ⟨p, q, hA0, hV, rfl, hfz, hnd⟩ := hW
  have hA : DataW.TrodAll enc Tryz.prog W 0 (fun _ => true) true Tryz.f5.params.toList args.toList ds p := hA0
  rw [Tryz.params5] at hA hval
  obtain ⟨v0, vs0, d0, ds0, p0, q0, hargs, rfl, rfl, h0, r0⟩ := trodAll_cons hA
  obtain ⟨rfl, rfl, rfl⟩ := trodAll_nil r0
  obtain rfl : args = #[v0] := by cases args; simp_all
  obtain ⟨rfl, rfl⟩ := trodVars_none hV
  obtain ⟨a0, len0, cap0, rfl⟩ := okWide_slice Tryz.underlying22 (hval 0 22 v0 rfl rfl)
  have k0 := h0
  have lt0 : ∀ x ∈ p0, x.block < W.heap.size := by obtain ⟨m, hm⟩ := k0; exact DataW.trod_lt m _ _ _ hm
  obtain ⟨zs, hlen, hread, hu, hmax⟩ : ∃ zs : List Int, zs.length = len0 ∧ Reads .u8 W a0 zs ∧ U8 zs ∧ zs.length ≤ maxLen := by
    obtain ⟨fuel, hf⟩ := h0
    rcases open_ints Tryz.underlying22 Tryz.underlying5 (by kernel_rfl) hf with ⟨hcs, _⟩ | ⟨x, l, c, zs, hcs, _, hl, hm, hz, _, hcell, hwz⟩
    · simp [Value.cells] at hcs
      obtain ⟨rfl, rfl, rfl⟩ := hcs
      exact ⟨[], rfl, fun h => absurd rfl h, fun z hz => by simp at hz, Nat.zero_le _⟩
    · simp [Value.cells] at hcs
      obtain ⟨rfl, rfl, rfl⟩ := hcs
      exact reads_of_row (by simpa using hz) hl hm hcell hwz
  subst hlen
  clear hA0 hval0
  refine (walk a0 cap0 zs W hread hu hmax).mono fun e W' ⟨he, bel⟩ => ?_
  subst he
  exact ⟨_, rfl, _, _, _, [], _, [], hW', trodAll_mk1 (shut_bool Tryz.underlying4 _), (trodAll_cons_mk (Below.trod laidOut (by kernel_rfl) (of_decide_eq_true (by kernel_rfl)) k0 bel lt0) trodAll_mk0), rfl, bel.frame _, fun h => by cases h⟩

theorem over : Rows.fnToldRow.holds Tryz.pinned (OpenSpec.ofChange Rows.fnToldSpec) :=
  OpenClaim.holds_of_wide 5 Tryz.f5 rfl rfl rfl rfl rfl rfl rfl ⟨rfl, rfl, rfl, rfl, rfl⟩ rfl rfl rfl rfl rfl (by kernel_rfl) Tryz.func5 (by kernel_rfl)
    (of_decide_eq_true (by kernel_rfl)) (by unfold Func.isWrapper; first | (rw [if_pos (by decide +kernel)]; kernel_rfl) | (rw [if_neg (by decide +kernel)]; exact ⟨rfl, rfl⟩))
    (fun os started H enc _ => lifted os started H enc)

end Go.Proofs.YteegkblkfdnfiaaGreat.fnTold
namespace Go.Proofs.YteegkblkfdnfiaaGreat
theorem fnTold_holds : Rows.FnToldSaid := fnTold.over
#print axioms fnTold_holds
end Go.Proofs.YteegkblkfdnfiaaGreat

