/-
  Texts put together: StoEb.
-/
import Derived.Test.YtfamojijgjmcmaaKSameSt8
namespace Go.Proofs.Ytfamojijgjmcmaa
open Go.ChangeShapes Go.WideShapes Go.ChangeAt Go.RowKit Go.Maps
set_option linter.unusedVariables false
attribute [local go_sem ↓] Go.wp_at_zero Go.wp_at_succ

def byB (zs : List Int) : Bs := zs.map fun z => UInt8.ofNat z.toNat
theorem byB_inj : ∀ {xs ys : List Int}, U8 xs → U8 ys → byB xs = byB ys → xs = ys
  | [], [], _, _, _ => rfl
  | [], y :: ys, _, _, h => by simp [byB] at h
  | x :: xs, [], _, _, h => by simp [byB] at h
  | x :: xs, y :: ys, hx, hy, h => by
    simp only [byB, List.map_cons, List.cons.injEq] at h
    have h1 := hx x (List.mem_cons_self ..)
    have h2 := hy y (List.mem_cons_self ..)
    have h3 : x = y := by
      have h4 := congrArg UInt8.toNat h.1
      simp at h4
      omega
    have h5 := byB_inj (xs := xs) (ys := ys) (fun z hz => hx z (List.mem_cons_of_mem _ hz)) (fun z hz => hy z (List.mem_cons_of_mem _ hz)) h.2
    rw [h3, h5]
theorem conv_readsB {w : World} {a : Option Addr} {c : Nat} {zs : List Int} (h : Reads .u8 w a zs) :
    Sem.run Try.prog (convert 28 9 (.slice a zs.length c)) w = .ok (.string (str (byB zs))) w := by
  show Sem.run Try.prog (convert 28 9 (.slice a zs.length c)) w = .ok (.string (strOfNums zs)) w
  by_cases e : zs = []
  · subst e
    rw [List.length_nil, run_convert_bytes_string w 28 9 5 _ 0 c Try.underlying28 Try.underlying5 Try.underlying9]
    cases a <;> simp [Conv.bytesToString, loadCells]
    all_goals rfl
  · obtain ⟨b, off, rfl, hb, hc⟩ := h e
    exact run_convert_bytes_arg (P := Try.prog) w 28 5 Try.underlying28 Try.underlying5 b off zs.length c zs rfl hc 9 Try.underlying9
set_option maxRecDepth 100000 in
set_option maxHeartbeats 25600000 in
theorem specSameStores_any (sa : Option Addr) (sc : Nat) (l : List Sn) (wa : Option Addr) (wc : Nat) (W : List Wn) (fa : Option Addr) (fc : Nat) (F : List Int) (ca : Option Addr) (cc n : Nat) (D : Nat → Int) (P : Nat → List Int) (ga : Option Addr) (gn gc : Nat) (la : Option Addr) (ln lc : Nat) (sa' : Option Addr) (sc' : Nat) (l' : List Sn) (wa' : Option Addr) (wc' : Nat) (W' : List Wn) (fa' : Option Addr) (fc' : Nat) (F' : List Int) (ca' : Option Addr) (cc' n' : Nat) (D' : Nat → Int) (P' : Nat → List Int) (ga' : Option Addr) (gn' gc' : Nat) (la' : Option Addr) (ln' lc' : Nat) (w : World) (h0 : RdS w sa l) (h0' : RdS w sa' l') (h : RdF w wa W fa F ca D P n) (h2 : RdF w wa' W' fa' F' ca' D' P' n') (hs : SmallS l) (hs' : SmallS l') (hW : W.length ≤ 1048576) (hF : F.length ≤ 1048576) (hn : n ≤ 1048576) (hP : ∀ i, i < n → (P i).length ≤ 1048576) (hW' : W'.length ≤ 1048576) (hF' : F'.length ≤ 1048576) (hn' : n' ≤ 1048576) (hP' : ∀ i, i < n' → (P' i).length ≤ 1048576) (hU : ∀ i, i < n → U8 (P i)) (hU' : ∀ i, i < n' → U8 (P' i)) :
    Calls Try.prog 5 #[.agg #[.slice sa l.length sc, .slice wa W.length wc, .slice fa F.length fc, .slice ca n cc, .slice ga gn gc, .slice la ln lc], .agg #[.slice sa' l'.length sc', .slice wa' W'.length wc', .slice fa' F'.length fc', .slice ca' n' cc', .slice ga' gn' gc', .slice la' ln' lc']] w (AnsB (SameX l W F D P n l' W' F' D' P' n') w) := by
  have HB := hide (below_next (below_alloc w (.cells #[.slice sa l.length sc, .slice wa W.length wc, .slice fa F.length fc, .slice ca n cc, .slice ga gn gc, .slice la ln lc] 42)) (below_alloc _ (.cells #[.slice sa' l'.length sc', .slice wa' W'.length wc', .slice fa' F'.length fc', .slice ca' n' cc', .slice ga' gn' gc', .slice la' ln' lc'] 42)))
  have X1 := hide ((Six.new w (.slice sa l.length sc) (.slice wa W.length wc) (.slice fa F.length fc) (.slice ca n cc) (.slice ga gn gc) (.slice la ln lc) 42).below (below_alloc _ (.cells #[.slice sa' l'.length sc', .slice wa' W'.length wc', .slice fa' F'.length fc', .slice ca' n' cc', .slice ga' gn' gc', .slice la' ln' lc'] 42)))
  have X2 := hide (Six.new (w.alloc (.cells #[.slice sa l.length sc, .slice wa W.length wc, .slice fa F.length fc, .slice ca n cc, .slice ga gn gc, .slice la ln lc] 42)) (.slice sa' l'.length sc') (.slice wa' W'.length wc') (.slice fa' F'.length fc') (.slice ca' n' cc') (.slice ga' gn' gc') (.slice la' ln' lc') 42)
  have h1 : (w.alloc (.cells #[.slice sa l.length sc, .slice wa W.length wc, .slice fa F.length fc, .slice ca n cc, .slice ga gn gc, .slice la ln lc] 42)).heap.size = w.heap.size + 1 := by simp
  rw [h1] at X2
  clear h1
  have H1 := hide (fun u (hu : Below w.heap.size w u) => l15Snap_any sa sa' sc sc' l.length l'.length l l' u (h0.below hu) (h0'.below hu) rfl rfl hs hs')
  have H2 := hide (fun u (hu : Below w.heap.size w u) => l15Ints_any fa fa' fc fc' F F' u (h.failed.below hu) (h2.failed.below hu) hF hF')
  have HRW := hide (fun u (hu : Below w.heap.size w u) => And.intro (h.wants.below hu) (h2.wants.below hu))
  have HRC := hide (fun u (hu : Below w.heap.size w u) => And.intro (h.chunks.below hu) (h2.chunks.below hu))
  have HU := hide hU
  have HU' := hide hU'
  clear h h2 hP hP' h0 h0' hs hs' hU hU'
  go_enter Try.func5, Try.ntmps5
  go_wp2_with fail
  generalize (w.alloc (.cells #[.slice sa l.length sc, .slice wa W.length wc, .slice fa F.length fc, .slice ca n cc, .slice ga gn gc, .slice la ln lc] 42)).alloc (.cells #[.slice sa' l'.length sc', .slice wa' W'.length wc', .slice fa' F'.length fc', .slice ca' n' cc', .slice ga' gn' gc', .slice la' ln' lc'] 42) = W0 at *
  generalize w.heap.size + 1 = q at *
  obtain ⟨p, hp⟩ : ∃ p, p = w.heap.size := ⟨_, rfl⟩
  rw [← hp] at X1 ⊢
  have KC : Hid (∀ u : World, Below W0.heap.size W0 u → Six u p (.slice sa l.length sc) (.slice wa W.length wc) (.slice fa F.length fc) (.slice ca n cc) (.slice ga gn gc) (.slice la ln lc) ∧ Six u q (.slice sa' l'.length sc') (.slice wa' W'.length wc') (.slice fa' F'.length fc') (.slice ca' n' cc') (.slice ga' gn' gc') (.slice la' ln' lc')) := hide (fun u hu => ⟨X1.out.below hu, X2.out.below hu⟩)
  clear hp
  by_cases hls : l = l'
  · have HLs := hide hls
    clear hls
    by_cases hwl : W.length = W'.length
    · have hwb : ((W.length : Int) != (W'.length : Int)) = false := by simp [hwl]
      have HWl := hide hwl
      clear hwl
      by_cases hnn : n = n'
      · have hnb : ((n : Int) != (n' : Int)) = false := by simp [hnn]
        have HNn := hide hnn
        clear hnn
        obtain ⟨Z, hZ⟩ : ∃ Z : Bool, Z = (F == F') := ⟨_, rfl⟩
        rw [← hZ] at H2
        have HZ := hide (show Z = true ↔ F = F' from by rw [hZ]; exact ⟨fun e => eq_of_beq e, fun e => by rw [e]; simp⟩)
        clear hZ
        refine wp_region_held_drew (S := fun u : World => Six u p (.slice sa l.length sc) (.slice wa W.length wc) (.slice fa F.length fc) (.slice ca n cc) (.slice ga gn gc) (.slice la ln lc) ∧ Six u q (.slice sa' l'.length sc') (.slice wa' W'.length wc') (.slice fa' F'.length fc') (.slice ca' n' cc') (.slice ga' gn' gc') (.slice la' ln' lc')) (by kernel_rfl) (KC.out _ (Below.refl _ _).drew) (fun hHeld => ?_)
        change wpAnyH _ _ _ _ _ _ (Array.replicate _ false) _ _
        refine tk 0 11 (.pointer (some ⟨p, 0, none⟩)) hHeld rfl (by kernel_rfl) (by kernel_rfl) (by kernel_rfl) (fun _ _ _ h => h) (Or.inl ⟨by rfl, ?_⟩) ?_
        · rintro w ⟨⟨p0, p1, p2, p3, p4, p5⟩, q0, q1, q2, q3, q4, q5⟩
          go_simp <;> (first | done | assumption | omega | exact HWl.out | exact HNn.out | exact congrArg _ HWl.out | exact congrArg _ HNn.out | (intro _; omega))
        try simp only [Act.put, List.setIfInBounds_toArray, List.set_cons_zero, List.set_cons_succ]
        refine tk 1 12 (.slice sa l.length sc) hHeld rfl (by kernel_rfl) (by kernel_rfl) (by kernel_rfl) (fun _ _ _ h => h) (Or.inl ⟨by rfl, ?_⟩) ?_
        · rintro w ⟨⟨p0, p1, p2, p3, p4, p5⟩, q0, q1, q2, q3, q4, q5⟩
          go_simp <;> (first | done | assumption | omega | exact HWl.out | exact HNn.out | exact congrArg _ HWl.out | exact congrArg _ HNn.out | (intro _; omega))
        try simp only [Act.put, List.setIfInBounds_toArray, List.set_cons_zero, List.set_cons_succ]
        refine tk 2 13 (.pointer (some ⟨q, 0, none⟩)) hHeld rfl (by kernel_rfl) (by kernel_rfl) (by kernel_rfl) (fun _ _ _ h => h) (Or.inl ⟨by rfl, ?_⟩) ?_
        · rintro w ⟨⟨p0, p1, p2, p3, p4, p5⟩, q0, q1, q2, q3, q4, q5⟩
          go_simp <;> (first | done | assumption | omega | exact HWl.out | exact HNn.out | exact congrArg _ HWl.out | exact congrArg _ HNn.out | (intro _; omega))
        try simp only [Act.put, List.setIfInBounds_toArray, List.set_cons_zero, List.set_cons_succ]
        refine tk 3 14 (.slice sa' l'.length sc') hHeld rfl (by kernel_rfl) (by kernel_rfl) (by kernel_rfl) (fun _ _ _ h => h) (Or.inl ⟨by rfl, ?_⟩) ?_
        · rintro w ⟨⟨p0, p1, p2, p3, p4, p5⟩, q0, q1, q2, q3, q4, q5⟩
          go_simp <;> (first | done | assumption | omega | exact HWl.out | exact HNn.out | exact congrArg _ HWl.out | exact congrArg _ HNn.out | (intro _; omega))
        try simp only [Act.put, List.setIfInBounds_toArray, List.set_cons_zero, List.set_cons_succ]
        refine wpAnyH_ready (rs := [4]) (by kernel_rfl) (by simp) ?_
        refine AllReadyH.cons rfl (fun K hK => ?_) AllReadyH.nil
        go_simp
        refine (H1.out _ (below_next HB.out (Below.refl _ _).drew)).mono ?_
        rintro r w3 ⟨z, rfl, hz, hb3⟩
        have BB1 := hide ((Below.refl W0.heap.size W0).drew.trans hb3)
        have hzz : z = true := hz.2 HLs.out
        subst hzz
        clear hb3 hz
        go_wp2_with fail
        refine hK.out _ _ (KC.out _ BB1.out) (fun hHeld => ?_)
        clear hK K
        try simp only [Act.put, List.setIfInBounds_toArray, List.set_cons_zero, List.set_cons_succ]
        refine tk 5 16 (.bool false) hHeld rfl (by kernel_rfl) (by kernel_rfl) (by kernel_rfl) (fun _ _ _ h => h) (Or.inl ⟨by rfl, ?_⟩) ?_
        · rintro w ⟨⟨p0, p1, p2, p3, p4, p5⟩, q0, q1, q2, q3, q4, q5⟩
          go_simp <;> (first | done | assumption | omega | exact HWl.out | exact HNn.out | exact congrArg _ HWl.out | exact congrArg _ HNn.out | (intro _; omega))
        try simp only [Act.put, List.setIfInBounds_toArray, List.set_cons_zero, List.set_cons_succ]
        refine tk 6 17 (.bool false) hHeld rfl (by kernel_rfl) (by kernel_rfl) (by kernel_rfl) (fun _ _ _ h => h) (Or.inl ⟨by rfl, ?_⟩) ?_
        · rintro w ⟨⟨p0, p1, p2, p3, p4, p5⟩, q0, q1, q2, q3, q4, q5⟩
          go_simp <;> (first | done | assumption | omega | exact HWl.out | exact HNn.out | exact congrArg _ HWl.out | exact congrArg _ HNn.out | (intro _; omega))
        try simp only [Act.put, List.setIfInBounds_toArray, List.set_cons_zero, List.set_cons_succ]
        refine tk 7 18 (.pointer (some ⟨p, 1, none⟩)) hHeld rfl (by kernel_rfl) (by kernel_rfl) (by kernel_rfl) (fun _ _ _ h => h) (Or.inl ⟨by rfl, ?_⟩) ?_
        · rintro w ⟨⟨p0, p1, p2, p3, p4, p5⟩, q0, q1, q2, q3, q4, q5⟩
          go_simp <;> (first | done | assumption | omega | exact HWl.out | exact HNn.out | exact congrArg _ HWl.out | exact congrArg _ HNn.out | (intro _; omega))
        try simp only [Act.put, List.setIfInBounds_toArray, List.set_cons_zero, List.set_cons_succ]
        refine tk 8 19 (.pointer (some ⟨p, 1, none⟩)) hHeld rfl (by kernel_rfl) (by kernel_rfl) (by kernel_rfl) (fun _ _ _ h => h) (Or.inl ⟨by rfl, ?_⟩) ?_
        · rintro w ⟨⟨p0, p1, p2, p3, p4, p5⟩, q0, q1, q2, q3, q4, q5⟩
          go_simp <;> (first | done | assumption | omega | exact HWl.out | exact HNn.out | exact congrArg _ HWl.out | exact congrArg _ HNn.out | (intro _; omega))
        try simp only [Act.put, List.setIfInBounds_toArray, List.set_cons_zero, List.set_cons_succ]
        refine tk 9 20 (.pointer (some ⟨p, 1, none⟩)) hHeld rfl (by kernel_rfl) (by kernel_rfl) (by kernel_rfl) (fun _ _ _ h => h) (Or.inl ⟨by rfl, ?_⟩) ?_
        · rintro w ⟨⟨p0, p1, p2, p3, p4, p5⟩, q0, q1, q2, q3, q4, q5⟩
          go_simp <;> (first | done | assumption | omega | exact HWl.out | exact HNn.out | exact congrArg _ HWl.out | exact congrArg _ HNn.out | (intro _; omega))
        try simp only [Act.put, List.setIfInBounds_toArray, List.set_cons_zero, List.set_cons_succ]
        refine tk 10 21 (.slice wa W.length wc) hHeld rfl (by kernel_rfl) (by kernel_rfl) (by kernel_rfl) (fun _ _ _ h => h) (Or.inl ⟨by rfl, ?_⟩) ?_
        · rintro w ⟨⟨p0, p1, p2, p3, p4, p5⟩, q0, q1, q2, q3, q4, q5⟩
          go_simp <;> (first | done | assumption | omega | exact HWl.out | exact HNn.out | exact congrArg _ HWl.out | exact congrArg _ HNn.out | (intro _; omega))
        try simp only [Act.put, List.setIfInBounds_toArray, List.set_cons_zero, List.set_cons_succ]
        refine tk 11 22 (.int .i64 (W.length : Nat)) hHeld rfl (by kernel_rfl) (by kernel_rfl) (by kernel_rfl) (fun _ _ _ h => h) (Or.inl ⟨by rfl, ?_⟩) ?_
        · rintro w ⟨⟨p0, p1, p2, p3, p4, p5⟩, q0, q1, q2, q3, q4, q5⟩
          go_simp <;> (first | done | assumption | omega | exact HWl.out | exact HNn.out | exact congrArg _ HWl.out | exact congrArg _ HNn.out | (intro _; omega))
        try simp only [Act.put, List.setIfInBounds_toArray, List.set_cons_zero, List.set_cons_succ]
        refine tk 12 23 (.pointer (some ⟨q, 1, none⟩)) hHeld rfl (by kernel_rfl) (by kernel_rfl) (by kernel_rfl) (fun _ _ _ h => h) (Or.inl ⟨by rfl, ?_⟩) ?_
        · rintro w ⟨⟨p0, p1, p2, p3, p4, p5⟩, q0, q1, q2, q3, q4, q5⟩
          go_simp <;> (first | done | assumption | omega | exact HWl.out | exact HNn.out | exact congrArg _ HWl.out | exact congrArg _ HNn.out | (intro _; omega))
        try simp only [Act.put, List.setIfInBounds_toArray, List.set_cons_zero, List.set_cons_succ]
        refine tk 13 24 (.pointer (some ⟨q, 1, none⟩)) hHeld rfl (by kernel_rfl) (by kernel_rfl) (by kernel_rfl) (fun _ _ _ h => h) (Or.inl ⟨by rfl, ?_⟩) ?_
        · rintro w ⟨⟨p0, p1, p2, p3, p4, p5⟩, q0, q1, q2, q3, q4, q5⟩
          go_simp <;> (first | done | assumption | omega | exact HWl.out | exact HNn.out | exact congrArg _ HWl.out | exact congrArg _ HNn.out | (intro _; omega))
        try simp only [Act.put, List.setIfInBounds_toArray, List.set_cons_zero, List.set_cons_succ]
        refine tk 14 25 (.pointer (some ⟨q, 1, none⟩)) hHeld rfl (by kernel_rfl) (by kernel_rfl) (by kernel_rfl) (fun _ _ _ h => h) (Or.inl ⟨by rfl, ?_⟩) ?_
        · rintro w ⟨⟨p0, p1, p2, p3, p4, p5⟩, q0, q1, q2, q3, q4, q5⟩
          go_simp <;> (first | done | assumption | omega | exact HWl.out | exact HNn.out | exact congrArg _ HWl.out | exact congrArg _ HNn.out | (intro _; omega))
        try simp only [Act.put, List.setIfInBounds_toArray, List.set_cons_zero, List.set_cons_succ]
        refine tk 15 26 (.slice wa' W'.length wc') hHeld rfl (by kernel_rfl) (by kernel_rfl) (by kernel_rfl) (fun _ _ _ h => h) (Or.inl ⟨by rfl, ?_⟩) ?_
        · rintro w ⟨⟨p0, p1, p2, p3, p4, p5⟩, q0, q1, q2, q3, q4, q5⟩
          go_simp <;> (first | done | assumption | omega | exact HWl.out | exact HNn.out | exact congrArg _ HWl.out | exact congrArg _ HNn.out | (intro _; omega))
        try simp only [Act.put, List.setIfInBounds_toArray, List.set_cons_zero, List.set_cons_succ]
        refine tk 16 27 (.int .i64 (W'.length : Nat)) hHeld rfl (by kernel_rfl) (by kernel_rfl) (by kernel_rfl) (fun _ _ _ h => h) (Or.inl ⟨by rfl, ?_⟩) ?_
        · rintro w ⟨⟨p0, p1, p2, p3, p4, p5⟩, q0, q1, q2, q3, q4, q5⟩
          go_simp <;> (first | done | assumption | omega | exact HWl.out | exact HNn.out | exact congrArg _ HWl.out | exact congrArg _ HNn.out | (intro _; omega))
        try simp only [Act.put, List.setIfInBounds_toArray, List.set_cons_zero, List.set_cons_succ]
        refine tk 17 28 (.bool false) hHeld rfl (by kernel_rfl) (by kernel_rfl) (by kernel_rfl) (fun _ _ _ h => h) (Or.inl ⟨by rfl, ?_⟩) ?_
        · rintro w ⟨⟨p0, p1, p2, p3, p4, p5⟩, q0, q1, q2, q3, q4, q5⟩
          go_simp <;> (first | done | assumption | omega | exact HWl.out | exact HNn.out | exact congrArg _ HWl.out | exact congrArg _ HNn.out | (intro _; omega))
        try simp only [Act.put, List.setIfInBounds_toArray, List.set_cons_zero, List.set_cons_succ]
        refine tk 18 29 (.bool false) hHeld rfl (by kernel_rfl) (by kernel_rfl) (by kernel_rfl) (fun _ _ _ h => h) (Or.inl ⟨by rfl, ?_⟩) ?_
        · rintro w ⟨⟨p0, p1, p2, p3, p4, p5⟩, q0, q1, q2, q3, q4, q5⟩
          go_simp <;> (first | done | assumption | omega | exact HWl.out | exact HNn.out | exact congrArg _ HWl.out | exact congrArg _ HNn.out | (intro _; omega))
        try simp only [Act.put, List.setIfInBounds_toArray, List.set_cons_zero, List.set_cons_succ]
        refine tk 19 30 (.bool false) hHeld rfl (by kernel_rfl) (by kernel_rfl) (by kernel_rfl) (fun _ _ _ h => h) (Or.inl ⟨by rfl, ?_⟩) ?_
        · rintro w ⟨⟨p0, p1, p2, p3, p4, p5⟩, q0, q1, q2, q3, q4, q5⟩
          go_simp <;> (first | done | assumption | omega | exact HWl.out | exact HNn.out | exact congrArg _ HWl.out | exact congrArg _ HNn.out | (intro _; omega))
        try simp only [Act.put, List.setIfInBounds_toArray, List.set_cons_zero, List.set_cons_succ]
        refine tk 20 31 (.pointer (some ⟨p, 1, none⟩)) hHeld rfl (by kernel_rfl) (by kernel_rfl) (by kernel_rfl) (fun _ _ _ h => h) (Or.inl ⟨by rfl, ?_⟩) ?_
        · rintro w ⟨⟨p0, p1, p2, p3, p4, p5⟩, q0, q1, q2, q3, q4, q5⟩
          go_simp <;> (first | done | assumption | omega | exact HWl.out | exact HNn.out | exact congrArg _ HWl.out | exact congrArg _ HNn.out | (intro _; omega))
        try simp only [Act.put, List.setIfInBounds_toArray, List.set_cons_zero, List.set_cons_succ]
        refine tk 21 32 (.pointer (some ⟨p, 1, none⟩)) hHeld rfl (by kernel_rfl) (by kernel_rfl) (by kernel_rfl) (fun _ _ _ h => h) (Or.inl ⟨by rfl, ?_⟩) ?_
        · rintro w ⟨⟨p0, p1, p2, p3, p4, p5⟩, q0, q1, q2, q3, q4, q5⟩
          go_simp <;> (first | done | assumption | omega | exact HWl.out | exact HNn.out | exact congrArg _ HWl.out | exact congrArg _ HNn.out | (intro _; omega))
        try simp only [Act.put, List.setIfInBounds_toArray, List.set_cons_zero, List.set_cons_succ]
        refine tk 22 33 (.pointer (some ⟨p, 3, none⟩)) hHeld rfl (by kernel_rfl) (by kernel_rfl) (by kernel_rfl) (fun _ _ _ h => h) (Or.inl ⟨by rfl, ?_⟩) ?_
        · rintro w ⟨⟨p0, p1, p2, p3, p4, p5⟩, q0, q1, q2, q3, q4, q5⟩
          go_simp <;> (first | done | assumption | omega | exact HWl.out | exact HNn.out | exact congrArg _ HWl.out | exact congrArg _ HNn.out | (intro _; omega))
        try simp only [Act.put, List.setIfInBounds_toArray, List.set_cons_zero, List.set_cons_succ]
        refine tk 23 34 (.slice ca n cc) hHeld rfl (by kernel_rfl) (by kernel_rfl) (by kernel_rfl) (fun _ _ _ h => h) (Or.inl ⟨by rfl, ?_⟩) ?_
        · rintro w ⟨⟨p0, p1, p2, p3, p4, p5⟩, q0, q1, q2, q3, q4, q5⟩
          go_simp <;> (first | done | assumption | omega | exact HWl.out | exact HNn.out | exact congrArg _ HWl.out | exact congrArg _ HNn.out | (intro _; omega))
        try simp only [Act.put, List.setIfInBounds_toArray, List.set_cons_zero, List.set_cons_succ]
        refine tk 24 35 (.int .i64 (n : Nat)) hHeld rfl (by kernel_rfl) (by kernel_rfl) (by kernel_rfl) (fun _ _ _ h => h) (Or.inl ⟨by rfl, ?_⟩) ?_
        · rintro w ⟨⟨p0, p1, p2, p3, p4, p5⟩, q0, q1, q2, q3, q4, q5⟩
          go_simp <;> (first | done | assumption | omega | exact HWl.out | exact HNn.out | exact congrArg _ HWl.out | exact congrArg _ HNn.out | (intro _; omega))
        try simp only [Act.put, List.setIfInBounds_toArray, List.set_cons_zero, List.set_cons_succ]
        refine tk 25 36 (.pointer (some ⟨q, 1, none⟩)) hHeld rfl (by kernel_rfl) (by kernel_rfl) (by kernel_rfl) (fun _ _ _ h => h) (Or.inl ⟨by rfl, ?_⟩) ?_
        · rintro w ⟨⟨p0, p1, p2, p3, p4, p5⟩, q0, q1, q2, q3, q4, q5⟩
          go_simp <;> (first | done | assumption | omega | exact HWl.out | exact HNn.out | exact congrArg _ HWl.out | exact congrArg _ HNn.out | (intro _; omega))
        try simp only [Act.put, List.setIfInBounds_toArray, List.set_cons_zero, List.set_cons_succ]
        refine tk 26 37 (.pointer (some ⟨q, 1, none⟩)) hHeld rfl (by kernel_rfl) (by kernel_rfl) (by kernel_rfl) (fun _ _ _ h => h) (Or.inl ⟨by rfl, ?_⟩) ?_
        · rintro w ⟨⟨p0, p1, p2, p3, p4, p5⟩, q0, q1, q2, q3, q4, q5⟩
          go_simp <;> (first | done | assumption | omega | exact HWl.out | exact HNn.out | exact congrArg _ HWl.out | exact congrArg _ HNn.out | (intro _; omega))
        try simp only [Act.put, List.setIfInBounds_toArray, List.set_cons_zero, List.set_cons_succ]
        refine tk 27 38 (.pointer (some ⟨q, 3, none⟩)) hHeld rfl (by kernel_rfl) (by kernel_rfl) (by kernel_rfl) (fun _ _ _ h => h) (Or.inl ⟨by rfl, ?_⟩) ?_
        · rintro w ⟨⟨p0, p1, p2, p3, p4, p5⟩, q0, q1, q2, q3, q4, q5⟩
          go_simp <;> (first | done | assumption | omega | exact HWl.out | exact HNn.out | exact congrArg _ HWl.out | exact congrArg _ HNn.out | (intro _; omega))
        try simp only [Act.put, List.setIfInBounds_toArray, List.set_cons_zero, List.set_cons_succ]
        refine tk 28 39 (.slice ca' n' cc') hHeld rfl (by kernel_rfl) (by kernel_rfl) (by kernel_rfl) (fun _ _ _ h => h) (Or.inl ⟨by rfl, ?_⟩) ?_
        · rintro w ⟨⟨p0, p1, p2, p3, p4, p5⟩, q0, q1, q2, q3, q4, q5⟩
          go_simp <;> (first | done | assumption | omega | exact HWl.out | exact HNn.out | exact congrArg _ HWl.out | exact congrArg _ HNn.out | (intro _; omega))
        try simp only [Act.put, List.setIfInBounds_toArray, List.set_cons_zero, List.set_cons_succ]
        refine tk 29 40 (.int .i64 (n' : Nat)) hHeld rfl (by kernel_rfl) (by kernel_rfl) (by kernel_rfl) (fun _ _ _ h => h) (Or.inl ⟨by rfl, ?_⟩) ?_
        · rintro w ⟨⟨p0, p1, p2, p3, p4, p5⟩, q0, q1, q2, q3, q4, q5⟩
          go_simp <;> (first | done | assumption | omega | exact HWl.out | exact HNn.out | exact congrArg _ HWl.out | exact congrArg _ HNn.out | (intro _; omega))
        try simp only [Act.put, List.setIfInBounds_toArray, List.set_cons_zero, List.set_cons_succ]
        refine tk 30 41 (.bool false) hHeld rfl (by kernel_rfl) (by kernel_rfl) (by kernel_rfl) (fun _ _ _ h => h) (Or.inl ⟨by rfl, ?_⟩) ?_
        · rintro w ⟨⟨p0, p1, p2, p3, p4, p5⟩, q0, q1, q2, q3, q4, q5⟩
          go_simp <;> (first | done | assumption | omega | exact HWl.out | exact HNn.out | exact congrArg _ HWl.out | exact congrArg _ HNn.out | (intro _; omega))
        try simp only [Act.put, List.setIfInBounds_toArray, List.set_cons_zero, List.set_cons_succ]
        refine tk 31 42 (.bool false) hHeld rfl (by kernel_rfl) (by kernel_rfl) (by kernel_rfl) (fun _ _ _ h => h) (Or.inl ⟨by rfl, ?_⟩) ?_
        · rintro w ⟨⟨p0, p1, p2, p3, p4, p5⟩, q0, q1, q2, q3, q4, q5⟩
          go_simp <;> (first | done | assumption | omega | exact HWl.out | exact HNn.out | exact congrArg _ HWl.out | exact congrArg _ HNn.out | (intro _; omega))
        try simp only [Act.put, List.setIfInBounds_toArray, List.set_cons_zero, List.set_cons_succ]
        refine tk 32 43 (.bool false) hHeld rfl (by kernel_rfl) (by kernel_rfl) (by kernel_rfl) (fun _ _ _ h => h) (Or.inl ⟨by rfl, ?_⟩) ?_
        · rintro w ⟨⟨p0, p1, p2, p3, p4, p5⟩, q0, q1, q2, q3, q4, q5⟩
          go_simp <;> (first | done | assumption | omega | exact HWl.out | exact HNn.out | exact congrArg _ HWl.out | exact congrArg _ HNn.out | (intro _; omega))
        try simp only [Act.put, List.setIfInBounds_toArray, List.set_cons_zero, List.set_cons_succ]
        refine tk 33 44 (.pointer (some ⟨p, 1, none⟩)) hHeld rfl (by kernel_rfl) (by kernel_rfl) (by kernel_rfl) (fun _ _ _ h => h) (Or.inl ⟨by rfl, ?_⟩) ?_
        · rintro w ⟨⟨p0, p1, p2, p3, p4, p5⟩, q0, q1, q2, q3, q4, q5⟩
          go_simp <;> (first | done | assumption | omega | exact HWl.out | exact HNn.out | exact congrArg _ HWl.out | exact congrArg _ HNn.out | (intro _; omega))
        try simp only [Act.put, List.setIfInBounds_toArray, List.set_cons_zero, List.set_cons_succ]
        refine tk 34 45 (.pointer (some ⟨p, 1, none⟩)) hHeld rfl (by kernel_rfl) (by kernel_rfl) (by kernel_rfl) (fun _ _ _ h => h) (Or.inl ⟨by rfl, ?_⟩) ?_
        · rintro w ⟨⟨p0, p1, p2, p3, p4, p5⟩, q0, q1, q2, q3, q4, q5⟩
          go_simp <;> (first | done | assumption | omega | exact HWl.out | exact HNn.out | exact congrArg _ HWl.out | exact congrArg _ HNn.out | (intro _; omega))
        try simp only [Act.put, List.setIfInBounds_toArray, List.set_cons_zero, List.set_cons_succ]
        refine tk 35 46 (.pointer (some ⟨p, 2, none⟩)) hHeld rfl (by kernel_rfl) (by kernel_rfl) (by kernel_rfl) (fun _ _ _ h => h) (Or.inl ⟨by rfl, ?_⟩) ?_
        · rintro w ⟨⟨p0, p1, p2, p3, p4, p5⟩, q0, q1, q2, q3, q4, q5⟩
          go_simp <;> (first | done | assumption | omega | exact HWl.out | exact HNn.out | exact congrArg _ HWl.out | exact congrArg _ HNn.out | (intro _; omega))
        try simp only [Act.put, List.setIfInBounds_toArray, List.set_cons_zero, List.set_cons_succ]
        refine tk 36 47 (.slice fa F.length fc) hHeld rfl (by kernel_rfl) (by kernel_rfl) (by kernel_rfl) (fun _ _ _ h => h) (Or.inl ⟨by rfl, ?_⟩) ?_
        · rintro w ⟨⟨p0, p1, p2, p3, p4, p5⟩, q0, q1, q2, q3, q4, q5⟩
          go_simp <;> (first | done | assumption | omega | exact HWl.out | exact HNn.out | exact congrArg _ HWl.out | exact congrArg _ HNn.out | (intro _; omega))
        try simp only [Act.put, List.setIfInBounds_toArray, List.set_cons_zero, List.set_cons_succ]
        refine tk 37 48 (.pointer (some ⟨q, 1, none⟩)) hHeld rfl (by kernel_rfl) (by kernel_rfl) (by kernel_rfl) (fun _ _ _ h => h) (Or.inl ⟨by rfl, ?_⟩) ?_
        · rintro w ⟨⟨p0, p1, p2, p3, p4, p5⟩, q0, q1, q2, q3, q4, q5⟩
          go_simp <;> (first | done | assumption | omega | exact HWl.out | exact HNn.out | exact congrArg _ HWl.out | exact congrArg _ HNn.out | (intro _; omega))
        try simp only [Act.put, List.setIfInBounds_toArray, List.set_cons_zero, List.set_cons_succ]
        refine tk 38 49 (.pointer (some ⟨q, 1, none⟩)) hHeld rfl (by kernel_rfl) (by kernel_rfl) (by kernel_rfl) (fun _ _ _ h => h) (Or.inl ⟨by rfl, ?_⟩) ?_
        · rintro w ⟨⟨p0, p1, p2, p3, p4, p5⟩, q0, q1, q2, q3, q4, q5⟩
          go_simp <;> (first | done | assumption | omega | exact HWl.out | exact HNn.out | exact congrArg _ HWl.out | exact congrArg _ HNn.out | (intro _; omega))
        try simp only [Act.put, List.setIfInBounds_toArray, List.set_cons_zero, List.set_cons_succ]
        refine tk 39 50 (.pointer (some ⟨q, 2, none⟩)) hHeld rfl (by kernel_rfl) (by kernel_rfl) (by kernel_rfl) (fun _ _ _ h => h) (Or.inl ⟨by rfl, ?_⟩) ?_
        · rintro w ⟨⟨p0, p1, p2, p3, p4, p5⟩, q0, q1, q2, q3, q4, q5⟩
          go_simp <;> (first | done | assumption | omega | exact HWl.out | exact HNn.out | exact congrArg _ HWl.out | exact congrArg _ HNn.out | (intro _; omega))
        try simp only [Act.put, List.setIfInBounds_toArray, List.set_cons_zero, List.set_cons_succ]
        refine tk 40 51 (.slice fa' F'.length fc') hHeld rfl (by kernel_rfl) (by kernel_rfl) (by kernel_rfl) (fun _ _ _ h => h) (Or.inl ⟨by rfl, ?_⟩) ?_
        · rintro w ⟨⟨p0, p1, p2, p3, p4, p5⟩, q0, q1, q2, q3, q4, q5⟩
          go_simp <;> (first | done | assumption | omega | exact HWl.out | exact HNn.out | exact congrArg _ HWl.out | exact congrArg _ HNn.out | (intro _; omega))
        try simp only [Act.put, List.setIfInBounds_toArray, List.set_cons_zero, List.set_cons_succ]
        refine wpAnyH_ready (rs := [41]) (by kernel_rfl) (by simp) ?_
        refine AllReadyH.cons rfl (fun K hK => ?_) AllReadyH.nil
        go_simp
        refine (H2.out _ (below_next HB.out BB1.out)).mono ?_
        rintro r w4 ⟨rfl, dn, rfl⟩
        have BB2 := hide (below_drewN BB1.out dn)
        go_wp2_with fail
        refine hK.out _ _ (KC.out _ BB2.out) (fun hHeld => ?_)
        clear hK K
        try simp only [Act.put, List.setIfInBounds_toArray, List.set_cons_zero, List.set_cons_succ]
        refine tk 42 53 (.bool (!Z)) hHeld rfl (by kernel_rfl) (by kernel_rfl) (by kernel_rfl) (fun _ _ _ h => h) (Or.inl ⟨by rfl, ?_⟩) ?_
        · rintro w ⟨⟨p0, p1, p2, p3, p4, p5⟩, q0, q1, q2, q3, q4, q5⟩
          go_simp <;> (first | done | assumption | omega | exact HWl.out | exact HNn.out | exact congrArg _ HWl.out | exact congrArg _ HNn.out | (intro _; omega))
        try simp only [Act.put, List.setIfInBounds_toArray, List.set_cons_zero, List.set_cons_succ]
        refine tk 43 54 (.bool (!Z)) hHeld rfl (by kernel_rfl) (by kernel_rfl) (by kernel_rfl) (fun _ _ _ h => h) (Or.inl ⟨by rfl, ?_⟩) ?_
        · rintro w ⟨⟨p0, p1, p2, p3, p4, p5⟩, q0, q1, q2, q3, q4, q5⟩
          go_simp <;> (first | done | assumption | omega | exact HWl.out | exact HNn.out | exact congrArg _ HWl.out | exact congrArg _ HNn.out | (intro _; omega))
        try simp only [Act.put, List.setIfInBounds_toArray, List.set_cons_zero, List.set_cons_succ]
        refine wpAnyH_done (by kernel_rfl) ?_ _
        generalize w3.drewN dn = w5 at *
        cases Z with
        | false =>
          have HX := hide (show false = true ↔ SameX l W F D P n l' W' F' D' P' n' from ⟨fun e => Bool.noConfusion e, fun e => HZ.out.2 e.2.2.1⟩)
          go_wp2_with fail
          go_ret
          exact ⟨_, rfl, HX.out, below_next HB.out BB2.out⟩
        | true =>
          have HFe := hide (HZ.out.1 rfl)
          clear hwb hnb BB1
          go_wp2_with fail
          go_loopw [7] (fun v7 wx => ∃ k : Nat, k ≤ W.length ∧ v7 = .int .i64 k ∧ Hid (W.take k = W'.take k) ∧ Hid (Below W0.heap.size W0 wx)) (fun v7 _ => W.length - (intOf v7).toNat)
          case atStart => exact ⟨0, Nat.zero_le _, rfl, hide rfl, BB2⟩
          case round =>
            clear BB2
            obtain ⟨k, hk, rfl, HT, HV⟩ := hrel
            have BV := hide (below_next HB.out HV.out)
            by_cases hlt : k < W.length
            · have hk2 : k < W'.length := by have := HWl.out; omega
              have hki : (k : Int) < (W.length : Int) := by omega
              have hki2 : (k : Int) < (W'.length : Int) := by omega
              have hk0 : ¬ (k : Int) < 0 := by omega
              obtain ⟨b1, o1, rfl, hb1, hc1⟩ := (HRW.out _ BV.out).1 (by intro e; simp [e] at hlt)
              obtain ⟨b2, o2, rfl, hb2, hc2⟩ := (HRW.out _ BV.out).2 (by intro e; rw [e] at hk2; simp at hk2)
              obtain ⟨x0, x1, hx⟩ : ∃ x0 x1, (x0, x1) = W.getD k (0, 0) := ⟨_, _, rfl⟩
              obtain ⟨y0, y1, hy⟩ : ∃ y0 y1, (y0, y1) = W'.getD k (0, 0) := ⟨_, _, rfl⟩
              have c1 : wr.cell? ⟨b1, o1 + k * 2, none⟩ = some (.int .i64 x0) := by have := (hc1 k hlt).1; rw [← hx] at this; exact this
              have d1 : wr.cell? ⟨b1, o1 + k * 2 + 1, none⟩ = some (.int .i64 x1) := by have := (hc1 k hlt).2; rw [← hx] at this; exact this
              have c2 : wr.cell? ⟨b2, o2 + k * 2, none⟩ = some (.int .i64 y0) := by have := (hc2 k hk2).1; rw [← hy] at this; exact this
              have d2 : wr.cell? ⟨b2, o2 + k * 2 + 1, none⟩ = some (.int .i64 y1) := by have := (hc2 k hk2).2; rw [← hy] at this; exact this
              have HX := hide hx
              have HY := hide hy
              have KS : Hid (∀ u : World, Below wr.heap.size wr u → (u.cell? ⟨p, 1, none⟩ = some (.slice (some ⟨b1, o1, none⟩) W.length wc) ∧ u.cell? ⟨q, 1, none⟩ = some (.slice (some ⟨b2, o2, none⟩) W'.length wc')) ∧ (u.cell? ⟨b1, o1 + k * 2, none⟩ = some (.int .i64 x0) ∧ u.cell? ⟨b1, o1 + k * 2 + 1, none⟩ = some (.int .i64 x1)) ∧ u.cell? ⟨b2, o2 + k * 2, none⟩ = some (.int .i64 y0) ∧ u.cell? ⟨b2, o2 + k * 2 + 1, none⟩ = some (.int .i64 y1)) := hide (fun u hu => ⟨⟨(X1.out.below (below_next HV.out hu)).2.1, (X2.out.below (below_next HV.out hu)).2.1⟩, ⟨(hu.cell (p := ⟨b1, o1 + k * 2, none⟩) hb1).trans c1, (hu.cell (p := ⟨b1, o1 + k * 2 + 1, none⟩) hb1).trans d1⟩, (hu.cell (p := ⟨b2, o2 + k * 2, none⟩) hb2).trans c2, (hu.cell (p := ⟨b2, o2 + k * 2 + 1, none⟩) hb2).trans d2⟩)
              obtain ⟨⟨m0, m1⟩, -, -, -⟩ := KS.out wr (Below.refl _ _)
              clear hc1 hc2 hx hy c1 d1 c2 d2
              by_cases h0 : x0 = y0
              · have e0 : (x0 == y0) = true := by simp [h0]
                by_cases h1 : x1 = y1
                · have e1 : (x1 == y1) = true := by simp [h1]
                  have HE := hide (show (x0, x1) = (y0, y1) by rw [h0, h1])
                  clear h0 h1
                  go_wp2_with fail
                  clear m0 m1
                  refine wp_region_held_drew (S := fun u : World => (u.cell? ⟨p, 1, none⟩ = some (.slice (some ⟨b1, o1, none⟩) W.length wc) ∧ u.cell? ⟨q, 1, none⟩ = some (.slice (some ⟨b2, o2, none⟩) W'.length wc')) ∧ (u.cell? ⟨b1, o1 + k * 2, none⟩ = some (.int .i64 x0) ∧ u.cell? ⟨b1, o1 + k * 2 + 1, none⟩ = some (.int .i64 x1)) ∧ u.cell? ⟨b2, o2 + k * 2, none⟩ = some (.int .i64 y0) ∧ u.cell? ⟨b2, o2 + k * 2 + 1, none⟩ = some (.int .i64 y1)) (by kernel_rfl) (KS.out _ (Below.refl _ _).drew) (fun hHeld => ?_)
                  change wpAnyH _ _ _ _ _ _ (Array.replicate _ false) _ _
                  refine tk 0 64 (.pointer (some ⟨p, 1, none⟩)) hHeld rfl (by kernel_rfl) (by kernel_rfl) (by kernel_rfl) (fun _ _ _ h => h) (Or.inl ⟨by rfl, ?_⟩) ?_
                  · rintro w ⟨⟨m0, m1⟩, ⟨c1, d1⟩, c2, d2⟩
                    go_simp <;> (first | done | assumption | omega | (intro _; omega))
                  try simp only [Act.put, List.setIfInBounds_toArray, List.set_cons_zero, List.set_cons_succ]
                  refine tk 1 65 (.pointer (some ⟨p, 1, none⟩)) hHeld rfl (by kernel_rfl) (by kernel_rfl) (by kernel_rfl) (fun _ _ _ h => h) (Or.inl ⟨by rfl, ?_⟩) ?_
                  · rintro w ⟨⟨m0, m1⟩, ⟨c1, d1⟩, c2, d2⟩
                    go_simp <;> (first | done | assumption | omega | (intro _; omega))
                  try simp only [Act.put, List.setIfInBounds_toArray, List.set_cons_zero, List.set_cons_succ]
                  refine tk 2 66 (.pointer (some ⟨p, 1, none⟩)) hHeld rfl (by kernel_rfl) (by kernel_rfl) (by kernel_rfl) (fun _ _ _ h => h) (Or.inl ⟨by rfl, ?_⟩) ?_
                  · rintro w ⟨⟨m0, m1⟩, ⟨c1, d1⟩, c2, d2⟩
                    go_simp <;> (first | done | assumption | omega | (intro _; omega))
                  try simp only [Act.put, List.setIfInBounds_toArray, List.set_cons_zero, List.set_cons_succ]
                  refine tk 3 67 (.slice (some ⟨b1, o1, none⟩) W.length wc) hHeld rfl (by kernel_rfl) (by kernel_rfl) (by kernel_rfl) (fun _ _ _ h => h) (Or.inl ⟨by rfl, ?_⟩) ?_
                  · rintro w ⟨⟨m0, m1⟩, ⟨c1, d1⟩, c2, d2⟩
                    go_simp <;> (first | done | assumption | omega | (intro _; omega))
                  try simp only [Act.put, List.setIfInBounds_toArray, List.set_cons_zero, List.set_cons_succ]
                  refine tk 4 68 (.int .i64 k) hHeld rfl (by kernel_rfl) (by kernel_rfl) (by kernel_rfl) (fun _ _ _ h => h) (Or.inl ⟨by rfl, ?_⟩) ?_
                  · rintro w ⟨⟨m0, m1⟩, ⟨c1, d1⟩, c2, d2⟩
                    go_simp <;> (first | done | assumption | omega | (intro _; omega))
                  try simp only [Act.put, List.setIfInBounds_toArray, List.set_cons_zero, List.set_cons_succ]
                  refine tk 5 69 (.pointer (some ⟨b1, o1 + k * 2, none⟩)) hHeld rfl (by kernel_rfl) (by kernel_rfl) (by kernel_rfl) (fun _ _ _ h => h) (Or.inl ⟨by rfl, ?_⟩) ?_
                  · rintro w ⟨⟨m0, m1⟩, ⟨c1, d1⟩, c2, d2⟩
                    go_simp <;> (first | done | assumption | omega | (intro _; omega))
                  try simp only [Act.put, List.setIfInBounds_toArray, List.set_cons_zero, List.set_cons_succ]
                  refine tk 6 70 (.agg #[.int .i64 x0, .int .i64 x1]) hHeld rfl (by kernel_rfl) (by kernel_rfl) (by kernel_rfl) (fun _ _ _ h => h) (Or.inl ⟨by rfl, ?_⟩) ?_
                  · rintro w ⟨⟨m0, m1⟩, ⟨c1, d1⟩, c2, d2⟩
                    go_simp <;> (first | done | assumption | omega | (intro _; omega))
                  try simp only [Act.put, List.setIfInBounds_toArray, List.set_cons_zero, List.set_cons_succ]
                  refine tk 7 71 (.pointer (some ⟨q, 1, none⟩)) hHeld rfl (by kernel_rfl) (by kernel_rfl) (by kernel_rfl) (fun _ _ _ h => h) (Or.inl ⟨by rfl, ?_⟩) ?_
                  · rintro w ⟨⟨m0, m1⟩, ⟨c1, d1⟩, c2, d2⟩
                    go_simp <;> (first | done | assumption | omega | (intro _; omega))
                  try simp only [Act.put, List.setIfInBounds_toArray, List.set_cons_zero, List.set_cons_succ]
                  refine tk 8 72 (.pointer (some ⟨q, 1, none⟩)) hHeld rfl (by kernel_rfl) (by kernel_rfl) (by kernel_rfl) (fun _ _ _ h => h) (Or.inl ⟨by rfl, ?_⟩) ?_
                  · rintro w ⟨⟨m0, m1⟩, ⟨c1, d1⟩, c2, d2⟩
                    go_simp <;> (first | done | assumption | omega | (intro _; omega))
                  try simp only [Act.put, List.setIfInBounds_toArray, List.set_cons_zero, List.set_cons_succ]
                  refine tk 9 73 (.pointer (some ⟨q, 1, none⟩)) hHeld rfl (by kernel_rfl) (by kernel_rfl) (by kernel_rfl) (fun _ _ _ h => h) (Or.inl ⟨by rfl, ?_⟩) ?_
                  · rintro w ⟨⟨m0, m1⟩, ⟨c1, d1⟩, c2, d2⟩
                    go_simp <;> (first | done | assumption | omega | (intro _; omega))
                  try simp only [Act.put, List.setIfInBounds_toArray, List.set_cons_zero, List.set_cons_succ]
                  refine tk 10 74 (.slice (some ⟨b2, o2, none⟩) W'.length wc') hHeld rfl (by kernel_rfl) (by kernel_rfl) (by kernel_rfl) (fun _ _ _ h => h) (Or.inl ⟨by rfl, ?_⟩) ?_
                  · rintro w ⟨⟨m0, m1⟩, ⟨c1, d1⟩, c2, d2⟩
                    go_simp <;> (first | done | assumption | omega | (intro _; omega))
                  try simp only [Act.put, List.setIfInBounds_toArray, List.set_cons_zero, List.set_cons_succ]
                  refine tk 11 75 (.int .i64 k) hHeld rfl (by kernel_rfl) (by kernel_rfl) (by kernel_rfl) (fun _ _ _ h => h) (Or.inl ⟨by rfl, ?_⟩) ?_
                  · rintro w ⟨⟨m0, m1⟩, ⟨c1, d1⟩, c2, d2⟩
                    go_simp <;> (first | done | assumption | omega | (intro _; omega))
                  try simp only [Act.put, List.setIfInBounds_toArray, List.set_cons_zero, List.set_cons_succ]
                  refine tk 12 76 (.pointer (some ⟨b2, o2 + k * 2, none⟩)) hHeld rfl (by kernel_rfl) (by kernel_rfl) (by kernel_rfl) (fun _ _ _ h => h) (Or.inl ⟨by rfl, ?_⟩) ?_
                  · rintro w ⟨⟨m0, m1⟩, ⟨c1, d1⟩, c2, d2⟩
                    go_simp <;> (first | done | assumption | omega | (intro _; omega))
                  try simp only [Act.put, List.setIfInBounds_toArray, List.set_cons_zero, List.set_cons_succ]
                  refine tk 13 77 (.agg #[.int .i64 y0, .int .i64 y1]) hHeld rfl (by kernel_rfl) (by kernel_rfl) (by kernel_rfl) (fun _ _ _ h => h) (Or.inl ⟨by rfl, ?_⟩) ?_
                  · rintro w ⟨⟨m0, m1⟩, ⟨c1, d1⟩, c2, d2⟩
                    go_simp <;> (first | done | assumption | omega | (intro _; omega))
                  try simp only [Act.put, List.setIfInBounds_toArray, List.set_cons_zero, List.set_cons_succ]
                  refine tk 14 78 (.bool false) hHeld rfl (by kernel_rfl) (by kernel_rfl) (by kernel_rfl) (fun _ _ _ h => h) (Or.inl ⟨by rfl, ?_⟩) ?_
                  · rintro w ⟨⟨m0, m1⟩, ⟨c1, d1⟩, c2, d2⟩
                    go_simp <;> (first | done | assumption | omega | (intro _; omega))
                  try simp only [Act.put, List.setIfInBounds_toArray, List.set_cons_zero, List.set_cons_succ]
                  refine wpAnyH_done (by kernel_rfl) ?_ _
                  go_wp2_with fail
                  go_roundw
                  case rel => exact ⟨k + 1, by omega, by go_num, hide (take_eqW hlt hk2 HT.out (by rw [← HX.out, ← HY.out]; exact HE.out)), hide (below_next HV.out (Below.refl _ _).drew)⟩
                  case measure => simp [intOf]; omega
                · have e1 : (x1 == y1) = false := by simp [h1]
                  have HE := hide (show false = true ↔ SameX l W F D P n l' W' F' D' P' n' from ⟨fun e => Bool.noConfusion e, fun e => by rw [e.2.1, ← HY.out] at HX; exact absurd (congrArg Prod.snd HX.out) h1⟩)
                  clear h0 h1
                  go_wp2_with fail
                  clear m0 m1
                  refine wp_region_held_drew (S := fun u : World => (u.cell? ⟨p, 1, none⟩ = some (.slice (some ⟨b1, o1, none⟩) W.length wc) ∧ u.cell? ⟨q, 1, none⟩ = some (.slice (some ⟨b2, o2, none⟩) W'.length wc')) ∧ (u.cell? ⟨b1, o1 + k * 2, none⟩ = some (.int .i64 x0) ∧ u.cell? ⟨b1, o1 + k * 2 + 1, none⟩ = some (.int .i64 x1)) ∧ u.cell? ⟨b2, o2 + k * 2, none⟩ = some (.int .i64 y0) ∧ u.cell? ⟨b2, o2 + k * 2 + 1, none⟩ = some (.int .i64 y1)) (by kernel_rfl) (KS.out _ (Below.refl _ _).drew) (fun hHeld => ?_)
                  change wpAnyH _ _ _ _ _ _ (Array.replicate _ false) _ _
                  refine tk 0 64 (.pointer (some ⟨p, 1, none⟩)) hHeld rfl (by kernel_rfl) (by kernel_rfl) (by kernel_rfl) (fun _ _ _ h => h) (Or.inl ⟨by rfl, ?_⟩) ?_
                  · rintro w ⟨⟨m0, m1⟩, ⟨c1, d1⟩, c2, d2⟩
                    go_simp <;> (first | done | assumption | omega | (intro _; omega))
                  try simp only [Act.put, List.setIfInBounds_toArray, List.set_cons_zero, List.set_cons_succ]
                  refine tk 1 65 (.pointer (some ⟨p, 1, none⟩)) hHeld rfl (by kernel_rfl) (by kernel_rfl) (by kernel_rfl) (fun _ _ _ h => h) (Or.inl ⟨by rfl, ?_⟩) ?_
                  · rintro w ⟨⟨m0, m1⟩, ⟨c1, d1⟩, c2, d2⟩
                    go_simp <;> (first | done | assumption | omega | (intro _; omega))
                  try simp only [Act.put, List.setIfInBounds_toArray, List.set_cons_zero, List.set_cons_succ]
                  refine tk 2 66 (.pointer (some ⟨p, 1, none⟩)) hHeld rfl (by kernel_rfl) (by kernel_rfl) (by kernel_rfl) (fun _ _ _ h => h) (Or.inl ⟨by rfl, ?_⟩) ?_
                  · rintro w ⟨⟨m0, m1⟩, ⟨c1, d1⟩, c2, d2⟩
                    go_simp <;> (first | done | assumption | omega | (intro _; omega))
                  try simp only [Act.put, List.setIfInBounds_toArray, List.set_cons_zero, List.set_cons_succ]
                  refine tk 3 67 (.slice (some ⟨b1, o1, none⟩) W.length wc) hHeld rfl (by kernel_rfl) (by kernel_rfl) (by kernel_rfl) (fun _ _ _ h => h) (Or.inl ⟨by rfl, ?_⟩) ?_
                  · rintro w ⟨⟨m0, m1⟩, ⟨c1, d1⟩, c2, d2⟩
                    go_simp <;> (first | done | assumption | omega | (intro _; omega))
                  try simp only [Act.put, List.setIfInBounds_toArray, List.set_cons_zero, List.set_cons_succ]
                  refine tk 4 68 (.int .i64 k) hHeld rfl (by kernel_rfl) (by kernel_rfl) (by kernel_rfl) (fun _ _ _ h => h) (Or.inl ⟨by rfl, ?_⟩) ?_
                  · rintro w ⟨⟨m0, m1⟩, ⟨c1, d1⟩, c2, d2⟩
                    go_simp <;> (first | done | assumption | omega | (intro _; omega))
                  try simp only [Act.put, List.setIfInBounds_toArray, List.set_cons_zero, List.set_cons_succ]
                  refine tk 5 69 (.pointer (some ⟨b1, o1 + k * 2, none⟩)) hHeld rfl (by kernel_rfl) (by kernel_rfl) (by kernel_rfl) (fun _ _ _ h => h) (Or.inl ⟨by rfl, ?_⟩) ?_
                  · rintro w ⟨⟨m0, m1⟩, ⟨c1, d1⟩, c2, d2⟩
                    go_simp <;> (first | done | assumption | omega | (intro _; omega))
                  try simp only [Act.put, List.setIfInBounds_toArray, List.set_cons_zero, List.set_cons_succ]
                  refine tk 6 70 (.agg #[.int .i64 x0, .int .i64 x1]) hHeld rfl (by kernel_rfl) (by kernel_rfl) (by kernel_rfl) (fun _ _ _ h => h) (Or.inl ⟨by rfl, ?_⟩) ?_
                  · rintro w ⟨⟨m0, m1⟩, ⟨c1, d1⟩, c2, d2⟩
                    go_simp <;> (first | done | assumption | omega | (intro _; omega))
                  try simp only [Act.put, List.setIfInBounds_toArray, List.set_cons_zero, List.set_cons_succ]
                  refine tk 7 71 (.pointer (some ⟨q, 1, none⟩)) hHeld rfl (by kernel_rfl) (by kernel_rfl) (by kernel_rfl) (fun _ _ _ h => h) (Or.inl ⟨by rfl, ?_⟩) ?_
                  · rintro w ⟨⟨m0, m1⟩, ⟨c1, d1⟩, c2, d2⟩
                    go_simp <;> (first | done | assumption | omega | (intro _; omega))
                  try simp only [Act.put, List.setIfInBounds_toArray, List.set_cons_zero, List.set_cons_succ]
                  refine tk 8 72 (.pointer (some ⟨q, 1, none⟩)) hHeld rfl (by kernel_rfl) (by kernel_rfl) (by kernel_rfl) (fun _ _ _ h => h) (Or.inl ⟨by rfl, ?_⟩) ?_
                  · rintro w ⟨⟨m0, m1⟩, ⟨c1, d1⟩, c2, d2⟩
                    go_simp <;> (first | done | assumption | omega | (intro _; omega))
                  try simp only [Act.put, List.setIfInBounds_toArray, List.set_cons_zero, List.set_cons_succ]
                  refine tk 9 73 (.pointer (some ⟨q, 1, none⟩)) hHeld rfl (by kernel_rfl) (by kernel_rfl) (by kernel_rfl) (fun _ _ _ h => h) (Or.inl ⟨by rfl, ?_⟩) ?_
                  · rintro w ⟨⟨m0, m1⟩, ⟨c1, d1⟩, c2, d2⟩
                    go_simp <;> (first | done | assumption | omega | (intro _; omega))
                  try simp only [Act.put, List.setIfInBounds_toArray, List.set_cons_zero, List.set_cons_succ]
                  refine tk 10 74 (.slice (some ⟨b2, o2, none⟩) W'.length wc') hHeld rfl (by kernel_rfl) (by kernel_rfl) (by kernel_rfl) (fun _ _ _ h => h) (Or.inl ⟨by rfl, ?_⟩) ?_
                  · rintro w ⟨⟨m0, m1⟩, ⟨c1, d1⟩, c2, d2⟩
                    go_simp <;> (first | done | assumption | omega | (intro _; omega))
                  try simp only [Act.put, List.setIfInBounds_toArray, List.set_cons_zero, List.set_cons_succ]
                  refine tk 11 75 (.int .i64 k) hHeld rfl (by kernel_rfl) (by kernel_rfl) (by kernel_rfl) (fun _ _ _ h => h) (Or.inl ⟨by rfl, ?_⟩) ?_
                  · rintro w ⟨⟨m0, m1⟩, ⟨c1, d1⟩, c2, d2⟩
                    go_simp <;> (first | done | assumption | omega | (intro _; omega))
                  try simp only [Act.put, List.setIfInBounds_toArray, List.set_cons_zero, List.set_cons_succ]
                  refine tk 12 76 (.pointer (some ⟨b2, o2 + k * 2, none⟩)) hHeld rfl (by kernel_rfl) (by kernel_rfl) (by kernel_rfl) (fun _ _ _ h => h) (Or.inl ⟨by rfl, ?_⟩) ?_
                  · rintro w ⟨⟨m0, m1⟩, ⟨c1, d1⟩, c2, d2⟩
                    go_simp <;> (first | done | assumption | omega | (intro _; omega))
                  try simp only [Act.put, List.setIfInBounds_toArray, List.set_cons_zero, List.set_cons_succ]
                  refine tk 13 77 (.agg #[.int .i64 y0, .int .i64 y1]) hHeld rfl (by kernel_rfl) (by kernel_rfl) (by kernel_rfl) (fun _ _ _ h => h) (Or.inl ⟨by rfl, ?_⟩) ?_
                  · rintro w ⟨⟨m0, m1⟩, ⟨c1, d1⟩, c2, d2⟩
                    go_simp <;> (first | done | assumption | omega | (intro _; omega))
                  try simp only [Act.put, List.setIfInBounds_toArray, List.set_cons_zero, List.set_cons_succ]
                  refine tk 14 78 (.bool true) hHeld rfl (by kernel_rfl) (by kernel_rfl) (by kernel_rfl) (fun _ _ _ h => h) (Or.inl ⟨by rfl, ?_⟩) ?_
                  · rintro w ⟨⟨m0, m1⟩, ⟨c1, d1⟩, c2, d2⟩
                    go_simp <;> (first | done | assumption | omega | (intro _; omega))
                  try simp only [Act.put, List.setIfInBounds_toArray, List.set_cons_zero, List.set_cons_succ]
                  refine wpAnyH_done (by kernel_rfl) ?_ _
                  go_wp2_with fail
                  go_ret
                  exact ⟨_, rfl, HE.out, below_next BV.out (Below.refl _ _).drew⟩
              · have e0 : (x0 == y0) = false := by simp [h0]
                have HE := hide (show false = true ↔ SameX l W F D P n l' W' F' D' P' n' from ⟨fun e => Bool.noConfusion e, fun e => by rw [e.2.1, ← HY.out] at HX; exact absurd (congrArg Prod.fst HX.out) h0⟩)
                clear h0
                go_wp2_with fail
                clear m0 m1
                refine wp_region_held_drew (S := fun u : World => (u.cell? ⟨p, 1, none⟩ = some (.slice (some ⟨b1, o1, none⟩) W.length wc) ∧ u.cell? ⟨q, 1, none⟩ = some (.slice (some ⟨b2, o2, none⟩) W'.length wc')) ∧ (u.cell? ⟨b1, o1 + k * 2, none⟩ = some (.int .i64 x0) ∧ u.cell? ⟨b1, o1 + k * 2 + 1, none⟩ = some (.int .i64 x1)) ∧ u.cell? ⟨b2, o2 + k * 2, none⟩ = some (.int .i64 y0) ∧ u.cell? ⟨b2, o2 + k * 2 + 1, none⟩ = some (.int .i64 y1)) (by kernel_rfl) (KS.out _ (Below.refl _ _).drew) (fun hHeld => ?_)
                change wpAnyH _ _ _ _ _ _ (Array.replicate _ false) _ _
                refine tk 0 64 (.pointer (some ⟨p, 1, none⟩)) hHeld rfl (by kernel_rfl) (by kernel_rfl) (by kernel_rfl) (fun _ _ _ h => h) (Or.inl ⟨by rfl, ?_⟩) ?_
                · rintro w ⟨⟨m0, m1⟩, ⟨c1, d1⟩, c2, d2⟩
                  go_simp <;> (first | done | assumption | omega | (intro _; omega))
                try simp only [Act.put, List.setIfInBounds_toArray, List.set_cons_zero, List.set_cons_succ]
                refine tk 1 65 (.pointer (some ⟨p, 1, none⟩)) hHeld rfl (by kernel_rfl) (by kernel_rfl) (by kernel_rfl) (fun _ _ _ h => h) (Or.inl ⟨by rfl, ?_⟩) ?_
                · rintro w ⟨⟨m0, m1⟩, ⟨c1, d1⟩, c2, d2⟩
                  go_simp <;> (first | done | assumption | omega | (intro _; omega))
                try simp only [Act.put, List.setIfInBounds_toArray, List.set_cons_zero, List.set_cons_succ]
                refine tk 2 66 (.pointer (some ⟨p, 1, none⟩)) hHeld rfl (by kernel_rfl) (by kernel_rfl) (by kernel_rfl) (fun _ _ _ h => h) (Or.inl ⟨by rfl, ?_⟩) ?_
                · rintro w ⟨⟨m0, m1⟩, ⟨c1, d1⟩, c2, d2⟩
                  go_simp <;> (first | done | assumption | omega | (intro _; omega))
                try simp only [Act.put, List.setIfInBounds_toArray, List.set_cons_zero, List.set_cons_succ]
                refine tk 3 67 (.slice (some ⟨b1, o1, none⟩) W.length wc) hHeld rfl (by kernel_rfl) (by kernel_rfl) (by kernel_rfl) (fun _ _ _ h => h) (Or.inl ⟨by rfl, ?_⟩) ?_
                · rintro w ⟨⟨m0, m1⟩, ⟨c1, d1⟩, c2, d2⟩
                  go_simp <;> (first | done | assumption | omega | (intro _; omega))
                try simp only [Act.put, List.setIfInBounds_toArray, List.set_cons_zero, List.set_cons_succ]
                refine tk 4 68 (.int .i64 k) hHeld rfl (by kernel_rfl) (by kernel_rfl) (by kernel_rfl) (fun _ _ _ h => h) (Or.inl ⟨by rfl, ?_⟩) ?_
                · rintro w ⟨⟨m0, m1⟩, ⟨c1, d1⟩, c2, d2⟩
                  go_simp <;> (first | done | assumption | omega | (intro _; omega))
                try simp only [Act.put, List.setIfInBounds_toArray, List.set_cons_zero, List.set_cons_succ]
                refine tk 5 69 (.pointer (some ⟨b1, o1 + k * 2, none⟩)) hHeld rfl (by kernel_rfl) (by kernel_rfl) (by kernel_rfl) (fun _ _ _ h => h) (Or.inl ⟨by rfl, ?_⟩) ?_
                · rintro w ⟨⟨m0, m1⟩, ⟨c1, d1⟩, c2, d2⟩
                  go_simp <;> (first | done | assumption | omega | (intro _; omega))
                try simp only [Act.put, List.setIfInBounds_toArray, List.set_cons_zero, List.set_cons_succ]
                refine tk 6 70 (.agg #[.int .i64 x0, .int .i64 x1]) hHeld rfl (by kernel_rfl) (by kernel_rfl) (by kernel_rfl) (fun _ _ _ h => h) (Or.inl ⟨by rfl, ?_⟩) ?_
                · rintro w ⟨⟨m0, m1⟩, ⟨c1, d1⟩, c2, d2⟩
                  go_simp <;> (first | done | assumption | omega | (intro _; omega))
                try simp only [Act.put, List.setIfInBounds_toArray, List.set_cons_zero, List.set_cons_succ]
                refine tk 7 71 (.pointer (some ⟨q, 1, none⟩)) hHeld rfl (by kernel_rfl) (by kernel_rfl) (by kernel_rfl) (fun _ _ _ h => h) (Or.inl ⟨by rfl, ?_⟩) ?_
                · rintro w ⟨⟨m0, m1⟩, ⟨c1, d1⟩, c2, d2⟩
                  go_simp <;> (first | done | assumption | omega | (intro _; omega))
                try simp only [Act.put, List.setIfInBounds_toArray, List.set_cons_zero, List.set_cons_succ]
                refine tk 8 72 (.pointer (some ⟨q, 1, none⟩)) hHeld rfl (by kernel_rfl) (by kernel_rfl) (by kernel_rfl) (fun _ _ _ h => h) (Or.inl ⟨by rfl, ?_⟩) ?_
                · rintro w ⟨⟨m0, m1⟩, ⟨c1, d1⟩, c2, d2⟩
                  go_simp <;> (first | done | assumption | omega | (intro _; omega))
                try simp only [Act.put, List.setIfInBounds_toArray, List.set_cons_zero, List.set_cons_succ]
                refine tk 9 73 (.pointer (some ⟨q, 1, none⟩)) hHeld rfl (by kernel_rfl) (by kernel_rfl) (by kernel_rfl) (fun _ _ _ h => h) (Or.inl ⟨by rfl, ?_⟩) ?_
                · rintro w ⟨⟨m0, m1⟩, ⟨c1, d1⟩, c2, d2⟩
                  go_simp <;> (first | done | assumption | omega | (intro _; omega))
                try simp only [Act.put, List.setIfInBounds_toArray, List.set_cons_zero, List.set_cons_succ]
                refine tk 10 74 (.slice (some ⟨b2, o2, none⟩) W'.length wc') hHeld rfl (by kernel_rfl) (by kernel_rfl) (by kernel_rfl) (fun _ _ _ h => h) (Or.inl ⟨by rfl, ?_⟩) ?_
                · rintro w ⟨⟨m0, m1⟩, ⟨c1, d1⟩, c2, d2⟩
                  go_simp <;> (first | done | assumption | omega | (intro _; omega))
                try simp only [Act.put, List.setIfInBounds_toArray, List.set_cons_zero, List.set_cons_succ]
                refine tk 11 75 (.int .i64 k) hHeld rfl (by kernel_rfl) (by kernel_rfl) (by kernel_rfl) (fun _ _ _ h => h) (Or.inl ⟨by rfl, ?_⟩) ?_
                · rintro w ⟨⟨m0, m1⟩, ⟨c1, d1⟩, c2, d2⟩
                  go_simp <;> (first | done | assumption | omega | (intro _; omega))
                try simp only [Act.put, List.setIfInBounds_toArray, List.set_cons_zero, List.set_cons_succ]
                refine tk 12 76 (.pointer (some ⟨b2, o2 + k * 2, none⟩)) hHeld rfl (by kernel_rfl) (by kernel_rfl) (by kernel_rfl) (fun _ _ _ h => h) (Or.inl ⟨by rfl, ?_⟩) ?_
                · rintro w ⟨⟨m0, m1⟩, ⟨c1, d1⟩, c2, d2⟩
                  go_simp <;> (first | done | assumption | omega | (intro _; omega))
                try simp only [Act.put, List.setIfInBounds_toArray, List.set_cons_zero, List.set_cons_succ]
                refine tk 13 77 (.agg #[.int .i64 y0, .int .i64 y1]) hHeld rfl (by kernel_rfl) (by kernel_rfl) (by kernel_rfl) (fun _ _ _ h => h) (Or.inl ⟨by rfl, ?_⟩) ?_
                · rintro w ⟨⟨m0, m1⟩, ⟨c1, d1⟩, c2, d2⟩
                  go_simp <;> (first | done | assumption | omega | (intro _; omega))
                try simp only [Act.put, List.setIfInBounds_toArray, List.set_cons_zero, List.set_cons_succ]
                refine tk 14 78 (.bool true) hHeld rfl (by kernel_rfl) (by kernel_rfl) (by kernel_rfl) (fun _ _ _ h => h) (Or.inl ⟨by rfl, ?_⟩) ?_
                · rintro w ⟨⟨m0, m1⟩, ⟨c1, d1⟩, c2, d2⟩
                  go_simp <;> (first | done | assumption | omega | (intro _; omega))
                try simp only [Act.put, List.setIfInBounds_toArray, List.set_cons_zero, List.set_cons_succ]
                refine wpAnyH_done (by kernel_rfl) ?_ _
                go_wp2_with fail
                go_ret
                exact ⟨_, rfl, HE.out, below_next BV.out (Below.refl _ _).drew⟩
            · have HWe := hide (show W = W' from take_whole HT.out (by omega) (by have := HWl.out; omega))
              have hki : ¬ (k : Int) < (W.length : Int) := by omega
              obtain ⟨m0, m1, m2, m3, m4, m5⟩ := X1.out.below HV.out
              go_wp2_with fail
              clear m0 m1 m2 m3 m4 m5
              go_loopw [8] (fun v8 wx => ∃ k : Nat, k ≤ n ∧ v8 = .int .i64 k ∧ Hid (∀ i, i < k → D i = D' i ∧ P i = P' i) ∧ Hid (Below W0.heap.size W0 wx)) (fun v8 _ => n - (intOf v8).toNat)
              case atStart => exact ⟨0, Nat.zero_le _, rfl, hide (fun i hi => absurd hi (by omega)), HV⟩
              case round =>
                clear HV BV HT hlt hki hk
                obtain ⟨k, hk, rfl, HT, HV⟩ := hrel
                have BV := hide (below_next HB.out HV.out)
                by_cases hlt : k < n
                · have hltm : k < n' := by have := HNn.out; omega
                  have hki : (k : Int) < (n : Int) := by omega
                  have hki2 : (k : Int) < (n' : Int) := by omega
                  have hk0 : ¬ (k : Int) < 0 := by omega
                  obtain ⟨b1, o1, A1, C1, rfl, hb1, hc1⟩ := (HRC.out _ BV.out).1 (by omega)
                  obtain ⟨p0, p1, r1⟩ := hc1 k hlt
                  obtain ⟨b2, o2, A2, C2, rfl, hb2, hc2⟩ := (HRC.out _ BV.out).2 (by omega)
                  obtain ⟨q0, q1, r2⟩ := hc2 k hltm
                  have R1 := hide r1
                  have R2 := hide r2
                  have hu1 := HU.out k hlt
                  have hu2 := HU'.out k hltm
                  have HNX := hide (show ∀ i, i < k + 1 → (i < k ∨ i = k) from fun i hi => by omega)
                  obtain ⟨xs, hxs⟩ : ∃ xs, xs = P k := ⟨_, rfl⟩
                  obtain ⟨ys, hys⟩ : ∃ ys, ys = P' k := ⟨_, rfl⟩
                  obtain ⟨e, he⟩ : ∃ e, e = D k := ⟨_, rfl⟩
                  obtain ⟨f, hf⟩ : ∃ f, f = D' k := ⟨_, rfl⟩
                  rw [← hxs] at p1 R1 hu1
                  rw [← hys] at q1 R2 hu2
                  rw [← he] at p0
                  rw [← hf] at q0
                  have HEQ := hide (And.intro (And.intro hxs hys) (And.intro he hf))
                  clear hc1 hc2 r1 r2 hxs hys he hf
                  generalize A1 k = x at *
                  generalize C1 k = c1 at *
                  generalize A2 k = y at *
                  generalize C2 k = c2 at *
                  have KS : Hid (∀ u : World, Below wr.heap.size wr u → (u.cell? ⟨p, 3, none⟩ = some (.slice (some ⟨b1, o1, none⟩) n cc) ∧ u.cell? ⟨q, 3, none⟩ = some (.slice (some ⟨b2, o2, none⟩) n' cc')) ∧ (u.cell? ⟨b1, o1 + k * 2, none⟩ = some (.int .i64 e) ∧ u.cell? ⟨b1, o1 + k * 2 + 1, none⟩ = some (.slice x xs.length c1)) ∧ (u.cell? ⟨b2, o2 + k * 2, none⟩ = some (.int .i64 f) ∧ u.cell? ⟨b2, o2 + k * 2 + 1, none⟩ = some (.slice y ys.length c2)) ∧ (Sem.run Try.prog (convert 28 9 (.slice x xs.length c1)) u = .ok (.string (str (byB xs))) u) ∧ (Sem.run Try.prog (convert 28 9 (.slice y ys.length c2)) u = .ok (.string (str (byB ys))) u)) := hide (fun u hu => ⟨⟨(X1.out.below (below_next HV.out hu)).2.2.2.1, (X2.out.below (below_next HV.out hu)).2.2.2.1⟩, ⟨(hu.cell (p := ⟨b1, o1 + k * 2, none⟩) hb1).trans p0, (hu.cell (p := ⟨b1, o1 + k * 2 + 1, none⟩) hb1).trans p1⟩, ⟨(hu.cell (p := ⟨b2, o2 + k * 2, none⟩) hb2).trans q0, (hu.cell (p := ⟨b2, o2 + k * 2 + 1, none⟩) hb2).trans q1⟩, conv_readsB (R1.out.below hu), conv_readsB (R2.out.below hu)⟩)
                  obtain ⟨⟨m0, m1⟩, -, -, -⟩ := KS.out wr (Below.refl _ _)
                  have HNo := hide (show ¬ (e = f ∧ xs = ys) → (false = true ↔ SameX l W F D P n l' W' F' D' P' n') from fun h9 => ⟨fun e => Bool.noConfusion e, fun e8 => by
                    obtain ⟨g1, g2⟩ := e8.2.2.2.2 k hlt
                    obtain ⟨⟨h1, h2⟩, h3, h4⟩ := HEQ.out
                    exact absurd ⟨by rw [h3, h4]; exact g1, by rw [h1, h2]; exact g2⟩ h9⟩)
                  clear p0 p1 q0 q1
                  by_cases hef : e = f
                  · have heb : (e == f) = true := by simp [hef]
                    have HEF := hide hef
                    by_cases hxy : xs = ys
                    · have hsb := str_yes (show byB xs = byB ys by rw [hxy])
                      have HT2 := hide (show ∀ i, i < k + 1 → D i = D' i ∧ P i = P' i from fun i hi => by
                        rcases HNX.out i hi with h | h
                        · exact HT.out i h
                        · subst h
                          obtain ⟨⟨h1, h2⟩, h3, h4⟩ := HEQ.out
                          exact ⟨by rw [← h3, ← h4]; exact hef, by rw [← h1, ← h2]; exact hxy⟩)
                      clear hef hxy
                      go_wp2_with fail
                      clear m0 m1
                      refine wp_region_held_drew (S := fun u : World => (u.cell? ⟨p, 3, none⟩ = some (.slice (some ⟨b1, o1, none⟩) n cc) ∧ u.cell? ⟨q, 3, none⟩ = some (.slice (some ⟨b2, o2, none⟩) n' cc')) ∧ (u.cell? ⟨b1, o1 + k * 2, none⟩ = some (.int .i64 e) ∧ u.cell? ⟨b1, o1 + k * 2 + 1, none⟩ = some (.slice x xs.length c1)) ∧ (u.cell? ⟨b2, o2 + k * 2, none⟩ = some (.int .i64 f) ∧ u.cell? ⟨b2, o2 + k * 2 + 1, none⟩ = some (.slice y ys.length c2)) ∧ (Sem.run Try.prog (convert 28 9 (.slice x xs.length c1)) u = .ok (.string (str (byB xs))) u) ∧ (Sem.run Try.prog (convert 28 9 (.slice y ys.length c2)) u = .ok (.string (str (byB ys))) u)) (by kernel_rfl) (KS.out _ (Below.refl _ _).drew) (fun hHeld => ?_)
                      change wpAnyH _ _ _ _ _ _ (Array.replicate _ false) _ _
                      refine tk 0 88 (.pointer (some ⟨p, 1, none⟩)) hHeld rfl (by kernel_rfl) (by kernel_rfl) (by kernel_rfl) (fun _ _ _ h => h) (Or.inl ⟨by rfl, ?_⟩) ?_
                      · rintro w ⟨⟨m0, m1⟩, ⟨s1, d1⟩, ⟨s2, d2⟩, cv1, cv2⟩
                        go_simp <;> (first | done | assumption | exact HEF.out | omega | (intro _; omega))
                      try simp only [Act.put, List.setIfInBounds_toArray, List.set_cons_zero, List.set_cons_succ]
                      refine tk 1 89 (.pointer (some ⟨p, 1, none⟩)) hHeld rfl (by kernel_rfl) (by kernel_rfl) (by kernel_rfl) (fun _ _ _ h => h) (Or.inl ⟨by rfl, ?_⟩) ?_
                      · rintro w ⟨⟨m0, m1⟩, ⟨s1, d1⟩, ⟨s2, d2⟩, cv1, cv2⟩
                        go_simp <;> (first | done | assumption | exact HEF.out | omega | (intro _; omega))
                      try simp only [Act.put, List.setIfInBounds_toArray, List.set_cons_zero, List.set_cons_succ]
                      refine tk 2 90 (.pointer (some ⟨p, 3, none⟩)) hHeld rfl (by kernel_rfl) (by kernel_rfl) (by kernel_rfl) (fun _ _ _ h => h) (Or.inl ⟨by rfl, ?_⟩) ?_
                      · rintro w ⟨⟨m0, m1⟩, ⟨s1, d1⟩, ⟨s2, d2⟩, cv1, cv2⟩
                        go_simp <;> (first | done | assumption | exact HEF.out | omega | (intro _; omega))
                      try simp only [Act.put, List.setIfInBounds_toArray, List.set_cons_zero, List.set_cons_succ]
                      refine tk 3 91 (.slice (some ⟨b1, o1, none⟩) n cc) hHeld rfl (by kernel_rfl) (by kernel_rfl) (by kernel_rfl) (fun _ _ _ h => h) (Or.inl ⟨by rfl, ?_⟩) ?_
                      · rintro w ⟨⟨m0, m1⟩, ⟨s1, d1⟩, ⟨s2, d2⟩, cv1, cv2⟩
                        go_simp <;> (first | done | assumption | exact HEF.out | omega | (intro _; omega))
                      try simp only [Act.put, List.setIfInBounds_toArray, List.set_cons_zero, List.set_cons_succ]
                      refine tk 4 92 (.int .i64 k) hHeld rfl (by kernel_rfl) (by kernel_rfl) (by kernel_rfl) (fun _ _ _ h => h) (Or.inl ⟨by rfl, ?_⟩) ?_
                      · rintro w ⟨⟨m0, m1⟩, ⟨s1, d1⟩, ⟨s2, d2⟩, cv1, cv2⟩
                        go_simp <;> (first | done | assumption | exact HEF.out | omega | (intro _; omega))
                      try simp only [Act.put, List.setIfInBounds_toArray, List.set_cons_zero, List.set_cons_succ]
                      refine tk 5 93 (.pointer (some ⟨b1, o1 + k * 2, none⟩)) hHeld rfl (by kernel_rfl) (by kernel_rfl) (by kernel_rfl) (fun _ _ _ h => h) (Or.inl ⟨by rfl, ?_⟩) ?_
                      · rintro w ⟨⟨m0, m1⟩, ⟨s1, d1⟩, ⟨s2, d2⟩, cv1, cv2⟩
                        go_simp <;> (first | done | assumption | exact HEF.out | omega | (intro _; omega))
                      try simp only [Act.put, List.setIfInBounds_toArray, List.set_cons_zero, List.set_cons_succ]
                      refine tk 6 94 (.pointer (some ⟨b1, o1 + k * 2, none⟩)) hHeld rfl (by kernel_rfl) (by kernel_rfl) (by kernel_rfl) (fun _ _ _ h => h) (Or.inl ⟨by rfl, ?_⟩) ?_
                      · rintro w ⟨⟨m0, m1⟩, ⟨s1, d1⟩, ⟨s2, d2⟩, cv1, cv2⟩
                        go_simp <;> (first | done | assumption | exact HEF.out | omega | (intro _; omega))
                      try simp only [Act.put, List.setIfInBounds_toArray, List.set_cons_zero, List.set_cons_succ]
                      refine tk 7 95 (.int .i64 e) hHeld rfl (by kernel_rfl) (by kernel_rfl) (by kernel_rfl) (fun _ _ _ h => h) (Or.inl ⟨by rfl, ?_⟩) ?_
                      · rintro w ⟨⟨m0, m1⟩, ⟨s1, d1⟩, ⟨s2, d2⟩, cv1, cv2⟩
                        go_simp <;> (first | done | assumption | exact HEF.out | omega | (intro _; omega))
                      try simp only [Act.put, List.setIfInBounds_toArray, List.set_cons_zero, List.set_cons_succ]
                      refine tk 8 96 (.pointer (some ⟨q, 1, none⟩)) hHeld rfl (by kernel_rfl) (by kernel_rfl) (by kernel_rfl) (fun _ _ _ h => h) (Or.inl ⟨by rfl, ?_⟩) ?_
                      · rintro w ⟨⟨m0, m1⟩, ⟨s1, d1⟩, ⟨s2, d2⟩, cv1, cv2⟩
                        go_simp <;> (first | done | assumption | exact HEF.out | omega | (intro _; omega))
                      try simp only [Act.put, List.setIfInBounds_toArray, List.set_cons_zero, List.set_cons_succ]
                      refine tk 9 97 (.pointer (some ⟨q, 1, none⟩)) hHeld rfl (by kernel_rfl) (by kernel_rfl) (by kernel_rfl) (fun _ _ _ h => h) (Or.inl ⟨by rfl, ?_⟩) ?_
                      · rintro w ⟨⟨m0, m1⟩, ⟨s1, d1⟩, ⟨s2, d2⟩, cv1, cv2⟩
                        go_simp <;> (first | done | assumption | exact HEF.out | omega | (intro _; omega))
                      try simp only [Act.put, List.setIfInBounds_toArray, List.set_cons_zero, List.set_cons_succ]
                      refine tk 10 98 (.pointer (some ⟨q, 3, none⟩)) hHeld rfl (by kernel_rfl) (by kernel_rfl) (by kernel_rfl) (fun _ _ _ h => h) (Or.inl ⟨by rfl, ?_⟩) ?_
                      · rintro w ⟨⟨m0, m1⟩, ⟨s1, d1⟩, ⟨s2, d2⟩, cv1, cv2⟩
                        go_simp <;> (first | done | assumption | exact HEF.out | omega | (intro _; omega))
                      try simp only [Act.put, List.setIfInBounds_toArray, List.set_cons_zero, List.set_cons_succ]
                      refine tk 11 99 (.slice (some ⟨b2, o2, none⟩) n' cc') hHeld rfl (by kernel_rfl) (by kernel_rfl) (by kernel_rfl) (fun _ _ _ h => h) (Or.inl ⟨by rfl, ?_⟩) ?_
                      · rintro w ⟨⟨m0, m1⟩, ⟨s1, d1⟩, ⟨s2, d2⟩, cv1, cv2⟩
                        go_simp <;> (first | done | assumption | exact HEF.out | omega | (intro _; omega))
                      try simp only [Act.put, List.setIfInBounds_toArray, List.set_cons_zero, List.set_cons_succ]
                      refine tk 12 100 (.int .i64 k) hHeld rfl (by kernel_rfl) (by kernel_rfl) (by kernel_rfl) (fun _ _ _ h => h) (Or.inl ⟨by rfl, ?_⟩) ?_
                      · rintro w ⟨⟨m0, m1⟩, ⟨s1, d1⟩, ⟨s2, d2⟩, cv1, cv2⟩
                        go_simp <;> (first | done | assumption | exact HEF.out | omega | (intro _; omega))
                      try simp only [Act.put, List.setIfInBounds_toArray, List.set_cons_zero, List.set_cons_succ]
                      refine tk 13 101 (.pointer (some ⟨b2, o2 + k * 2, none⟩)) hHeld rfl (by kernel_rfl) (by kernel_rfl) (by kernel_rfl) (fun _ _ _ h => h) (Or.inl ⟨by rfl, ?_⟩) ?_
                      · rintro w ⟨⟨m0, m1⟩, ⟨s1, d1⟩, ⟨s2, d2⟩, cv1, cv2⟩
                        go_simp <;> (first | done | assumption | exact HEF.out | omega | (intro _; omega))
                      try simp only [Act.put, List.setIfInBounds_toArray, List.set_cons_zero, List.set_cons_succ]
                      refine tk 14 102 (.pointer (some ⟨b2, o2 + k * 2, none⟩)) hHeld rfl (by kernel_rfl) (by kernel_rfl) (by kernel_rfl) (fun _ _ _ h => h) (Or.inl ⟨by rfl, ?_⟩) ?_
                      · rintro w ⟨⟨m0, m1⟩, ⟨s1, d1⟩, ⟨s2, d2⟩, cv1, cv2⟩
                        go_simp <;> (first | done | assumption | exact HEF.out | omega | (intro _; omega))
                      try simp only [Act.put, List.setIfInBounds_toArray, List.set_cons_zero, List.set_cons_succ]
                      refine tk 15 103 (.int .i64 f) hHeld rfl (by kernel_rfl) (by kernel_rfl) (by kernel_rfl) (fun _ _ _ h => h) (Or.inl ⟨by rfl, ?_⟩) ?_
                      · rintro w ⟨⟨m0, m1⟩, ⟨s1, d1⟩, ⟨s2, d2⟩, cv1, cv2⟩
                        go_simp <;> (first | done | assumption | exact HEF.out | omega | (intro _; omega))
                      try simp only [Act.put, List.setIfInBounds_toArray, List.set_cons_zero, List.set_cons_succ]
                      refine tk 16 104 (.bool false) hHeld rfl (by kernel_rfl) (by kernel_rfl) (by kernel_rfl) (fun _ _ _ h => h) (Or.inl ⟨by rfl, ?_⟩) ?_
                      · rintro w ⟨⟨m0, m1⟩, ⟨s1, d1⟩, ⟨s2, d2⟩, cv1, cv2⟩
                        go_simp <;> (first | done | assumption | exact HEF.out | omega | (intro _; omega))
                      try simp only [Act.put, List.setIfInBounds_toArray, List.set_cons_zero, List.set_cons_succ]
                      refine tk 17 105 (.bool false) hHeld rfl (by kernel_rfl) (by kernel_rfl) (by kernel_rfl) (fun _ _ _ h => h) (Or.inl ⟨by rfl, ?_⟩) ?_
                      · rintro w ⟨⟨m0, m1⟩, ⟨s1, d1⟩, ⟨s2, d2⟩, cv1, cv2⟩
                        go_simp <;> (first | done | assumption | exact HEF.out | omega | (intro _; omega))
                      try simp only [Act.put, List.setIfInBounds_toArray, List.set_cons_zero, List.set_cons_succ]
                      refine tk 18 106 (.pointer (some ⟨p, 1, none⟩)) hHeld rfl (by kernel_rfl) (by kernel_rfl) (by kernel_rfl) (fun _ _ _ h => h) (Or.inl ⟨by rfl, ?_⟩) ?_
                      · rintro w ⟨⟨m0, m1⟩, ⟨s1, d1⟩, ⟨s2, d2⟩, cv1, cv2⟩
                        go_simp <;> (first | done | assumption | exact HEF.out | omega | (intro _; omega))
                      try simp only [Act.put, List.setIfInBounds_toArray, List.set_cons_zero, List.set_cons_succ]
                      refine tk 19 107 (.pointer (some ⟨p, 1, none⟩)) hHeld rfl (by kernel_rfl) (by kernel_rfl) (by kernel_rfl) (fun _ _ _ h => h) (Or.inl ⟨by rfl, ?_⟩) ?_
                      · rintro w ⟨⟨m0, m1⟩, ⟨s1, d1⟩, ⟨s2, d2⟩, cv1, cv2⟩
                        go_simp <;> (first | done | assumption | exact HEF.out | omega | (intro _; omega))
                      try simp only [Act.put, List.setIfInBounds_toArray, List.set_cons_zero, List.set_cons_succ]
                      refine tk 20 108 (.pointer (some ⟨p, 3, none⟩)) hHeld rfl (by kernel_rfl) (by kernel_rfl) (by kernel_rfl) (fun _ _ _ h => h) (Or.inl ⟨by rfl, ?_⟩) ?_
                      · rintro w ⟨⟨m0, m1⟩, ⟨s1, d1⟩, ⟨s2, d2⟩, cv1, cv2⟩
                        go_simp <;> (first | done | assumption | exact HEF.out | omega | (intro _; omega))
                      try simp only [Act.put, List.setIfInBounds_toArray, List.set_cons_zero, List.set_cons_succ]
                      refine tk 21 109 (.slice (some ⟨b1, o1, none⟩) n cc) hHeld rfl (by kernel_rfl) (by kernel_rfl) (by kernel_rfl) (fun _ _ _ h => h) (Or.inl ⟨by rfl, ?_⟩) ?_
                      · rintro w ⟨⟨m0, m1⟩, ⟨s1, d1⟩, ⟨s2, d2⟩, cv1, cv2⟩
                        go_simp <;> (first | done | assumption | exact HEF.out | omega | (intro _; omega))
                      try simp only [Act.put, List.setIfInBounds_toArray, List.set_cons_zero, List.set_cons_succ]
                      refine tk 22 110 (.int .i64 k) hHeld rfl (by kernel_rfl) (by kernel_rfl) (by kernel_rfl) (fun _ _ _ h => h) (Or.inl ⟨by rfl, ?_⟩) ?_
                      · rintro w ⟨⟨m0, m1⟩, ⟨s1, d1⟩, ⟨s2, d2⟩, cv1, cv2⟩
                        go_simp <;> (first | done | assumption | exact HEF.out | omega | (intro _; omega))
                      try simp only [Act.put, List.setIfInBounds_toArray, List.set_cons_zero, List.set_cons_succ]
                      refine tk 23 111 (.pointer (some ⟨b1, o1 + k * 2, none⟩)) hHeld rfl (by kernel_rfl) (by kernel_rfl) (by kernel_rfl) (fun _ _ _ h => h) (Or.inl ⟨by rfl, ?_⟩) ?_
                      · rintro w ⟨⟨m0, m1⟩, ⟨s1, d1⟩, ⟨s2, d2⟩, cv1, cv2⟩
                        go_simp <;> (first | done | assumption | exact HEF.out | omega | (intro _; omega))
                      try simp only [Act.put, List.setIfInBounds_toArray, List.set_cons_zero, List.set_cons_succ]
                      refine tk 24 112 (.pointer (some ⟨b1, o1 + k * 2 + 1, none⟩)) hHeld rfl (by kernel_rfl) (by kernel_rfl) (by kernel_rfl) (fun _ _ _ h => h) (Or.inl ⟨by rfl, ?_⟩) ?_
                      · rintro w ⟨⟨m0, m1⟩, ⟨s1, d1⟩, ⟨s2, d2⟩, cv1, cv2⟩
                        go_simp <;> (first | done | assumption | exact HEF.out | omega | (intro _; omega))
                      try simp only [Act.put, List.setIfInBounds_toArray, List.set_cons_zero, List.set_cons_succ]
                      refine tk 25 113 (.slice x xs.length c1) hHeld rfl (by kernel_rfl) (by kernel_rfl) (by kernel_rfl) (fun _ _ _ h => h) (Or.inl ⟨by rfl, ?_⟩) ?_
                      · rintro w ⟨⟨m0, m1⟩, ⟨s1, d1⟩, ⟨s2, d2⟩, cv1, cv2⟩
                        go_simp <;> (first | done | assumption | exact HEF.out | omega | (intro _; omega))
                      try simp only [Act.put, List.setIfInBounds_toArray, List.set_cons_zero, List.set_cons_succ]
                      refine tk 26 114 (.string (str (byB xs))) hHeld rfl (by kernel_rfl) (by kernel_rfl) (by kernel_rfl) (fun _ _ _ h => h) (Or.inl ⟨by rfl, ?_⟩) ?_
                      · rintro w ⟨⟨m0, m1⟩, ⟨s1, d1⟩, ⟨s2, d2⟩, cv1, cv2⟩
                        go_simp <;> (first | done | assumption | exact HEF.out | omega | (intro _; omega))
                      try simp only [Act.put, List.setIfInBounds_toArray, List.set_cons_zero, List.set_cons_succ]
                      refine tk 27 115 (.pointer (some ⟨q, 1, none⟩)) hHeld rfl (by kernel_rfl) (by kernel_rfl) (by kernel_rfl) (fun _ _ _ h => h) (Or.inl ⟨by rfl, ?_⟩) ?_
                      · rintro w ⟨⟨m0, m1⟩, ⟨s1, d1⟩, ⟨s2, d2⟩, cv1, cv2⟩
                        go_simp <;> (first | done | assumption | exact HEF.out | omega | (intro _; omega))
                      try simp only [Act.put, List.setIfInBounds_toArray, List.set_cons_zero, List.set_cons_succ]
                      refine tk 28 116 (.pointer (some ⟨q, 1, none⟩)) hHeld rfl (by kernel_rfl) (by kernel_rfl) (by kernel_rfl) (fun _ _ _ h => h) (Or.inl ⟨by rfl, ?_⟩) ?_
                      · rintro w ⟨⟨m0, m1⟩, ⟨s1, d1⟩, ⟨s2, d2⟩, cv1, cv2⟩
                        go_simp <;> (first | done | assumption | exact HEF.out | omega | (intro _; omega))
                      try simp only [Act.put, List.setIfInBounds_toArray, List.set_cons_zero, List.set_cons_succ]
                      refine tk 29 117 (.pointer (some ⟨q, 3, none⟩)) hHeld rfl (by kernel_rfl) (by kernel_rfl) (by kernel_rfl) (fun _ _ _ h => h) (Or.inl ⟨by rfl, ?_⟩) ?_
                      · rintro w ⟨⟨m0, m1⟩, ⟨s1, d1⟩, ⟨s2, d2⟩, cv1, cv2⟩
                        go_simp <;> (first | done | assumption | exact HEF.out | omega | (intro _; omega))
                      try simp only [Act.put, List.setIfInBounds_toArray, List.set_cons_zero, List.set_cons_succ]
                      refine tk 30 118 (.slice (some ⟨b2, o2, none⟩) n' cc') hHeld rfl (by kernel_rfl) (by kernel_rfl) (by kernel_rfl) (fun _ _ _ h => h) (Or.inl ⟨by rfl, ?_⟩) ?_
                      · rintro w ⟨⟨m0, m1⟩, ⟨s1, d1⟩, ⟨s2, d2⟩, cv1, cv2⟩
                        go_simp <;> (first | done | assumption | exact HEF.out | omega | (intro _; omega))
                      try simp only [Act.put, List.setIfInBounds_toArray, List.set_cons_zero, List.set_cons_succ]
                      refine tk 31 119 (.int .i64 k) hHeld rfl (by kernel_rfl) (by kernel_rfl) (by kernel_rfl) (fun _ _ _ h => h) (Or.inl ⟨by rfl, ?_⟩) ?_
                      · rintro w ⟨⟨m0, m1⟩, ⟨s1, d1⟩, ⟨s2, d2⟩, cv1, cv2⟩
                        go_simp <;> (first | done | assumption | exact HEF.out | omega | (intro _; omega))
                      try simp only [Act.put, List.setIfInBounds_toArray, List.set_cons_zero, List.set_cons_succ]
                      refine tk 32 120 (.pointer (some ⟨b2, o2 + k * 2, none⟩)) hHeld rfl (by kernel_rfl) (by kernel_rfl) (by kernel_rfl) (fun _ _ _ h => h) (Or.inl ⟨by rfl, ?_⟩) ?_
                      · rintro w ⟨⟨m0, m1⟩, ⟨s1, d1⟩, ⟨s2, d2⟩, cv1, cv2⟩
                        go_simp <;> (first | done | assumption | exact HEF.out | omega | (intro _; omega))
                      try simp only [Act.put, List.setIfInBounds_toArray, List.set_cons_zero, List.set_cons_succ]
                      refine tk 33 121 (.pointer (some ⟨b2, o2 + k * 2 + 1, none⟩)) hHeld rfl (by kernel_rfl) (by kernel_rfl) (by kernel_rfl) (fun _ _ _ h => h) (Or.inl ⟨by rfl, ?_⟩) ?_
                      · rintro w ⟨⟨m0, m1⟩, ⟨s1, d1⟩, ⟨s2, d2⟩, cv1, cv2⟩
                        go_simp <;> (first | done | assumption | exact HEF.out | omega | (intro _; omega))
                      try simp only [Act.put, List.setIfInBounds_toArray, List.set_cons_zero, List.set_cons_succ]
                      refine tk 34 122 (.slice y ys.length c2) hHeld rfl (by kernel_rfl) (by kernel_rfl) (by kernel_rfl) (fun _ _ _ h => h) (Or.inl ⟨by rfl, ?_⟩) ?_
                      · rintro w ⟨⟨m0, m1⟩, ⟨s1, d1⟩, ⟨s2, d2⟩, cv1, cv2⟩
                        go_simp <;> (first | done | assumption | exact HEF.out | omega | (intro _; omega))
                      try simp only [Act.put, List.setIfInBounds_toArray, List.set_cons_zero, List.set_cons_succ]
                      refine tk 35 123 (.string (str (byB ys))) hHeld rfl (by kernel_rfl) (by kernel_rfl) (by kernel_rfl) (fun _ _ _ h => h) (Or.inl ⟨by rfl, ?_⟩) ?_
                      · rintro w ⟨⟨m0, m1⟩, ⟨s1, d1⟩, ⟨s2, d2⟩, cv1, cv2⟩
                        go_simp <;> (first | done | assumption | exact HEF.out | omega | (intro _; omega))
                      try simp only [Act.put, List.setIfInBounds_toArray, List.set_cons_zero, List.set_cons_succ]
                      refine tk 36 124 (.bool false) hHeld rfl (by kernel_rfl) (by kernel_rfl) (by kernel_rfl) (fun _ _ _ h => h) (Or.inl ⟨by rfl, ?_⟩) ?_
                      · rintro w ⟨⟨m0, m1⟩, ⟨s1, d1⟩, ⟨s2, d2⟩, cv1, cv2⟩
                        go_simp <;> (first | done | assumption | exact HEF.out | omega | (intro _; omega))
                      try simp only [Act.put, List.setIfInBounds_toArray, List.set_cons_zero, List.set_cons_succ]
                      refine tk 37 125 (.bool false) hHeld rfl (by kernel_rfl) (by kernel_rfl) (by kernel_rfl) (fun _ _ _ h => h) (Or.inl ⟨by rfl, ?_⟩) ?_
                      · rintro w ⟨⟨m0, m1⟩, ⟨s1, d1⟩, ⟨s2, d2⟩, cv1, cv2⟩
                        go_simp <;> (first | done | assumption | exact HEF.out | omega | (intro _; omega))
                      try simp only [Act.put, List.setIfInBounds_toArray, List.set_cons_zero, List.set_cons_succ]
                      refine wpAnyH_done (by kernel_rfl) ?_ _
                      go_wp2_with fail
                      go_roundw
                      case rel => exact ⟨k + 1, by omega, by go_num, HT2, hide (below_next HV.out (Below.refl _ _).drew)⟩
                      case measure => simp [intOf]; omega
                    · have hsb := str_no (show byB xs ≠ byB ys from fun h9 => hxy (byB_inj hu1 hu2 h9))
                      have HE := hide (HNo.out (fun h9 => hxy h9.2))
                      clear hef hxy
                      go_wp2_with fail
                      clear m0 m1
                      refine wp_region_held_drew (S := fun u : World => (u.cell? ⟨p, 3, none⟩ = some (.slice (some ⟨b1, o1, none⟩) n cc) ∧ u.cell? ⟨q, 3, none⟩ = some (.slice (some ⟨b2, o2, none⟩) n' cc')) ∧ (u.cell? ⟨b1, o1 + k * 2, none⟩ = some (.int .i64 e) ∧ u.cell? ⟨b1, o1 + k * 2 + 1, none⟩ = some (.slice x xs.length c1)) ∧ (u.cell? ⟨b2, o2 + k * 2, none⟩ = some (.int .i64 f) ∧ u.cell? ⟨b2, o2 + k * 2 + 1, none⟩ = some (.slice y ys.length c2)) ∧ (Sem.run Try.prog (convert 28 9 (.slice x xs.length c1)) u = .ok (.string (str (byB xs))) u) ∧ (Sem.run Try.prog (convert 28 9 (.slice y ys.length c2)) u = .ok (.string (str (byB ys))) u)) (by kernel_rfl) (KS.out _ (Below.refl _ _).drew) (fun hHeld => ?_)
                      change wpAnyH _ _ _ _ _ _ (Array.replicate _ false) _ _
                      refine tk 0 88 (.pointer (some ⟨p, 1, none⟩)) hHeld rfl (by kernel_rfl) (by kernel_rfl) (by kernel_rfl) (fun _ _ _ h => h) (Or.inl ⟨by rfl, ?_⟩) ?_
                      · rintro w ⟨⟨m0, m1⟩, ⟨s1, d1⟩, ⟨s2, d2⟩, cv1, cv2⟩
                        go_simp <;> (first | done | assumption | exact HEF.out | omega | (intro _; omega))
                      try simp only [Act.put, List.setIfInBounds_toArray, List.set_cons_zero, List.set_cons_succ]
                      refine tk 1 89 (.pointer (some ⟨p, 1, none⟩)) hHeld rfl (by kernel_rfl) (by kernel_rfl) (by kernel_rfl) (fun _ _ _ h => h) (Or.inl ⟨by rfl, ?_⟩) ?_
                      · rintro w ⟨⟨m0, m1⟩, ⟨s1, d1⟩, ⟨s2, d2⟩, cv1, cv2⟩
                        go_simp <;> (first | done | assumption | exact HEF.out | omega | (intro _; omega))
                      try simp only [Act.put, List.setIfInBounds_toArray, List.set_cons_zero, List.set_cons_succ]
                      refine tk 2 90 (.pointer (some ⟨p, 3, none⟩)) hHeld rfl (by kernel_rfl) (by kernel_rfl) (by kernel_rfl) (fun _ _ _ h => h) (Or.inl ⟨by rfl, ?_⟩) ?_
                      · rintro w ⟨⟨m0, m1⟩, ⟨s1, d1⟩, ⟨s2, d2⟩, cv1, cv2⟩
                        go_simp <;> (first | done | assumption | exact HEF.out | omega | (intro _; omega))
                      try simp only [Act.put, List.setIfInBounds_toArray, List.set_cons_zero, List.set_cons_succ]
                      refine tk 3 91 (.slice (some ⟨b1, o1, none⟩) n cc) hHeld rfl (by kernel_rfl) (by kernel_rfl) (by kernel_rfl) (fun _ _ _ h => h) (Or.inl ⟨by rfl, ?_⟩) ?_
                      · rintro w ⟨⟨m0, m1⟩, ⟨s1, d1⟩, ⟨s2, d2⟩, cv1, cv2⟩
                        go_simp <;> (first | done | assumption | exact HEF.out | omega | (intro _; omega))
                      try simp only [Act.put, List.setIfInBounds_toArray, List.set_cons_zero, List.set_cons_succ]
                      refine tk 4 92 (.int .i64 k) hHeld rfl (by kernel_rfl) (by kernel_rfl) (by kernel_rfl) (fun _ _ _ h => h) (Or.inl ⟨by rfl, ?_⟩) ?_
                      · rintro w ⟨⟨m0, m1⟩, ⟨s1, d1⟩, ⟨s2, d2⟩, cv1, cv2⟩
                        go_simp <;> (first | done | assumption | exact HEF.out | omega | (intro _; omega))
                      try simp only [Act.put, List.setIfInBounds_toArray, List.set_cons_zero, List.set_cons_succ]
                      refine tk 5 93 (.pointer (some ⟨b1, o1 + k * 2, none⟩)) hHeld rfl (by kernel_rfl) (by kernel_rfl) (by kernel_rfl) (fun _ _ _ h => h) (Or.inl ⟨by rfl, ?_⟩) ?_
                      · rintro w ⟨⟨m0, m1⟩, ⟨s1, d1⟩, ⟨s2, d2⟩, cv1, cv2⟩
                        go_simp <;> (first | done | assumption | exact HEF.out | omega | (intro _; omega))
                      try simp only [Act.put, List.setIfInBounds_toArray, List.set_cons_zero, List.set_cons_succ]
                      refine tk 6 94 (.pointer (some ⟨b1, o1 + k * 2, none⟩)) hHeld rfl (by kernel_rfl) (by kernel_rfl) (by kernel_rfl) (fun _ _ _ h => h) (Or.inl ⟨by rfl, ?_⟩) ?_
                      · rintro w ⟨⟨m0, m1⟩, ⟨s1, d1⟩, ⟨s2, d2⟩, cv1, cv2⟩
                        go_simp <;> (first | done | assumption | exact HEF.out | omega | (intro _; omega))
                      try simp only [Act.put, List.setIfInBounds_toArray, List.set_cons_zero, List.set_cons_succ]
                      refine tk 7 95 (.int .i64 e) hHeld rfl (by kernel_rfl) (by kernel_rfl) (by kernel_rfl) (fun _ _ _ h => h) (Or.inl ⟨by rfl, ?_⟩) ?_
                      · rintro w ⟨⟨m0, m1⟩, ⟨s1, d1⟩, ⟨s2, d2⟩, cv1, cv2⟩
                        go_simp <;> (first | done | assumption | exact HEF.out | omega | (intro _; omega))
                      try simp only [Act.put, List.setIfInBounds_toArray, List.set_cons_zero, List.set_cons_succ]
                      refine tk 8 96 (.pointer (some ⟨q, 1, none⟩)) hHeld rfl (by kernel_rfl) (by kernel_rfl) (by kernel_rfl) (fun _ _ _ h => h) (Or.inl ⟨by rfl, ?_⟩) ?_
                      · rintro w ⟨⟨m0, m1⟩, ⟨s1, d1⟩, ⟨s2, d2⟩, cv1, cv2⟩
                        go_simp <;> (first | done | assumption | exact HEF.out | omega | (intro _; omega))
                      try simp only [Act.put, List.setIfInBounds_toArray, List.set_cons_zero, List.set_cons_succ]
                      refine tk 9 97 (.pointer (some ⟨q, 1, none⟩)) hHeld rfl (by kernel_rfl) (by kernel_rfl) (by kernel_rfl) (fun _ _ _ h => h) (Or.inl ⟨by rfl, ?_⟩) ?_
                      · rintro w ⟨⟨m0, m1⟩, ⟨s1, d1⟩, ⟨s2, d2⟩, cv1, cv2⟩
                        go_simp <;> (first | done | assumption | exact HEF.out | omega | (intro _; omega))
                      try simp only [Act.put, List.setIfInBounds_toArray, List.set_cons_zero, List.set_cons_succ]
                      refine tk 10 98 (.pointer (some ⟨q, 3, none⟩)) hHeld rfl (by kernel_rfl) (by kernel_rfl) (by kernel_rfl) (fun _ _ _ h => h) (Or.inl ⟨by rfl, ?_⟩) ?_
                      · rintro w ⟨⟨m0, m1⟩, ⟨s1, d1⟩, ⟨s2, d2⟩, cv1, cv2⟩
                        go_simp <;> (first | done | assumption | exact HEF.out | omega | (intro _; omega))
                      try simp only [Act.put, List.setIfInBounds_toArray, List.set_cons_zero, List.set_cons_succ]
                      refine tk 11 99 (.slice (some ⟨b2, o2, none⟩) n' cc') hHeld rfl (by kernel_rfl) (by kernel_rfl) (by kernel_rfl) (fun _ _ _ h => h) (Or.inl ⟨by rfl, ?_⟩) ?_
                      · rintro w ⟨⟨m0, m1⟩, ⟨s1, d1⟩, ⟨s2, d2⟩, cv1, cv2⟩
                        go_simp <;> (first | done | assumption | exact HEF.out | omega | (intro _; omega))
                      try simp only [Act.put, List.setIfInBounds_toArray, List.set_cons_zero, List.set_cons_succ]
                      refine tk 12 100 (.int .i64 k) hHeld rfl (by kernel_rfl) (by kernel_rfl) (by kernel_rfl) (fun _ _ _ h => h) (Or.inl ⟨by rfl, ?_⟩) ?_
                      · rintro w ⟨⟨m0, m1⟩, ⟨s1, d1⟩, ⟨s2, d2⟩, cv1, cv2⟩
                        go_simp <;> (first | done | assumption | exact HEF.out | omega | (intro _; omega))
                      try simp only [Act.put, List.setIfInBounds_toArray, List.set_cons_zero, List.set_cons_succ]
                      refine tk 13 101 (.pointer (some ⟨b2, o2 + k * 2, none⟩)) hHeld rfl (by kernel_rfl) (by kernel_rfl) (by kernel_rfl) (fun _ _ _ h => h) (Or.inl ⟨by rfl, ?_⟩) ?_
                      · rintro w ⟨⟨m0, m1⟩, ⟨s1, d1⟩, ⟨s2, d2⟩, cv1, cv2⟩
                        go_simp <;> (first | done | assumption | exact HEF.out | omega | (intro _; omega))
                      try simp only [Act.put, List.setIfInBounds_toArray, List.set_cons_zero, List.set_cons_succ]
                      refine tk 14 102 (.pointer (some ⟨b2, o2 + k * 2, none⟩)) hHeld rfl (by kernel_rfl) (by kernel_rfl) (by kernel_rfl) (fun _ _ _ h => h) (Or.inl ⟨by rfl, ?_⟩) ?_
                      · rintro w ⟨⟨m0, m1⟩, ⟨s1, d1⟩, ⟨s2, d2⟩, cv1, cv2⟩
                        go_simp <;> (first | done | assumption | exact HEF.out | omega | (intro _; omega))
                      try simp only [Act.put, List.setIfInBounds_toArray, List.set_cons_zero, List.set_cons_succ]
                      refine tk 15 103 (.int .i64 f) hHeld rfl (by kernel_rfl) (by kernel_rfl) (by kernel_rfl) (fun _ _ _ h => h) (Or.inl ⟨by rfl, ?_⟩) ?_
                      · rintro w ⟨⟨m0, m1⟩, ⟨s1, d1⟩, ⟨s2, d2⟩, cv1, cv2⟩
                        go_simp <;> (first | done | assumption | exact HEF.out | omega | (intro _; omega))
                      try simp only [Act.put, List.setIfInBounds_toArray, List.set_cons_zero, List.set_cons_succ]
                      refine tk 16 104 (.bool false) hHeld rfl (by kernel_rfl) (by kernel_rfl) (by kernel_rfl) (fun _ _ _ h => h) (Or.inl ⟨by rfl, ?_⟩) ?_
                      · rintro w ⟨⟨m0, m1⟩, ⟨s1, d1⟩, ⟨s2, d2⟩, cv1, cv2⟩
                        go_simp <;> (first | done | assumption | exact HEF.out | omega | (intro _; omega))
                      try simp only [Act.put, List.setIfInBounds_toArray, List.set_cons_zero, List.set_cons_succ]
                      refine tk 17 105 (.bool false) hHeld rfl (by kernel_rfl) (by kernel_rfl) (by kernel_rfl) (fun _ _ _ h => h) (Or.inl ⟨by rfl, ?_⟩) ?_
                      · rintro w ⟨⟨m0, m1⟩, ⟨s1, d1⟩, ⟨s2, d2⟩, cv1, cv2⟩
                        go_simp <;> (first | done | assumption | exact HEF.out | omega | (intro _; omega))
                      try simp only [Act.put, List.setIfInBounds_toArray, List.set_cons_zero, List.set_cons_succ]
                      refine tk 18 106 (.pointer (some ⟨p, 1, none⟩)) hHeld rfl (by kernel_rfl) (by kernel_rfl) (by kernel_rfl) (fun _ _ _ h => h) (Or.inl ⟨by rfl, ?_⟩) ?_
                      · rintro w ⟨⟨m0, m1⟩, ⟨s1, d1⟩, ⟨s2, d2⟩, cv1, cv2⟩
                        go_simp <;> (first | done | assumption | exact HEF.out | omega | (intro _; omega))
                      try simp only [Act.put, List.setIfInBounds_toArray, List.set_cons_zero, List.set_cons_succ]
                      refine tk 19 107 (.pointer (some ⟨p, 1, none⟩)) hHeld rfl (by kernel_rfl) (by kernel_rfl) (by kernel_rfl) (fun _ _ _ h => h) (Or.inl ⟨by rfl, ?_⟩) ?_
                      · rintro w ⟨⟨m0, m1⟩, ⟨s1, d1⟩, ⟨s2, d2⟩, cv1, cv2⟩
                        go_simp <;> (first | done | assumption | exact HEF.out | omega | (intro _; omega))
                      try simp only [Act.put, List.setIfInBounds_toArray, List.set_cons_zero, List.set_cons_succ]
                      refine tk 20 108 (.pointer (some ⟨p, 3, none⟩)) hHeld rfl (by kernel_rfl) (by kernel_rfl) (by kernel_rfl) (fun _ _ _ h => h) (Or.inl ⟨by rfl, ?_⟩) ?_
                      · rintro w ⟨⟨m0, m1⟩, ⟨s1, d1⟩, ⟨s2, d2⟩, cv1, cv2⟩
                        go_simp <;> (first | done | assumption | exact HEF.out | omega | (intro _; omega))
                      try simp only [Act.put, List.setIfInBounds_toArray, List.set_cons_zero, List.set_cons_succ]
                      refine tk 21 109 (.slice (some ⟨b1, o1, none⟩) n cc) hHeld rfl (by kernel_rfl) (by kernel_rfl) (by kernel_rfl) (fun _ _ _ h => h) (Or.inl ⟨by rfl, ?_⟩) ?_
                      · rintro w ⟨⟨m0, m1⟩, ⟨s1, d1⟩, ⟨s2, d2⟩, cv1, cv2⟩
                        go_simp <;> (first | done | assumption | exact HEF.out | omega | (intro _; omega))
                      try simp only [Act.put, List.setIfInBounds_toArray, List.set_cons_zero, List.set_cons_succ]
                      refine tk 22 110 (.int .i64 k) hHeld rfl (by kernel_rfl) (by kernel_rfl) (by kernel_rfl) (fun _ _ _ h => h) (Or.inl ⟨by rfl, ?_⟩) ?_
                      · rintro w ⟨⟨m0, m1⟩, ⟨s1, d1⟩, ⟨s2, d2⟩, cv1, cv2⟩
                        go_simp <;> (first | done | assumption | exact HEF.out | omega | (intro _; omega))
                      try simp only [Act.put, List.setIfInBounds_toArray, List.set_cons_zero, List.set_cons_succ]
                      refine tk 23 111 (.pointer (some ⟨b1, o1 + k * 2, none⟩)) hHeld rfl (by kernel_rfl) (by kernel_rfl) (by kernel_rfl) (fun _ _ _ h => h) (Or.inl ⟨by rfl, ?_⟩) ?_
                      · rintro w ⟨⟨m0, m1⟩, ⟨s1, d1⟩, ⟨s2, d2⟩, cv1, cv2⟩
                        go_simp <;> (first | done | assumption | exact HEF.out | omega | (intro _; omega))
                      try simp only [Act.put, List.setIfInBounds_toArray, List.set_cons_zero, List.set_cons_succ]
                      refine tk 24 112 (.pointer (some ⟨b1, o1 + k * 2 + 1, none⟩)) hHeld rfl (by kernel_rfl) (by kernel_rfl) (by kernel_rfl) (fun _ _ _ h => h) (Or.inl ⟨by rfl, ?_⟩) ?_
                      · rintro w ⟨⟨m0, m1⟩, ⟨s1, d1⟩, ⟨s2, d2⟩, cv1, cv2⟩
                        go_simp <;> (first | done | assumption | exact HEF.out | omega | (intro _; omega))
                      try simp only [Act.put, List.setIfInBounds_toArray, List.set_cons_zero, List.set_cons_succ]
                      refine tk 25 113 (.slice x xs.length c1) hHeld rfl (by kernel_rfl) (by kernel_rfl) (by kernel_rfl) (fun _ _ _ h => h) (Or.inl ⟨by rfl, ?_⟩) ?_
                      · rintro w ⟨⟨m0, m1⟩, ⟨s1, d1⟩, ⟨s2, d2⟩, cv1, cv2⟩
                        go_simp <;> (first | done | assumption | exact HEF.out | omega | (intro _; omega))
                      try simp only [Act.put, List.setIfInBounds_toArray, List.set_cons_zero, List.set_cons_succ]
                      refine tk 26 114 (.string (str (byB xs))) hHeld rfl (by kernel_rfl) (by kernel_rfl) (by kernel_rfl) (fun _ _ _ h => h) (Or.inl ⟨by rfl, ?_⟩) ?_
                      · rintro w ⟨⟨m0, m1⟩, ⟨s1, d1⟩, ⟨s2, d2⟩, cv1, cv2⟩
                        go_simp <;> (first | done | assumption | exact HEF.out | omega | (intro _; omega))
                      try simp only [Act.put, List.setIfInBounds_toArray, List.set_cons_zero, List.set_cons_succ]
                      refine tk 27 115 (.pointer (some ⟨q, 1, none⟩)) hHeld rfl (by kernel_rfl) (by kernel_rfl) (by kernel_rfl) (fun _ _ _ h => h) (Or.inl ⟨by rfl, ?_⟩) ?_
                      · rintro w ⟨⟨m0, m1⟩, ⟨s1, d1⟩, ⟨s2, d2⟩, cv1, cv2⟩
                        go_simp <;> (first | done | assumption | exact HEF.out | omega | (intro _; omega))
                      try simp only [Act.put, List.setIfInBounds_toArray, List.set_cons_zero, List.set_cons_succ]
                      refine tk 28 116 (.pointer (some ⟨q, 1, none⟩)) hHeld rfl (by kernel_rfl) (by kernel_rfl) (by kernel_rfl) (fun _ _ _ h => h) (Or.inl ⟨by rfl, ?_⟩) ?_
                      · rintro w ⟨⟨m0, m1⟩, ⟨s1, d1⟩, ⟨s2, d2⟩, cv1, cv2⟩
                        go_simp <;> (first | done | assumption | exact HEF.out | omega | (intro _; omega))
                      try simp only [Act.put, List.setIfInBounds_toArray, List.set_cons_zero, List.set_cons_succ]
                      refine tk 29 117 (.pointer (some ⟨q, 3, none⟩)) hHeld rfl (by kernel_rfl) (by kernel_rfl) (by kernel_rfl) (fun _ _ _ h => h) (Or.inl ⟨by rfl, ?_⟩) ?_
                      · rintro w ⟨⟨m0, m1⟩, ⟨s1, d1⟩, ⟨s2, d2⟩, cv1, cv2⟩
                        go_simp <;> (first | done | assumption | exact HEF.out | omega | (intro _; omega))
                      try simp only [Act.put, List.setIfInBounds_toArray, List.set_cons_zero, List.set_cons_succ]
                      refine tk 30 118 (.slice (some ⟨b2, o2, none⟩) n' cc') hHeld rfl (by kernel_rfl) (by kernel_rfl) (by kernel_rfl) (fun _ _ _ h => h) (Or.inl ⟨by rfl, ?_⟩) ?_
                      · rintro w ⟨⟨m0, m1⟩, ⟨s1, d1⟩, ⟨s2, d2⟩, cv1, cv2⟩
                        go_simp <;> (first | done | assumption | exact HEF.out | omega | (intro _; omega))
                      try simp only [Act.put, List.setIfInBounds_toArray, List.set_cons_zero, List.set_cons_succ]
                      refine tk 31 119 (.int .i64 k) hHeld rfl (by kernel_rfl) (by kernel_rfl) (by kernel_rfl) (fun _ _ _ h => h) (Or.inl ⟨by rfl, ?_⟩) ?_
                      · rintro w ⟨⟨m0, m1⟩, ⟨s1, d1⟩, ⟨s2, d2⟩, cv1, cv2⟩
                        go_simp <;> (first | done | assumption | exact HEF.out | omega | (intro _; omega))
                      try simp only [Act.put, List.setIfInBounds_toArray, List.set_cons_zero, List.set_cons_succ]
                      refine tk 32 120 (.pointer (some ⟨b2, o2 + k * 2, none⟩)) hHeld rfl (by kernel_rfl) (by kernel_rfl) (by kernel_rfl) (fun _ _ _ h => h) (Or.inl ⟨by rfl, ?_⟩) ?_
                      · rintro w ⟨⟨m0, m1⟩, ⟨s1, d1⟩, ⟨s2, d2⟩, cv1, cv2⟩
                        go_simp <;> (first | done | assumption | exact HEF.out | omega | (intro _; omega))
                      try simp only [Act.put, List.setIfInBounds_toArray, List.set_cons_zero, List.set_cons_succ]
                      refine tk 33 121 (.pointer (some ⟨b2, o2 + k * 2 + 1, none⟩)) hHeld rfl (by kernel_rfl) (by kernel_rfl) (by kernel_rfl) (fun _ _ _ h => h) (Or.inl ⟨by rfl, ?_⟩) ?_
                      · rintro w ⟨⟨m0, m1⟩, ⟨s1, d1⟩, ⟨s2, d2⟩, cv1, cv2⟩
                        go_simp <;> (first | done | assumption | exact HEF.out | omega | (intro _; omega))
                      try simp only [Act.put, List.setIfInBounds_toArray, List.set_cons_zero, List.set_cons_succ]
                      refine tk 34 122 (.slice y ys.length c2) hHeld rfl (by kernel_rfl) (by kernel_rfl) (by kernel_rfl) (fun _ _ _ h => h) (Or.inl ⟨by rfl, ?_⟩) ?_
                      · rintro w ⟨⟨m0, m1⟩, ⟨s1, d1⟩, ⟨s2, d2⟩, cv1, cv2⟩
                        go_simp <;> (first | done | assumption | exact HEF.out | omega | (intro _; omega))
                      try simp only [Act.put, List.setIfInBounds_toArray, List.set_cons_zero, List.set_cons_succ]
                      refine tk 35 123 (.string (str (byB ys))) hHeld rfl (by kernel_rfl) (by kernel_rfl) (by kernel_rfl) (fun _ _ _ h => h) (Or.inl ⟨by rfl, ?_⟩) ?_
                      · rintro w ⟨⟨m0, m1⟩, ⟨s1, d1⟩, ⟨s2, d2⟩, cv1, cv2⟩
                        go_simp <;> (first | done | assumption | exact HEF.out | omega | (intro _; omega))
                      try simp only [Act.put, List.setIfInBounds_toArray, List.set_cons_zero, List.set_cons_succ]
                      refine tk 36 124 (.bool true) hHeld rfl (by kernel_rfl) (by kernel_rfl) (by kernel_rfl) (fun _ _ _ h => h) (Or.inl ⟨by rfl, ?_⟩) ?_
                      · rintro w ⟨⟨m0, m1⟩, ⟨s1, d1⟩, ⟨s2, d2⟩, cv1, cv2⟩
                        go_simp <;> (first | done | assumption | exact HEF.out | omega | (intro _; omega))
                      try simp only [Act.put, List.setIfInBounds_toArray, List.set_cons_zero, List.set_cons_succ]
                      refine tk 37 125 (.bool true) hHeld rfl (by kernel_rfl) (by kernel_rfl) (by kernel_rfl) (fun _ _ _ h => h) (Or.inl ⟨by rfl, ?_⟩) ?_
                      · rintro w ⟨⟨m0, m1⟩, ⟨s1, d1⟩, ⟨s2, d2⟩, cv1, cv2⟩
                        go_simp <;> (first | done | assumption | exact HEF.out | omega | (intro _; omega))
                      try simp only [Act.put, List.setIfInBounds_toArray, List.set_cons_zero, List.set_cons_succ]
                      refine wpAnyH_done (by kernel_rfl) ?_ _
                      go_wp2_with fail
                      go_ret
                      exact ⟨_, rfl, HE.out, below_next BV.out (Below.refl _ _).drew⟩
                  · have heb : (e == f) = false := by simp [hef]
                    have HEF := hide hef
                    have HE := hide (HNo.out (fun h9 => hef h9.1))
                    clear hef
                    go_wp2_with fail
                    clear m0 m1
                    refine wp_region_held_drew (S := fun u : World => (u.cell? ⟨p, 3, none⟩ = some (.slice (some ⟨b1, o1, none⟩) n cc) ∧ u.cell? ⟨q, 3, none⟩ = some (.slice (some ⟨b2, o2, none⟩) n' cc')) ∧ (u.cell? ⟨b1, o1 + k * 2, none⟩ = some (.int .i64 e) ∧ u.cell? ⟨b1, o1 + k * 2 + 1, none⟩ = some (.slice x xs.length c1)) ∧ (u.cell? ⟨b2, o2 + k * 2, none⟩ = some (.int .i64 f) ∧ u.cell? ⟨b2, o2 + k * 2 + 1, none⟩ = some (.slice y ys.length c2)) ∧ (Sem.run Try.prog (convert 28 9 (.slice x xs.length c1)) u = .ok (.string (str (byB xs))) u) ∧ (Sem.run Try.prog (convert 28 9 (.slice y ys.length c2)) u = .ok (.string (str (byB ys))) u)) (by kernel_rfl) (KS.out _ (Below.refl _ _).drew) (fun hHeld => ?_)
                    change wpAnyH _ _ _ _ _ _ (Array.replicate _ false) _ _
                    refine tk 0 88 (.pointer (some ⟨p, 1, none⟩)) hHeld rfl (by kernel_rfl) (by kernel_rfl) (by kernel_rfl) (fun _ _ _ h => h) (Or.inl ⟨by rfl, ?_⟩) ?_
                    · rintro w ⟨⟨m0, m1⟩, ⟨s1, d1⟩, ⟨s2, d2⟩, cv1, cv2⟩
                      go_simp <;> (first | done | assumption | exact HEF.out | omega | (intro _; omega))
                    try simp only [Act.put, List.setIfInBounds_toArray, List.set_cons_zero, List.set_cons_succ]
                    refine tk 1 89 (.pointer (some ⟨p, 1, none⟩)) hHeld rfl (by kernel_rfl) (by kernel_rfl) (by kernel_rfl) (fun _ _ _ h => h) (Or.inl ⟨by rfl, ?_⟩) ?_
                    · rintro w ⟨⟨m0, m1⟩, ⟨s1, d1⟩, ⟨s2, d2⟩, cv1, cv2⟩
                      go_simp <;> (first | done | assumption | exact HEF.out | omega | (intro _; omega))
                    try simp only [Act.put, List.setIfInBounds_toArray, List.set_cons_zero, List.set_cons_succ]
                    refine tk 2 90 (.pointer (some ⟨p, 3, none⟩)) hHeld rfl (by kernel_rfl) (by kernel_rfl) (by kernel_rfl) (fun _ _ _ h => h) (Or.inl ⟨by rfl, ?_⟩) ?_
                    · rintro w ⟨⟨m0, m1⟩, ⟨s1, d1⟩, ⟨s2, d2⟩, cv1, cv2⟩
                      go_simp <;> (first | done | assumption | exact HEF.out | omega | (intro _; omega))
                    try simp only [Act.put, List.setIfInBounds_toArray, List.set_cons_zero, List.set_cons_succ]
                    refine tk 3 91 (.slice (some ⟨b1, o1, none⟩) n cc) hHeld rfl (by kernel_rfl) (by kernel_rfl) (by kernel_rfl) (fun _ _ _ h => h) (Or.inl ⟨by rfl, ?_⟩) ?_
                    · rintro w ⟨⟨m0, m1⟩, ⟨s1, d1⟩, ⟨s2, d2⟩, cv1, cv2⟩
                      go_simp <;> (first | done | assumption | exact HEF.out | omega | (intro _; omega))
                    try simp only [Act.put, List.setIfInBounds_toArray, List.set_cons_zero, List.set_cons_succ]
                    refine tk 4 92 (.int .i64 k) hHeld rfl (by kernel_rfl) (by kernel_rfl) (by kernel_rfl) (fun _ _ _ h => h) (Or.inl ⟨by rfl, ?_⟩) ?_
                    · rintro w ⟨⟨m0, m1⟩, ⟨s1, d1⟩, ⟨s2, d2⟩, cv1, cv2⟩
                      go_simp <;> (first | done | assumption | exact HEF.out | omega | (intro _; omega))
                    try simp only [Act.put, List.setIfInBounds_toArray, List.set_cons_zero, List.set_cons_succ]
                    refine tk 5 93 (.pointer (some ⟨b1, o1 + k * 2, none⟩)) hHeld rfl (by kernel_rfl) (by kernel_rfl) (by kernel_rfl) (fun _ _ _ h => h) (Or.inl ⟨by rfl, ?_⟩) ?_
                    · rintro w ⟨⟨m0, m1⟩, ⟨s1, d1⟩, ⟨s2, d2⟩, cv1, cv2⟩
                      go_simp <;> (first | done | assumption | exact HEF.out | omega | (intro _; omega))
                    try simp only [Act.put, List.setIfInBounds_toArray, List.set_cons_zero, List.set_cons_succ]
                    refine tk 6 94 (.pointer (some ⟨b1, o1 + k * 2, none⟩)) hHeld rfl (by kernel_rfl) (by kernel_rfl) (by kernel_rfl) (fun _ _ _ h => h) (Or.inl ⟨by rfl, ?_⟩) ?_
                    · rintro w ⟨⟨m0, m1⟩, ⟨s1, d1⟩, ⟨s2, d2⟩, cv1, cv2⟩
                      go_simp <;> (first | done | assumption | exact HEF.out | omega | (intro _; omega))
                    try simp only [Act.put, List.setIfInBounds_toArray, List.set_cons_zero, List.set_cons_succ]
                    refine tk 7 95 (.int .i64 e) hHeld rfl (by kernel_rfl) (by kernel_rfl) (by kernel_rfl) (fun _ _ _ h => h) (Or.inl ⟨by rfl, ?_⟩) ?_
                    · rintro w ⟨⟨m0, m1⟩, ⟨s1, d1⟩, ⟨s2, d2⟩, cv1, cv2⟩
                      go_simp <;> (first | done | assumption | exact HEF.out | omega | (intro _; omega))
                    try simp only [Act.put, List.setIfInBounds_toArray, List.set_cons_zero, List.set_cons_succ]
                    refine tk 8 96 (.pointer (some ⟨q, 1, none⟩)) hHeld rfl (by kernel_rfl) (by kernel_rfl) (by kernel_rfl) (fun _ _ _ h => h) (Or.inl ⟨by rfl, ?_⟩) ?_
                    · rintro w ⟨⟨m0, m1⟩, ⟨s1, d1⟩, ⟨s2, d2⟩, cv1, cv2⟩
                      go_simp <;> (first | done | assumption | exact HEF.out | omega | (intro _; omega))
                    try simp only [Act.put, List.setIfInBounds_toArray, List.set_cons_zero, List.set_cons_succ]
                    refine tk 9 97 (.pointer (some ⟨q, 1, none⟩)) hHeld rfl (by kernel_rfl) (by kernel_rfl) (by kernel_rfl) (fun _ _ _ h => h) (Or.inl ⟨by rfl, ?_⟩) ?_
                    · rintro w ⟨⟨m0, m1⟩, ⟨s1, d1⟩, ⟨s2, d2⟩, cv1, cv2⟩
                      go_simp <;> (first | done | assumption | exact HEF.out | omega | (intro _; omega))
                    try simp only [Act.put, List.setIfInBounds_toArray, List.set_cons_zero, List.set_cons_succ]
                    refine tk 10 98 (.pointer (some ⟨q, 3, none⟩)) hHeld rfl (by kernel_rfl) (by kernel_rfl) (by kernel_rfl) (fun _ _ _ h => h) (Or.inl ⟨by rfl, ?_⟩) ?_
                    · rintro w ⟨⟨m0, m1⟩, ⟨s1, d1⟩, ⟨s2, d2⟩, cv1, cv2⟩
                      go_simp <;> (first | done | assumption | exact HEF.out | omega | (intro _; omega))
                    try simp only [Act.put, List.setIfInBounds_toArray, List.set_cons_zero, List.set_cons_succ]
                    refine tk 11 99 (.slice (some ⟨b2, o2, none⟩) n' cc') hHeld rfl (by kernel_rfl) (by kernel_rfl) (by kernel_rfl) (fun _ _ _ h => h) (Or.inl ⟨by rfl, ?_⟩) ?_
                    · rintro w ⟨⟨m0, m1⟩, ⟨s1, d1⟩, ⟨s2, d2⟩, cv1, cv2⟩
                      go_simp <;> (first | done | assumption | exact HEF.out | omega | (intro _; omega))
                    try simp only [Act.put, List.setIfInBounds_toArray, List.set_cons_zero, List.set_cons_succ]
                    refine tk 12 100 (.int .i64 k) hHeld rfl (by kernel_rfl) (by kernel_rfl) (by kernel_rfl) (fun _ _ _ h => h) (Or.inl ⟨by rfl, ?_⟩) ?_
                    · rintro w ⟨⟨m0, m1⟩, ⟨s1, d1⟩, ⟨s2, d2⟩, cv1, cv2⟩
                      go_simp <;> (first | done | assumption | exact HEF.out | omega | (intro _; omega))
                    try simp only [Act.put, List.setIfInBounds_toArray, List.set_cons_zero, List.set_cons_succ]
                    refine tk 13 101 (.pointer (some ⟨b2, o2 + k * 2, none⟩)) hHeld rfl (by kernel_rfl) (by kernel_rfl) (by kernel_rfl) (fun _ _ _ h => h) (Or.inl ⟨by rfl, ?_⟩) ?_
                    · rintro w ⟨⟨m0, m1⟩, ⟨s1, d1⟩, ⟨s2, d2⟩, cv1, cv2⟩
                      go_simp <;> (first | done | assumption | exact HEF.out | omega | (intro _; omega))
                    try simp only [Act.put, List.setIfInBounds_toArray, List.set_cons_zero, List.set_cons_succ]
                    refine tk 14 102 (.pointer (some ⟨b2, o2 + k * 2, none⟩)) hHeld rfl (by kernel_rfl) (by kernel_rfl) (by kernel_rfl) (fun _ _ _ h => h) (Or.inl ⟨by rfl, ?_⟩) ?_
                    · rintro w ⟨⟨m0, m1⟩, ⟨s1, d1⟩, ⟨s2, d2⟩, cv1, cv2⟩
                      go_simp <;> (first | done | assumption | exact HEF.out | omega | (intro _; omega))
                    try simp only [Act.put, List.setIfInBounds_toArray, List.set_cons_zero, List.set_cons_succ]
                    refine tk 15 103 (.int .i64 f) hHeld rfl (by kernel_rfl) (by kernel_rfl) (by kernel_rfl) (fun _ _ _ h => h) (Or.inl ⟨by rfl, ?_⟩) ?_
                    · rintro w ⟨⟨m0, m1⟩, ⟨s1, d1⟩, ⟨s2, d2⟩, cv1, cv2⟩
                      go_simp <;> (first | done | assumption | exact HEF.out | omega | (intro _; omega))
                    try simp only [Act.put, List.setIfInBounds_toArray, List.set_cons_zero, List.set_cons_succ]
                    refine tk 16 104 (.bool true) hHeld rfl (by kernel_rfl) (by kernel_rfl) (by kernel_rfl) (fun _ _ _ h => h) (Or.inl ⟨by rfl, ?_⟩) ?_
                    · rintro w ⟨⟨m0, m1⟩, ⟨s1, d1⟩, ⟨s2, d2⟩, cv1, cv2⟩
                      go_simp <;> (first | done | assumption | exact HEF.out | omega | (intro _; omega))
                    try simp only [Act.put, List.setIfInBounds_toArray, List.set_cons_zero, List.set_cons_succ]
                    refine tk 17 105 (.bool true) hHeld rfl (by kernel_rfl) (by kernel_rfl) (by kernel_rfl) (fun _ _ _ h => h) (Or.inl ⟨by rfl, ?_⟩) ?_
                    · rintro w ⟨⟨m0, m1⟩, ⟨s1, d1⟩, ⟨s2, d2⟩, cv1, cv2⟩
                      go_simp <;> (first | done | assumption | exact HEF.out | omega | (intro _; omega))
                    try simp only [Act.put, List.setIfInBounds_toArray, List.set_cons_zero, List.set_cons_succ]
                    refine tk 18 106 undef hHeld rfl (by kernel_rfl) (by kernel_rfl) (by kernel_rfl) (fun _ _ _ h => h) (Or.inr ⟨by rfl, rfl⟩) ?_
                    try simp only [Act.put, List.setIfInBounds_toArray, List.set_cons_zero, List.set_cons_succ]
                    refine tk 19 107 undef hHeld rfl (by kernel_rfl) (by kernel_rfl) (by kernel_rfl) (fun _ _ _ h => h) (Or.inr ⟨by rfl, rfl⟩) ?_
                    try simp only [Act.put, List.setIfInBounds_toArray, List.set_cons_zero, List.set_cons_succ]
                    refine tk 20 108 undef hHeld rfl (by kernel_rfl) (by kernel_rfl) (by kernel_rfl) (fun _ _ _ h => h) (Or.inr ⟨by rfl, rfl⟩) ?_
                    try simp only [Act.put, List.setIfInBounds_toArray, List.set_cons_zero, List.set_cons_succ]
                    refine tk 21 109 undef hHeld rfl (by kernel_rfl) (by kernel_rfl) (by kernel_rfl) (fun _ _ _ h => h) (Or.inr ⟨by rfl, rfl⟩) ?_
                    try simp only [Act.put, List.setIfInBounds_toArray, List.set_cons_zero, List.set_cons_succ]
                    refine tk 22 110 undef hHeld rfl (by kernel_rfl) (by kernel_rfl) (by kernel_rfl) (fun _ _ _ h => h) (Or.inr ⟨by rfl, rfl⟩) ?_
                    try simp only [Act.put, List.setIfInBounds_toArray, List.set_cons_zero, List.set_cons_succ]
                    refine tk 23 111 undef hHeld rfl (by kernel_rfl) (by kernel_rfl) (by kernel_rfl) (fun _ _ _ h => h) (Or.inr ⟨by rfl, rfl⟩) ?_
                    try simp only [Act.put, List.setIfInBounds_toArray, List.set_cons_zero, List.set_cons_succ]
                    refine tk 24 112 undef hHeld rfl (by kernel_rfl) (by kernel_rfl) (by kernel_rfl) (fun _ _ _ h => h) (Or.inr ⟨by rfl, rfl⟩) ?_
                    try simp only [Act.put, List.setIfInBounds_toArray, List.set_cons_zero, List.set_cons_succ]
                    refine tk 25 113 undef hHeld rfl (by kernel_rfl) (by kernel_rfl) (by kernel_rfl) (fun _ _ _ h => h) (Or.inr ⟨by rfl, rfl⟩) ?_
                    try simp only [Act.put, List.setIfInBounds_toArray, List.set_cons_zero, List.set_cons_succ]
                    refine tk 26 114 undef hHeld rfl (by kernel_rfl) (by kernel_rfl) (by kernel_rfl) (fun _ _ _ h => h) (Or.inr ⟨by rfl, rfl⟩) ?_
                    try simp only [Act.put, List.setIfInBounds_toArray, List.set_cons_zero, List.set_cons_succ]
                    refine tk 27 115 undef hHeld rfl (by kernel_rfl) (by kernel_rfl) (by kernel_rfl) (fun _ _ _ h => h) (Or.inr ⟨by rfl, rfl⟩) ?_
                    try simp only [Act.put, List.setIfInBounds_toArray, List.set_cons_zero, List.set_cons_succ]
                    refine tk 28 116 undef hHeld rfl (by kernel_rfl) (by kernel_rfl) (by kernel_rfl) (fun _ _ _ h => h) (Or.inr ⟨by rfl, rfl⟩) ?_
                    try simp only [Act.put, List.setIfInBounds_toArray, List.set_cons_zero, List.set_cons_succ]
                    refine tk 29 117 undef hHeld rfl (by kernel_rfl) (by kernel_rfl) (by kernel_rfl) (fun _ _ _ h => h) (Or.inr ⟨by rfl, rfl⟩) ?_
                    try simp only [Act.put, List.setIfInBounds_toArray, List.set_cons_zero, List.set_cons_succ]
                    refine tk 30 118 undef hHeld rfl (by kernel_rfl) (by kernel_rfl) (by kernel_rfl) (fun _ _ _ h => h) (Or.inr ⟨by rfl, rfl⟩) ?_
                    try simp only [Act.put, List.setIfInBounds_toArray, List.set_cons_zero, List.set_cons_succ]
                    refine tk 31 119 undef hHeld rfl (by kernel_rfl) (by kernel_rfl) (by kernel_rfl) (fun _ _ _ h => h) (Or.inr ⟨by rfl, rfl⟩) ?_
                    try simp only [Act.put, List.setIfInBounds_toArray, List.set_cons_zero, List.set_cons_succ]
                    refine tk 32 120 undef hHeld rfl (by kernel_rfl) (by kernel_rfl) (by kernel_rfl) (fun _ _ _ h => h) (Or.inr ⟨by rfl, rfl⟩) ?_
                    try simp only [Act.put, List.setIfInBounds_toArray, List.set_cons_zero, List.set_cons_succ]
                    refine tk 33 121 undef hHeld rfl (by kernel_rfl) (by kernel_rfl) (by kernel_rfl) (fun _ _ _ h => h) (Or.inr ⟨by rfl, rfl⟩) ?_
                    try simp only [Act.put, List.setIfInBounds_toArray, List.set_cons_zero, List.set_cons_succ]
                    refine tk 34 122 undef hHeld rfl (by kernel_rfl) (by kernel_rfl) (by kernel_rfl) (fun _ _ _ h => h) (Or.inr ⟨by rfl, rfl⟩) ?_
                    try simp only [Act.put, List.setIfInBounds_toArray, List.set_cons_zero, List.set_cons_succ]
                    refine tk 35 123 undef hHeld rfl (by kernel_rfl) (by kernel_rfl) (by kernel_rfl) (fun _ _ _ h => h) (Or.inr ⟨by rfl, rfl⟩) ?_
                    try simp only [Act.put, List.setIfInBounds_toArray, List.set_cons_zero, List.set_cons_succ]
                    refine tk 36 124 undef hHeld rfl (by kernel_rfl) (by kernel_rfl) (by kernel_rfl) (fun _ _ _ h => h) (Or.inr ⟨by rfl, rfl⟩) ?_
                    try simp only [Act.put, List.setIfInBounds_toArray, List.set_cons_zero, List.set_cons_succ]
                    refine tk 37 125 (.bool true) hHeld rfl (by kernel_rfl) (by kernel_rfl) (by kernel_rfl) (fun _ _ _ h => h) (Or.inl ⟨by rfl, ?_⟩) ?_
                    · rintro w ⟨⟨m0, m1⟩, ⟨s1, d1⟩, ⟨s2, d2⟩, cv1, cv2⟩
                      go_simp <;> (first | done | assumption | exact HEF.out | omega | (intro _; omega))
                    try simp only [Act.put, List.setIfInBounds_toArray, List.set_cons_zero, List.set_cons_succ]
                    refine wpAnyH_done (by kernel_rfl) ?_ _
                    go_wp2_with fail
                    go_ret
                    exact ⟨_, rfl, HE.out, below_next BV.out (Below.refl _ _).drew⟩
                · have hki : ¬ (k : Int) < (n : Int) := by omega
                  have HE := hide (show SameX l W F D P n l' W' F' D' P' n' from ⟨HLs.out, HWe.out, HFe.out, HNn.out, fun i hi => HT.out i (by omega)⟩)
                  obtain ⟨m0, m1, m2, m3, m4, m5⟩ := X1.out.below HV.out
                  go_wp2_with fail
                  go_ret
                  exact ⟨_, rfl, ⟨fun _ => HE.out, fun _ => rfl⟩, BV.out⟩
      · have hnb : ((n : Int) != (n' : Int)) = true := by simp; omega
        have HNn := hide hnn
        clear hnn
        have HX := hide (show false = true ↔ SameX l W F D P n l' W' F' D' P' n' from ⟨fun e => Bool.noConfusion e, fun e => absurd e.2.2.2.1 HNn.out⟩)
        refine wp_region_held_drew (S := fun u : World => Six u p (.slice sa l.length sc) (.slice wa W.length wc) (.slice fa F.length fc) (.slice ca n cc) (.slice ga gn gc) (.slice la ln lc) ∧ Six u q (.slice sa' l'.length sc') (.slice wa' W'.length wc') (.slice fa' F'.length fc') (.slice ca' n' cc') (.slice ga' gn' gc') (.slice la' ln' lc')) (by kernel_rfl) (KC.out _ (Below.refl _ _).drew) (fun hHeld => ?_)
        change wpAnyH _ _ _ _ _ _ (Array.replicate _ false) _ _
        refine tk 0 11 (.pointer (some ⟨p, 0, none⟩)) hHeld rfl (by kernel_rfl) (by kernel_rfl) (by kernel_rfl) (fun _ _ _ h => h) (Or.inl ⟨by rfl, ?_⟩) ?_
        · rintro w ⟨⟨p0, p1, p2, p3, p4, p5⟩, q0, q1, q2, q3, q4, q5⟩
          go_simp <;> (first | done | assumption | omega | exact HWl.out | exact HNn.out | exact congrArg _ HWl.out | exact congrArg _ HNn.out | (intro _; omega))
        try simp only [Act.put, List.setIfInBounds_toArray, List.set_cons_zero, List.set_cons_succ]
        refine tk 1 12 (.slice sa l.length sc) hHeld rfl (by kernel_rfl) (by kernel_rfl) (by kernel_rfl) (fun _ _ _ h => h) (Or.inl ⟨by rfl, ?_⟩) ?_
        · rintro w ⟨⟨p0, p1, p2, p3, p4, p5⟩, q0, q1, q2, q3, q4, q5⟩
          go_simp <;> (first | done | assumption | omega | exact HWl.out | exact HNn.out | exact congrArg _ HWl.out | exact congrArg _ HNn.out | (intro _; omega))
        try simp only [Act.put, List.setIfInBounds_toArray, List.set_cons_zero, List.set_cons_succ]
        refine tk 2 13 (.pointer (some ⟨q, 0, none⟩)) hHeld rfl (by kernel_rfl) (by kernel_rfl) (by kernel_rfl) (fun _ _ _ h => h) (Or.inl ⟨by rfl, ?_⟩) ?_
        · rintro w ⟨⟨p0, p1, p2, p3, p4, p5⟩, q0, q1, q2, q3, q4, q5⟩
          go_simp <;> (first | done | assumption | omega | exact HWl.out | exact HNn.out | exact congrArg _ HWl.out | exact congrArg _ HNn.out | (intro _; omega))
        try simp only [Act.put, List.setIfInBounds_toArray, List.set_cons_zero, List.set_cons_succ]
        refine tk 3 14 (.slice sa' l'.length sc') hHeld rfl (by kernel_rfl) (by kernel_rfl) (by kernel_rfl) (fun _ _ _ h => h) (Or.inl ⟨by rfl, ?_⟩) ?_
        · rintro w ⟨⟨p0, p1, p2, p3, p4, p5⟩, q0, q1, q2, q3, q4, q5⟩
          go_simp <;> (first | done | assumption | omega | exact HWl.out | exact HNn.out | exact congrArg _ HWl.out | exact congrArg _ HNn.out | (intro _; omega))
        try simp only [Act.put, List.setIfInBounds_toArray, List.set_cons_zero, List.set_cons_succ]
        refine wpAnyH_ready (rs := [4]) (by kernel_rfl) (by simp) ?_
        refine AllReadyH.cons rfl (fun K hK => ?_) AllReadyH.nil
        go_simp
        refine (H1.out _ (below_next HB.out (Below.refl _ _).drew)).mono ?_
        rintro r w3 ⟨z, rfl, hz, hb3⟩
        have BB1 := hide ((Below.refl W0.heap.size W0).drew.trans hb3)
        have hzz : z = true := hz.2 HLs.out
        subst hzz
        clear hb3 hz
        go_wp2_with fail
        refine hK.out _ _ (KC.out _ BB1.out) (fun hHeld => ?_)
        clear hK K
        try simp only [Act.put, List.setIfInBounds_toArray, List.set_cons_zero, List.set_cons_succ]
        refine tk 5 16 (.bool false) hHeld rfl (by kernel_rfl) (by kernel_rfl) (by kernel_rfl) (fun _ _ _ h => h) (Or.inl ⟨by rfl, ?_⟩) ?_
        · rintro w ⟨⟨p0, p1, p2, p3, p4, p5⟩, q0, q1, q2, q3, q4, q5⟩
          go_simp <;> (first | done | assumption | omega | exact HWl.out | exact HNn.out | exact congrArg _ HWl.out | exact congrArg _ HNn.out | (intro _; omega))
        try simp only [Act.put, List.setIfInBounds_toArray, List.set_cons_zero, List.set_cons_succ]
        refine tk 6 17 (.bool false) hHeld rfl (by kernel_rfl) (by kernel_rfl) (by kernel_rfl) (fun _ _ _ h => h) (Or.inl ⟨by rfl, ?_⟩) ?_
        · rintro w ⟨⟨p0, p1, p2, p3, p4, p5⟩, q0, q1, q2, q3, q4, q5⟩
          go_simp <;> (first | done | assumption | omega | exact HWl.out | exact HNn.out | exact congrArg _ HWl.out | exact congrArg _ HNn.out | (intro _; omega))
        try simp only [Act.put, List.setIfInBounds_toArray, List.set_cons_zero, List.set_cons_succ]
        refine tk 7 18 (.pointer (some ⟨p, 1, none⟩)) hHeld rfl (by kernel_rfl) (by kernel_rfl) (by kernel_rfl) (fun _ _ _ h => h) (Or.inl ⟨by rfl, ?_⟩) ?_
        · rintro w ⟨⟨p0, p1, p2, p3, p4, p5⟩, q0, q1, q2, q3, q4, q5⟩
          go_simp <;> (first | done | assumption | omega | exact HWl.out | exact HNn.out | exact congrArg _ HWl.out | exact congrArg _ HNn.out | (intro _; omega))
        try simp only [Act.put, List.setIfInBounds_toArray, List.set_cons_zero, List.set_cons_succ]
        refine tk 8 19 (.pointer (some ⟨p, 1, none⟩)) hHeld rfl (by kernel_rfl) (by kernel_rfl) (by kernel_rfl) (fun _ _ _ h => h) (Or.inl ⟨by rfl, ?_⟩) ?_
        · rintro w ⟨⟨p0, p1, p2, p3, p4, p5⟩, q0, q1, q2, q3, q4, q5⟩
          go_simp <;> (first | done | assumption | omega | exact HWl.out | exact HNn.out | exact congrArg _ HWl.out | exact congrArg _ HNn.out | (intro _; omega))
        try simp only [Act.put, List.setIfInBounds_toArray, List.set_cons_zero, List.set_cons_succ]
        refine tk 9 20 (.pointer (some ⟨p, 1, none⟩)) hHeld rfl (by kernel_rfl) (by kernel_rfl) (by kernel_rfl) (fun _ _ _ h => h) (Or.inl ⟨by rfl, ?_⟩) ?_
        · rintro w ⟨⟨p0, p1, p2, p3, p4, p5⟩, q0, q1, q2, q3, q4, q5⟩
          go_simp <;> (first | done | assumption | omega | exact HWl.out | exact HNn.out | exact congrArg _ HWl.out | exact congrArg _ HNn.out | (intro _; omega))
        try simp only [Act.put, List.setIfInBounds_toArray, List.set_cons_zero, List.set_cons_succ]
        refine tk 10 21 (.slice wa W.length wc) hHeld rfl (by kernel_rfl) (by kernel_rfl) (by kernel_rfl) (fun _ _ _ h => h) (Or.inl ⟨by rfl, ?_⟩) ?_
        · rintro w ⟨⟨p0, p1, p2, p3, p4, p5⟩, q0, q1, q2, q3, q4, q5⟩
          go_simp <;> (first | done | assumption | omega | exact HWl.out | exact HNn.out | exact congrArg _ HWl.out | exact congrArg _ HNn.out | (intro _; omega))
        try simp only [Act.put, List.setIfInBounds_toArray, List.set_cons_zero, List.set_cons_succ]
        refine tk 11 22 (.int .i64 (W.length : Nat)) hHeld rfl (by kernel_rfl) (by kernel_rfl) (by kernel_rfl) (fun _ _ _ h => h) (Or.inl ⟨by rfl, ?_⟩) ?_
        · rintro w ⟨⟨p0, p1, p2, p3, p4, p5⟩, q0, q1, q2, q3, q4, q5⟩
          go_simp <;> (first | done | assumption | omega | exact HWl.out | exact HNn.out | exact congrArg _ HWl.out | exact congrArg _ HNn.out | (intro _; omega))
        try simp only [Act.put, List.setIfInBounds_toArray, List.set_cons_zero, List.set_cons_succ]
        refine tk 12 23 (.pointer (some ⟨q, 1, none⟩)) hHeld rfl (by kernel_rfl) (by kernel_rfl) (by kernel_rfl) (fun _ _ _ h => h) (Or.inl ⟨by rfl, ?_⟩) ?_
        · rintro w ⟨⟨p0, p1, p2, p3, p4, p5⟩, q0, q1, q2, q3, q4, q5⟩
          go_simp <;> (first | done | assumption | omega | exact HWl.out | exact HNn.out | exact congrArg _ HWl.out | exact congrArg _ HNn.out | (intro _; omega))
        try simp only [Act.put, List.setIfInBounds_toArray, List.set_cons_zero, List.set_cons_succ]
        refine tk 13 24 (.pointer (some ⟨q, 1, none⟩)) hHeld rfl (by kernel_rfl) (by kernel_rfl) (by kernel_rfl) (fun _ _ _ h => h) (Or.inl ⟨by rfl, ?_⟩) ?_
        · rintro w ⟨⟨p0, p1, p2, p3, p4, p5⟩, q0, q1, q2, q3, q4, q5⟩
          go_simp <;> (first | done | assumption | omega | exact HWl.out | exact HNn.out | exact congrArg _ HWl.out | exact congrArg _ HNn.out | (intro _; omega))
        try simp only [Act.put, List.setIfInBounds_toArray, List.set_cons_zero, List.set_cons_succ]
        refine tk 14 25 (.pointer (some ⟨q, 1, none⟩)) hHeld rfl (by kernel_rfl) (by kernel_rfl) (by kernel_rfl) (fun _ _ _ h => h) (Or.inl ⟨by rfl, ?_⟩) ?_
        · rintro w ⟨⟨p0, p1, p2, p3, p4, p5⟩, q0, q1, q2, q3, q4, q5⟩
          go_simp <;> (first | done | assumption | omega | exact HWl.out | exact HNn.out | exact congrArg _ HWl.out | exact congrArg _ HNn.out | (intro _; omega))
        try simp only [Act.put, List.setIfInBounds_toArray, List.set_cons_zero, List.set_cons_succ]
        refine tk 15 26 (.slice wa' W'.length wc') hHeld rfl (by kernel_rfl) (by kernel_rfl) (by kernel_rfl) (fun _ _ _ h => h) (Or.inl ⟨by rfl, ?_⟩) ?_
        · rintro w ⟨⟨p0, p1, p2, p3, p4, p5⟩, q0, q1, q2, q3, q4, q5⟩
          go_simp <;> (first | done | assumption | omega | exact HWl.out | exact HNn.out | exact congrArg _ HWl.out | exact congrArg _ HNn.out | (intro _; omega))
        try simp only [Act.put, List.setIfInBounds_toArray, List.set_cons_zero, List.set_cons_succ]
        refine tk 16 27 (.int .i64 (W'.length : Nat)) hHeld rfl (by kernel_rfl) (by kernel_rfl) (by kernel_rfl) (fun _ _ _ h => h) (Or.inl ⟨by rfl, ?_⟩) ?_
        · rintro w ⟨⟨p0, p1, p2, p3, p4, p5⟩, q0, q1, q2, q3, q4, q5⟩
          go_simp <;> (first | done | assumption | omega | exact HWl.out | exact HNn.out | exact congrArg _ HWl.out | exact congrArg _ HNn.out | (intro _; omega))
        try simp only [Act.put, List.setIfInBounds_toArray, List.set_cons_zero, List.set_cons_succ]
        refine tk 17 28 (.bool false) hHeld rfl (by kernel_rfl) (by kernel_rfl) (by kernel_rfl) (fun _ _ _ h => h) (Or.inl ⟨by rfl, ?_⟩) ?_
        · rintro w ⟨⟨p0, p1, p2, p3, p4, p5⟩, q0, q1, q2, q3, q4, q5⟩
          go_simp <;> (first | done | assumption | omega | exact HWl.out | exact HNn.out | exact congrArg _ HWl.out | exact congrArg _ HNn.out | (intro _; omega))
        try simp only [Act.put, List.setIfInBounds_toArray, List.set_cons_zero, List.set_cons_succ]
        refine tk 18 29 (.bool false) hHeld rfl (by kernel_rfl) (by kernel_rfl) (by kernel_rfl) (fun _ _ _ h => h) (Or.inl ⟨by rfl, ?_⟩) ?_
        · rintro w ⟨⟨p0, p1, p2, p3, p4, p5⟩, q0, q1, q2, q3, q4, q5⟩
          go_simp <;> (first | done | assumption | omega | exact HWl.out | exact HNn.out | exact congrArg _ HWl.out | exact congrArg _ HNn.out | (intro _; omega))
        try simp only [Act.put, List.setIfInBounds_toArray, List.set_cons_zero, List.set_cons_succ]
        refine tk 19 30 (.bool false) hHeld rfl (by kernel_rfl) (by kernel_rfl) (by kernel_rfl) (fun _ _ _ h => h) (Or.inl ⟨by rfl, ?_⟩) ?_
        · rintro w ⟨⟨p0, p1, p2, p3, p4, p5⟩, q0, q1, q2, q3, q4, q5⟩
          go_simp <;> (first | done | assumption | omega | exact HWl.out | exact HNn.out | exact congrArg _ HWl.out | exact congrArg _ HNn.out | (intro _; omega))
        try simp only [Act.put, List.setIfInBounds_toArray, List.set_cons_zero, List.set_cons_succ]
        refine tk 20 31 (.pointer (some ⟨p, 1, none⟩)) hHeld rfl (by kernel_rfl) (by kernel_rfl) (by kernel_rfl) (fun _ _ _ h => h) (Or.inl ⟨by rfl, ?_⟩) ?_
        · rintro w ⟨⟨p0, p1, p2, p3, p4, p5⟩, q0, q1, q2, q3, q4, q5⟩
          go_simp <;> (first | done | assumption | omega | exact HWl.out | exact HNn.out | exact congrArg _ HWl.out | exact congrArg _ HNn.out | (intro _; omega))
        try simp only [Act.put, List.setIfInBounds_toArray, List.set_cons_zero, List.set_cons_succ]
        refine tk 21 32 (.pointer (some ⟨p, 1, none⟩)) hHeld rfl (by kernel_rfl) (by kernel_rfl) (by kernel_rfl) (fun _ _ _ h => h) (Or.inl ⟨by rfl, ?_⟩) ?_
        · rintro w ⟨⟨p0, p1, p2, p3, p4, p5⟩, q0, q1, q2, q3, q4, q5⟩
          go_simp <;> (first | done | assumption | omega | exact HWl.out | exact HNn.out | exact congrArg _ HWl.out | exact congrArg _ HNn.out | (intro _; omega))
        try simp only [Act.put, List.setIfInBounds_toArray, List.set_cons_zero, List.set_cons_succ]
        refine tk 22 33 (.pointer (some ⟨p, 3, none⟩)) hHeld rfl (by kernel_rfl) (by kernel_rfl) (by kernel_rfl) (fun _ _ _ h => h) (Or.inl ⟨by rfl, ?_⟩) ?_
        · rintro w ⟨⟨p0, p1, p2, p3, p4, p5⟩, q0, q1, q2, q3, q4, q5⟩
          go_simp <;> (first | done | assumption | omega | exact HWl.out | exact HNn.out | exact congrArg _ HWl.out | exact congrArg _ HNn.out | (intro _; omega))
        try simp only [Act.put, List.setIfInBounds_toArray, List.set_cons_zero, List.set_cons_succ]
        refine tk 23 34 (.slice ca n cc) hHeld rfl (by kernel_rfl) (by kernel_rfl) (by kernel_rfl) (fun _ _ _ h => h) (Or.inl ⟨by rfl, ?_⟩) ?_
        · rintro w ⟨⟨p0, p1, p2, p3, p4, p5⟩, q0, q1, q2, q3, q4, q5⟩
          go_simp <;> (first | done | assumption | omega | exact HWl.out | exact HNn.out | exact congrArg _ HWl.out | exact congrArg _ HNn.out | (intro _; omega))
        try simp only [Act.put, List.setIfInBounds_toArray, List.set_cons_zero, List.set_cons_succ]
        refine tk 24 35 (.int .i64 (n : Nat)) hHeld rfl (by kernel_rfl) (by kernel_rfl) (by kernel_rfl) (fun _ _ _ h => h) (Or.inl ⟨by rfl, ?_⟩) ?_
        · rintro w ⟨⟨p0, p1, p2, p3, p4, p5⟩, q0, q1, q2, q3, q4, q5⟩
          go_simp <;> (first | done | assumption | omega | exact HWl.out | exact HNn.out | exact congrArg _ HWl.out | exact congrArg _ HNn.out | (intro _; omega))
        try simp only [Act.put, List.setIfInBounds_toArray, List.set_cons_zero, List.set_cons_succ]
        refine tk 25 36 (.pointer (some ⟨q, 1, none⟩)) hHeld rfl (by kernel_rfl) (by kernel_rfl) (by kernel_rfl) (fun _ _ _ h => h) (Or.inl ⟨by rfl, ?_⟩) ?_
        · rintro w ⟨⟨p0, p1, p2, p3, p4, p5⟩, q0, q1, q2, q3, q4, q5⟩
          go_simp <;> (first | done | assumption | omega | exact HWl.out | exact HNn.out | exact congrArg _ HWl.out | exact congrArg _ HNn.out | (intro _; omega))
        try simp only [Act.put, List.setIfInBounds_toArray, List.set_cons_zero, List.set_cons_succ]
        refine tk 26 37 (.pointer (some ⟨q, 1, none⟩)) hHeld rfl (by kernel_rfl) (by kernel_rfl) (by kernel_rfl) (fun _ _ _ h => h) (Or.inl ⟨by rfl, ?_⟩) ?_
        · rintro w ⟨⟨p0, p1, p2, p3, p4, p5⟩, q0, q1, q2, q3, q4, q5⟩
          go_simp <;> (first | done | assumption | omega | exact HWl.out | exact HNn.out | exact congrArg _ HWl.out | exact congrArg _ HNn.out | (intro _; omega))
        try simp only [Act.put, List.setIfInBounds_toArray, List.set_cons_zero, List.set_cons_succ]
        refine tk 27 38 (.pointer (some ⟨q, 3, none⟩)) hHeld rfl (by kernel_rfl) (by kernel_rfl) (by kernel_rfl) (fun _ _ _ h => h) (Or.inl ⟨by rfl, ?_⟩) ?_
        · rintro w ⟨⟨p0, p1, p2, p3, p4, p5⟩, q0, q1, q2, q3, q4, q5⟩
          go_simp <;> (first | done | assumption | omega | exact HWl.out | exact HNn.out | exact congrArg _ HWl.out | exact congrArg _ HNn.out | (intro _; omega))
        try simp only [Act.put, List.setIfInBounds_toArray, List.set_cons_zero, List.set_cons_succ]
        refine tk 28 39 (.slice ca' n' cc') hHeld rfl (by kernel_rfl) (by kernel_rfl) (by kernel_rfl) (fun _ _ _ h => h) (Or.inl ⟨by rfl, ?_⟩) ?_
        · rintro w ⟨⟨p0, p1, p2, p3, p4, p5⟩, q0, q1, q2, q3, q4, q5⟩
          go_simp <;> (first | done | assumption | omega | exact HWl.out | exact HNn.out | exact congrArg _ HWl.out | exact congrArg _ HNn.out | (intro _; omega))
        try simp only [Act.put, List.setIfInBounds_toArray, List.set_cons_zero, List.set_cons_succ]
        refine tk 29 40 (.int .i64 (n' : Nat)) hHeld rfl (by kernel_rfl) (by kernel_rfl) (by kernel_rfl) (fun _ _ _ h => h) (Or.inl ⟨by rfl, ?_⟩) ?_
        · rintro w ⟨⟨p0, p1, p2, p3, p4, p5⟩, q0, q1, q2, q3, q4, q5⟩
          go_simp <;> (first | done | assumption | omega | exact HWl.out | exact HNn.out | exact congrArg _ HWl.out | exact congrArg _ HNn.out | (intro _; omega))
        try simp only [Act.put, List.setIfInBounds_toArray, List.set_cons_zero, List.set_cons_succ]
        refine tk 30 41 (.bool true) hHeld rfl (by kernel_rfl) (by kernel_rfl) (by kernel_rfl) (fun _ _ _ h => h) (Or.inl ⟨by rfl, ?_⟩) ?_
        · rintro w ⟨⟨p0, p1, p2, p3, p4, p5⟩, q0, q1, q2, q3, q4, q5⟩
          go_simp <;> (first | done | assumption | omega | exact HWl.out | exact HNn.out | exact congrArg _ HWl.out | exact congrArg _ HNn.out | (intro _; omega))
        try simp only [Act.put, List.setIfInBounds_toArray, List.set_cons_zero, List.set_cons_succ]
        refine tk 31 42 (.bool true) hHeld rfl (by kernel_rfl) (by kernel_rfl) (by kernel_rfl) (fun _ _ _ h => h) (Or.inl ⟨by rfl, ?_⟩) ?_
        · rintro w ⟨⟨p0, p1, p2, p3, p4, p5⟩, q0, q1, q2, q3, q4, q5⟩
          go_simp <;> (first | done | assumption | omega | exact HWl.out | exact HNn.out | exact congrArg _ HWl.out | exact congrArg _ HNn.out | (intro _; omega))
        try simp only [Act.put, List.setIfInBounds_toArray, List.set_cons_zero, List.set_cons_succ]
        refine tk 32 43 (.bool true) hHeld rfl (by kernel_rfl) (by kernel_rfl) (by kernel_rfl) (fun _ _ _ h => h) (Or.inl ⟨by rfl, ?_⟩) ?_
        · rintro w ⟨⟨p0, p1, p2, p3, p4, p5⟩, q0, q1, q2, q3, q4, q5⟩
          go_simp <;> (first | done | assumption | omega | exact HWl.out | exact HNn.out | exact congrArg _ HWl.out | exact congrArg _ HNn.out | (intro _; omega))
        try simp only [Act.put, List.setIfInBounds_toArray, List.set_cons_zero, List.set_cons_succ]
        refine tk 33 44 undef hHeld rfl (by kernel_rfl) (by kernel_rfl) (by kernel_rfl) (fun _ _ _ h => h) (Or.inr ⟨by rfl, rfl⟩) ?_
        try simp only [Act.put, List.setIfInBounds_toArray, List.set_cons_zero, List.set_cons_succ]
        refine tk 34 45 undef hHeld rfl (by kernel_rfl) (by kernel_rfl) (by kernel_rfl) (fun _ _ _ h => h) (Or.inr ⟨by rfl, rfl⟩) ?_
        try simp only [Act.put, List.setIfInBounds_toArray, List.set_cons_zero, List.set_cons_succ]
        refine tk 35 46 undef hHeld rfl (by kernel_rfl) (by kernel_rfl) (by kernel_rfl) (fun _ _ _ h => h) (Or.inr ⟨by rfl, rfl⟩) ?_
        try simp only [Act.put, List.setIfInBounds_toArray, List.set_cons_zero, List.set_cons_succ]
        refine tk 36 47 undef hHeld rfl (by kernel_rfl) (by kernel_rfl) (by kernel_rfl) (fun _ _ _ h => h) (Or.inr ⟨by rfl, rfl⟩) ?_
        try simp only [Act.put, List.setIfInBounds_toArray, List.set_cons_zero, List.set_cons_succ]
        refine tk 37 48 undef hHeld rfl (by kernel_rfl) (by kernel_rfl) (by kernel_rfl) (fun _ _ _ h => h) (Or.inr ⟨by rfl, rfl⟩) ?_
        try simp only [Act.put, List.setIfInBounds_toArray, List.set_cons_zero, List.set_cons_succ]
        refine tk 38 49 undef hHeld rfl (by kernel_rfl) (by kernel_rfl) (by kernel_rfl) (fun _ _ _ h => h) (Or.inr ⟨by rfl, rfl⟩) ?_
        try simp only [Act.put, List.setIfInBounds_toArray, List.set_cons_zero, List.set_cons_succ]
        refine tk 39 50 undef hHeld rfl (by kernel_rfl) (by kernel_rfl) (by kernel_rfl) (fun _ _ _ h => h) (Or.inr ⟨by rfl, rfl⟩) ?_
        try simp only [Act.put, List.setIfInBounds_toArray, List.set_cons_zero, List.set_cons_succ]
        refine tk 40 51 undef hHeld rfl (by kernel_rfl) (by kernel_rfl) (by kernel_rfl) (fun _ _ _ h => h) (Or.inr ⟨by rfl, rfl⟩) ?_
        try simp only [Act.put, List.setIfInBounds_toArray, List.set_cons_zero, List.set_cons_succ]
        refine tk 41 52 undef hHeld rfl (by kernel_rfl) (by kernel_rfl) (by kernel_rfl) (fun _ _ _ h => h) (Or.inr ⟨by rfl, rfl⟩) ?_
        try simp only [Act.put, List.setIfInBounds_toArray, List.set_cons_zero, List.set_cons_succ]
        refine tk 42 53 undef hHeld rfl (by kernel_rfl) (by kernel_rfl) (by kernel_rfl) (fun _ _ _ h => h) (Or.inr ⟨by rfl, rfl⟩) ?_
        try simp only [Act.put, List.setIfInBounds_toArray, List.set_cons_zero, List.set_cons_succ]
        refine tk 43 54 (.bool true) hHeld rfl (by kernel_rfl) (by kernel_rfl) (by kernel_rfl) (fun _ _ _ h => h) (Or.inl ⟨by rfl, ?_⟩) ?_
        · rintro w ⟨⟨p0, p1, p2, p3, p4, p5⟩, q0, q1, q2, q3, q4, q5⟩
          go_simp <;> (first | done | assumption | omega | exact HWl.out | exact HNn.out | exact congrArg _ HWl.out | exact congrArg _ HNn.out | (intro _; omega))
        try simp only [Act.put, List.setIfInBounds_toArray, List.set_cons_zero, List.set_cons_succ]
        refine wpAnyH_done (by kernel_rfl) ?_ _
        go_wp2_with fail
        go_ret
        exact ⟨_, rfl, HX.out, below_next HB.out BB1.out⟩
    · have hwb : ((W.length : Int) != (W'.length : Int)) = true := by simp; omega
      have HWl := hide hwl
      clear hwl
      have HX := hide (show false = true ↔ SameX l W F D P n l' W' F' D' P' n' from ⟨fun e => Bool.noConfusion e, fun e => absurd (congrArg List.length e.2.1) HWl.out⟩)
      refine wp_region_held_drew (S := fun u : World => Six u p (.slice sa l.length sc) (.slice wa W.length wc) (.slice fa F.length fc) (.slice ca n cc) (.slice ga gn gc) (.slice la ln lc) ∧ Six u q (.slice sa' l'.length sc') (.slice wa' W'.length wc') (.slice fa' F'.length fc') (.slice ca' n' cc') (.slice ga' gn' gc') (.slice la' ln' lc')) (by kernel_rfl) (KC.out _ (Below.refl _ _).drew) (fun hHeld => ?_)
      change wpAnyH _ _ _ _ _ _ (Array.replicate _ false) _ _
      refine tk 0 11 (.pointer (some ⟨p, 0, none⟩)) hHeld rfl (by kernel_rfl) (by kernel_rfl) (by kernel_rfl) (fun _ _ _ h => h) (Or.inl ⟨by rfl, ?_⟩) ?_
      · rintro w ⟨⟨p0, p1, p2, p3, p4, p5⟩, q0, q1, q2, q3, q4, q5⟩
        go_simp <;> (first | done | assumption | omega | exact HWl.out | exact HNn.out | exact congrArg _ HWl.out | exact congrArg _ HNn.out | (intro _; omega))
      try simp only [Act.put, List.setIfInBounds_toArray, List.set_cons_zero, List.set_cons_succ]
      refine tk 1 12 (.slice sa l.length sc) hHeld rfl (by kernel_rfl) (by kernel_rfl) (by kernel_rfl) (fun _ _ _ h => h) (Or.inl ⟨by rfl, ?_⟩) ?_
      · rintro w ⟨⟨p0, p1, p2, p3, p4, p5⟩, q0, q1, q2, q3, q4, q5⟩
        go_simp <;> (first | done | assumption | omega | exact HWl.out | exact HNn.out | exact congrArg _ HWl.out | exact congrArg _ HNn.out | (intro _; omega))
      try simp only [Act.put, List.setIfInBounds_toArray, List.set_cons_zero, List.set_cons_succ]
      refine tk 2 13 (.pointer (some ⟨q, 0, none⟩)) hHeld rfl (by kernel_rfl) (by kernel_rfl) (by kernel_rfl) (fun _ _ _ h => h) (Or.inl ⟨by rfl, ?_⟩) ?_
      · rintro w ⟨⟨p0, p1, p2, p3, p4, p5⟩, q0, q1, q2, q3, q4, q5⟩
        go_simp <;> (first | done | assumption | omega | exact HWl.out | exact HNn.out | exact congrArg _ HWl.out | exact congrArg _ HNn.out | (intro _; omega))
      try simp only [Act.put, List.setIfInBounds_toArray, List.set_cons_zero, List.set_cons_succ]
      refine tk 3 14 (.slice sa' l'.length sc') hHeld rfl (by kernel_rfl) (by kernel_rfl) (by kernel_rfl) (fun _ _ _ h => h) (Or.inl ⟨by rfl, ?_⟩) ?_
      · rintro w ⟨⟨p0, p1, p2, p3, p4, p5⟩, q0, q1, q2, q3, q4, q5⟩
        go_simp <;> (first | done | assumption | omega | exact HWl.out | exact HNn.out | exact congrArg _ HWl.out | exact congrArg _ HNn.out | (intro _; omega))
      try simp only [Act.put, List.setIfInBounds_toArray, List.set_cons_zero, List.set_cons_succ]
      refine wpAnyH_ready (rs := [4]) (by kernel_rfl) (by simp) ?_
      refine AllReadyH.cons rfl (fun K hK => ?_) AllReadyH.nil
      go_simp
      refine (H1.out _ (below_next HB.out (Below.refl _ _).drew)).mono ?_
      rintro r w3 ⟨z, rfl, hz, hb3⟩
      have BB1 := hide ((Below.refl W0.heap.size W0).drew.trans hb3)
      have hzz : z = true := hz.2 HLs.out
      subst hzz
      clear hb3 hz
      go_wp2_with fail
      refine hK.out _ _ (KC.out _ BB1.out) (fun hHeld => ?_)
      clear hK K
      try simp only [Act.put, List.setIfInBounds_toArray, List.set_cons_zero, List.set_cons_succ]
      refine tk 5 16 (.bool false) hHeld rfl (by kernel_rfl) (by kernel_rfl) (by kernel_rfl) (fun _ _ _ h => h) (Or.inl ⟨by rfl, ?_⟩) ?_
      · rintro w ⟨⟨p0, p1, p2, p3, p4, p5⟩, q0, q1, q2, q3, q4, q5⟩
        go_simp <;> (first | done | assumption | omega | exact HWl.out | exact HNn.out | exact congrArg _ HWl.out | exact congrArg _ HNn.out | (intro _; omega))
      try simp only [Act.put, List.setIfInBounds_toArray, List.set_cons_zero, List.set_cons_succ]
      refine tk 6 17 (.bool false) hHeld rfl (by kernel_rfl) (by kernel_rfl) (by kernel_rfl) (fun _ _ _ h => h) (Or.inl ⟨by rfl, ?_⟩) ?_
      · rintro w ⟨⟨p0, p1, p2, p3, p4, p5⟩, q0, q1, q2, q3, q4, q5⟩
        go_simp <;> (first | done | assumption | omega | exact HWl.out | exact HNn.out | exact congrArg _ HWl.out | exact congrArg _ HNn.out | (intro _; omega))
      try simp only [Act.put, List.setIfInBounds_toArray, List.set_cons_zero, List.set_cons_succ]
      refine tk 7 18 (.pointer (some ⟨p, 1, none⟩)) hHeld rfl (by kernel_rfl) (by kernel_rfl) (by kernel_rfl) (fun _ _ _ h => h) (Or.inl ⟨by rfl, ?_⟩) ?_
      · rintro w ⟨⟨p0, p1, p2, p3, p4, p5⟩, q0, q1, q2, q3, q4, q5⟩
        go_simp <;> (first | done | assumption | omega | exact HWl.out | exact HNn.out | exact congrArg _ HWl.out | exact congrArg _ HNn.out | (intro _; omega))
      try simp only [Act.put, List.setIfInBounds_toArray, List.set_cons_zero, List.set_cons_succ]
      refine tk 8 19 (.pointer (some ⟨p, 1, none⟩)) hHeld rfl (by kernel_rfl) (by kernel_rfl) (by kernel_rfl) (fun _ _ _ h => h) (Or.inl ⟨by rfl, ?_⟩) ?_
      · rintro w ⟨⟨p0, p1, p2, p3, p4, p5⟩, q0, q1, q2, q3, q4, q5⟩
        go_simp <;> (first | done | assumption | omega | exact HWl.out | exact HNn.out | exact congrArg _ HWl.out | exact congrArg _ HNn.out | (intro _; omega))
      try simp only [Act.put, List.setIfInBounds_toArray, List.set_cons_zero, List.set_cons_succ]
      refine tk 9 20 (.pointer (some ⟨p, 1, none⟩)) hHeld rfl (by kernel_rfl) (by kernel_rfl) (by kernel_rfl) (fun _ _ _ h => h) (Or.inl ⟨by rfl, ?_⟩) ?_
      · rintro w ⟨⟨p0, p1, p2, p3, p4, p5⟩, q0, q1, q2, q3, q4, q5⟩
        go_simp <;> (first | done | assumption | omega | exact HWl.out | exact HNn.out | exact congrArg _ HWl.out | exact congrArg _ HNn.out | (intro _; omega))
      try simp only [Act.put, List.setIfInBounds_toArray, List.set_cons_zero, List.set_cons_succ]
      refine tk 10 21 (.slice wa W.length wc) hHeld rfl (by kernel_rfl) (by kernel_rfl) (by kernel_rfl) (fun _ _ _ h => h) (Or.inl ⟨by rfl, ?_⟩) ?_
      · rintro w ⟨⟨p0, p1, p2, p3, p4, p5⟩, q0, q1, q2, q3, q4, q5⟩
        go_simp <;> (first | done | assumption | omega | exact HWl.out | exact HNn.out | exact congrArg _ HWl.out | exact congrArg _ HNn.out | (intro _; omega))
      try simp only [Act.put, List.setIfInBounds_toArray, List.set_cons_zero, List.set_cons_succ]
      refine tk 11 22 (.int .i64 (W.length : Nat)) hHeld rfl (by kernel_rfl) (by kernel_rfl) (by kernel_rfl) (fun _ _ _ h => h) (Or.inl ⟨by rfl, ?_⟩) ?_
      · rintro w ⟨⟨p0, p1, p2, p3, p4, p5⟩, q0, q1, q2, q3, q4, q5⟩
        go_simp <;> (first | done | assumption | omega | exact HWl.out | exact HNn.out | exact congrArg _ HWl.out | exact congrArg _ HNn.out | (intro _; omega))
      try simp only [Act.put, List.setIfInBounds_toArray, List.set_cons_zero, List.set_cons_succ]
      refine tk 12 23 (.pointer (some ⟨q, 1, none⟩)) hHeld rfl (by kernel_rfl) (by kernel_rfl) (by kernel_rfl) (fun _ _ _ h => h) (Or.inl ⟨by rfl, ?_⟩) ?_
      · rintro w ⟨⟨p0, p1, p2, p3, p4, p5⟩, q0, q1, q2, q3, q4, q5⟩
        go_simp <;> (first | done | assumption | omega | exact HWl.out | exact HNn.out | exact congrArg _ HWl.out | exact congrArg _ HNn.out | (intro _; omega))
      try simp only [Act.put, List.setIfInBounds_toArray, List.set_cons_zero, List.set_cons_succ]
      refine tk 13 24 (.pointer (some ⟨q, 1, none⟩)) hHeld rfl (by kernel_rfl) (by kernel_rfl) (by kernel_rfl) (fun _ _ _ h => h) (Or.inl ⟨by rfl, ?_⟩) ?_
      · rintro w ⟨⟨p0, p1, p2, p3, p4, p5⟩, q0, q1, q2, q3, q4, q5⟩
        go_simp <;> (first | done | assumption | omega | exact HWl.out | exact HNn.out | exact congrArg _ HWl.out | exact congrArg _ HNn.out | (intro _; omega))
      try simp only [Act.put, List.setIfInBounds_toArray, List.set_cons_zero, List.set_cons_succ]
      refine tk 14 25 (.pointer (some ⟨q, 1, none⟩)) hHeld rfl (by kernel_rfl) (by kernel_rfl) (by kernel_rfl) (fun _ _ _ h => h) (Or.inl ⟨by rfl, ?_⟩) ?_
      · rintro w ⟨⟨p0, p1, p2, p3, p4, p5⟩, q0, q1, q2, q3, q4, q5⟩
        go_simp <;> (first | done | assumption | omega | exact HWl.out | exact HNn.out | exact congrArg _ HWl.out | exact congrArg _ HNn.out | (intro _; omega))
      try simp only [Act.put, List.setIfInBounds_toArray, List.set_cons_zero, List.set_cons_succ]
      refine tk 15 26 (.slice wa' W'.length wc') hHeld rfl (by kernel_rfl) (by kernel_rfl) (by kernel_rfl) (fun _ _ _ h => h) (Or.inl ⟨by rfl, ?_⟩) ?_
      · rintro w ⟨⟨p0, p1, p2, p3, p4, p5⟩, q0, q1, q2, q3, q4, q5⟩
        go_simp <;> (first | done | assumption | omega | exact HWl.out | exact HNn.out | exact congrArg _ HWl.out | exact congrArg _ HNn.out | (intro _; omega))
      try simp only [Act.put, List.setIfInBounds_toArray, List.set_cons_zero, List.set_cons_succ]
      refine tk 16 27 (.int .i64 (W'.length : Nat)) hHeld rfl (by kernel_rfl) (by kernel_rfl) (by kernel_rfl) (fun _ _ _ h => h) (Or.inl ⟨by rfl, ?_⟩) ?_
      · rintro w ⟨⟨p0, p1, p2, p3, p4, p5⟩, q0, q1, q2, q3, q4, q5⟩
        go_simp <;> (first | done | assumption | omega | exact HWl.out | exact HNn.out | exact congrArg _ HWl.out | exact congrArg _ HNn.out | (intro _; omega))
      try simp only [Act.put, List.setIfInBounds_toArray, List.set_cons_zero, List.set_cons_succ]
      refine tk 17 28 (.bool true) hHeld rfl (by kernel_rfl) (by kernel_rfl) (by kernel_rfl) (fun _ _ _ h => h) (Or.inl ⟨by rfl, ?_⟩) ?_
      · rintro w ⟨⟨p0, p1, p2, p3, p4, p5⟩, q0, q1, q2, q3, q4, q5⟩
        go_simp <;> (first | done | assumption | omega | exact HWl.out | exact HNn.out | exact congrArg _ HWl.out | exact congrArg _ HNn.out | (intro _; omega))
      try simp only [Act.put, List.setIfInBounds_toArray, List.set_cons_zero, List.set_cons_succ]
      refine tk 18 29 (.bool true) hHeld rfl (by kernel_rfl) (by kernel_rfl) (by kernel_rfl) (fun _ _ _ h => h) (Or.inl ⟨by rfl, ?_⟩) ?_
      · rintro w ⟨⟨p0, p1, p2, p3, p4, p5⟩, q0, q1, q2, q3, q4, q5⟩
        go_simp <;> (first | done | assumption | omega | exact HWl.out | exact HNn.out | exact congrArg _ HWl.out | exact congrArg _ HNn.out | (intro _; omega))
      try simp only [Act.put, List.setIfInBounds_toArray, List.set_cons_zero, List.set_cons_succ]
      refine tk 19 30 (.bool true) hHeld rfl (by kernel_rfl) (by kernel_rfl) (by kernel_rfl) (fun _ _ _ h => h) (Or.inl ⟨by rfl, ?_⟩) ?_
      · rintro w ⟨⟨p0, p1, p2, p3, p4, p5⟩, q0, q1, q2, q3, q4, q5⟩
        go_simp <;> (first | done | assumption | omega | exact HWl.out | exact HNn.out | exact congrArg _ HWl.out | exact congrArg _ HNn.out | (intro _; omega))
      try simp only [Act.put, List.setIfInBounds_toArray, List.set_cons_zero, List.set_cons_succ]
      refine tk 20 31 undef hHeld rfl (by kernel_rfl) (by kernel_rfl) (by kernel_rfl) (fun _ _ _ h => h) (Or.inr ⟨by rfl, rfl⟩) ?_
      try simp only [Act.put, List.setIfInBounds_toArray, List.set_cons_zero, List.set_cons_succ]
      refine tk 21 32 undef hHeld rfl (by kernel_rfl) (by kernel_rfl) (by kernel_rfl) (fun _ _ _ h => h) (Or.inr ⟨by rfl, rfl⟩) ?_
      try simp only [Act.put, List.setIfInBounds_toArray, List.set_cons_zero, List.set_cons_succ]
      refine tk 22 33 undef hHeld rfl (by kernel_rfl) (by kernel_rfl) (by kernel_rfl) (fun _ _ _ h => h) (Or.inr ⟨by rfl, rfl⟩) ?_
      try simp only [Act.put, List.setIfInBounds_toArray, List.set_cons_zero, List.set_cons_succ]
      refine tk 23 34 undef hHeld rfl (by kernel_rfl) (by kernel_rfl) (by kernel_rfl) (fun _ _ _ h => h) (Or.inr ⟨by rfl, rfl⟩) ?_
      try simp only [Act.put, List.setIfInBounds_toArray, List.set_cons_zero, List.set_cons_succ]
      refine tk 24 35 undef hHeld rfl (by kernel_rfl) (by kernel_rfl) (by kernel_rfl) (fun _ _ _ h => h) (Or.inr ⟨by rfl, rfl⟩) ?_
      try simp only [Act.put, List.setIfInBounds_toArray, List.set_cons_zero, List.set_cons_succ]
      refine tk 25 36 undef hHeld rfl (by kernel_rfl) (by kernel_rfl) (by kernel_rfl) (fun _ _ _ h => h) (Or.inr ⟨by rfl, rfl⟩) ?_
      try simp only [Act.put, List.setIfInBounds_toArray, List.set_cons_zero, List.set_cons_succ]
      refine tk 26 37 undef hHeld rfl (by kernel_rfl) (by kernel_rfl) (by kernel_rfl) (fun _ _ _ h => h) (Or.inr ⟨by rfl, rfl⟩) ?_
      try simp only [Act.put, List.setIfInBounds_toArray, List.set_cons_zero, List.set_cons_succ]
      refine tk 27 38 undef hHeld rfl (by kernel_rfl) (by kernel_rfl) (by kernel_rfl) (fun _ _ _ h => h) (Or.inr ⟨by rfl, rfl⟩) ?_
      try simp only [Act.put, List.setIfInBounds_toArray, List.set_cons_zero, List.set_cons_succ]
      refine tk 28 39 undef hHeld rfl (by kernel_rfl) (by kernel_rfl) (by kernel_rfl) (fun _ _ _ h => h) (Or.inr ⟨by rfl, rfl⟩) ?_
      try simp only [Act.put, List.setIfInBounds_toArray, List.set_cons_zero, List.set_cons_succ]
      refine tk 29 40 undef hHeld rfl (by kernel_rfl) (by kernel_rfl) (by kernel_rfl) (fun _ _ _ h => h) (Or.inr ⟨by rfl, rfl⟩) ?_
      try simp only [Act.put, List.setIfInBounds_toArray, List.set_cons_zero, List.set_cons_succ]
      refine tk 30 41 undef hHeld rfl (by kernel_rfl) (by kernel_rfl) (by kernel_rfl) (fun _ _ _ h => h) (Or.inr ⟨by rfl, rfl⟩) ?_
      try simp only [Act.put, List.setIfInBounds_toArray, List.set_cons_zero, List.set_cons_succ]
      refine tk 31 42 (.bool true) hHeld rfl (by kernel_rfl) (by kernel_rfl) (by kernel_rfl) (fun _ _ _ h => h) (Or.inl ⟨by rfl, ?_⟩) ?_
      · rintro w ⟨⟨p0, p1, p2, p3, p4, p5⟩, q0, q1, q2, q3, q4, q5⟩
        go_simp <;> (first | done | assumption | omega | exact HWl.out | exact HNn.out | exact congrArg _ HWl.out | exact congrArg _ HNn.out | (intro _; omega))
      try simp only [Act.put, List.setIfInBounds_toArray, List.set_cons_zero, List.set_cons_succ]
      refine tk 32 43 (.bool true) hHeld rfl (by kernel_rfl) (by kernel_rfl) (by kernel_rfl) (fun _ _ _ h => h) (Or.inl ⟨by rfl, ?_⟩) ?_
      · rintro w ⟨⟨p0, p1, p2, p3, p4, p5⟩, q0, q1, q2, q3, q4, q5⟩
        go_simp <;> (first | done | assumption | omega | exact HWl.out | exact HNn.out | exact congrArg _ HWl.out | exact congrArg _ HNn.out | (intro _; omega))
      try simp only [Act.put, List.setIfInBounds_toArray, List.set_cons_zero, List.set_cons_succ]
      refine tk 33 44 undef hHeld rfl (by kernel_rfl) (by kernel_rfl) (by kernel_rfl) (fun _ _ _ h => h) (Or.inr ⟨by rfl, rfl⟩) ?_
      try simp only [Act.put, List.setIfInBounds_toArray, List.set_cons_zero, List.set_cons_succ]
      refine tk 34 45 undef hHeld rfl (by kernel_rfl) (by kernel_rfl) (by kernel_rfl) (fun _ _ _ h => h) (Or.inr ⟨by rfl, rfl⟩) ?_
      try simp only [Act.put, List.setIfInBounds_toArray, List.set_cons_zero, List.set_cons_succ]
      refine tk 35 46 undef hHeld rfl (by kernel_rfl) (by kernel_rfl) (by kernel_rfl) (fun _ _ _ h => h) (Or.inr ⟨by rfl, rfl⟩) ?_
      try simp only [Act.put, List.setIfInBounds_toArray, List.set_cons_zero, List.set_cons_succ]
      refine tk 36 47 undef hHeld rfl (by kernel_rfl) (by kernel_rfl) (by kernel_rfl) (fun _ _ _ h => h) (Or.inr ⟨by rfl, rfl⟩) ?_
      try simp only [Act.put, List.setIfInBounds_toArray, List.set_cons_zero, List.set_cons_succ]
      refine tk 37 48 undef hHeld rfl (by kernel_rfl) (by kernel_rfl) (by kernel_rfl) (fun _ _ _ h => h) (Or.inr ⟨by rfl, rfl⟩) ?_
      try simp only [Act.put, List.setIfInBounds_toArray, List.set_cons_zero, List.set_cons_succ]
      refine tk 38 49 undef hHeld rfl (by kernel_rfl) (by kernel_rfl) (by kernel_rfl) (fun _ _ _ h => h) (Or.inr ⟨by rfl, rfl⟩) ?_
      try simp only [Act.put, List.setIfInBounds_toArray, List.set_cons_zero, List.set_cons_succ]
      refine tk 39 50 undef hHeld rfl (by kernel_rfl) (by kernel_rfl) (by kernel_rfl) (fun _ _ _ h => h) (Or.inr ⟨by rfl, rfl⟩) ?_
      try simp only [Act.put, List.setIfInBounds_toArray, List.set_cons_zero, List.set_cons_succ]
      refine tk 40 51 undef hHeld rfl (by kernel_rfl) (by kernel_rfl) (by kernel_rfl) (fun _ _ _ h => h) (Or.inr ⟨by rfl, rfl⟩) ?_
      try simp only [Act.put, List.setIfInBounds_toArray, List.set_cons_zero, List.set_cons_succ]
      refine tk 41 52 undef hHeld rfl (by kernel_rfl) (by kernel_rfl) (by kernel_rfl) (fun _ _ _ h => h) (Or.inr ⟨by rfl, rfl⟩) ?_
      try simp only [Act.put, List.setIfInBounds_toArray, List.set_cons_zero, List.set_cons_succ]
      refine tk 42 53 undef hHeld rfl (by kernel_rfl) (by kernel_rfl) (by kernel_rfl) (fun _ _ _ h => h) (Or.inr ⟨by rfl, rfl⟩) ?_
      try simp only [Act.put, List.setIfInBounds_toArray, List.set_cons_zero, List.set_cons_succ]
      refine tk 43 54 (.bool true) hHeld rfl (by kernel_rfl) (by kernel_rfl) (by kernel_rfl) (fun _ _ _ h => h) (Or.inl ⟨by rfl, ?_⟩) ?_
      · rintro w ⟨⟨p0, p1, p2, p3, p4, p5⟩, q0, q1, q2, q3, q4, q5⟩
        go_simp <;> (first | done | assumption | omega | exact HWl.out | exact HNn.out | exact congrArg _ HWl.out | exact congrArg _ HNn.out | (intro _; omega))
      try simp only [Act.put, List.setIfInBounds_toArray, List.set_cons_zero, List.set_cons_succ]
      refine wpAnyH_done (by kernel_rfl) ?_ _
      go_wp2_with fail
      go_ret
      exact ⟨_, rfl, HX.out, below_next HB.out BB1.out⟩
  · have HLs := hide hls
    clear hls
    have HX := hide (show false = true ↔ SameX l W F D P n l' W' F' D' P' n' from ⟨fun e => Bool.noConfusion e, fun e => absurd e.1 HLs.out⟩)
    refine wp_region_held_drew (S := fun u : World => Six u p (.slice sa l.length sc) (.slice wa W.length wc) (.slice fa F.length fc) (.slice ca n cc) (.slice ga gn gc) (.slice la ln lc) ∧ Six u q (.slice sa' l'.length sc') (.slice wa' W'.length wc') (.slice fa' F'.length fc') (.slice ca' n' cc') (.slice ga' gn' gc') (.slice la' ln' lc')) (by kernel_rfl) (KC.out _ (Below.refl _ _).drew) (fun hHeld => ?_)
    change wpAnyH _ _ _ _ _ _ (Array.replicate _ false) _ _
    refine tk 0 11 (.pointer (some ⟨p, 0, none⟩)) hHeld rfl (by kernel_rfl) (by kernel_rfl) (by kernel_rfl) (fun _ _ _ h => h) (Or.inl ⟨by rfl, ?_⟩) ?_
    · rintro w ⟨⟨p0, p1, p2, p3, p4, p5⟩, q0, q1, q2, q3, q4, q5⟩
      go_simp <;> (first | done | assumption | omega | exact HWl.out | exact HNn.out | exact congrArg _ HWl.out | exact congrArg _ HNn.out | (intro _; omega))
    try simp only [Act.put, List.setIfInBounds_toArray, List.set_cons_zero, List.set_cons_succ]
    refine tk 1 12 (.slice sa l.length sc) hHeld rfl (by kernel_rfl) (by kernel_rfl) (by kernel_rfl) (fun _ _ _ h => h) (Or.inl ⟨by rfl, ?_⟩) ?_
    · rintro w ⟨⟨p0, p1, p2, p3, p4, p5⟩, q0, q1, q2, q3, q4, q5⟩
      go_simp <;> (first | done | assumption | omega | exact HWl.out | exact HNn.out | exact congrArg _ HWl.out | exact congrArg _ HNn.out | (intro _; omega))
    try simp only [Act.put, List.setIfInBounds_toArray, List.set_cons_zero, List.set_cons_succ]
    refine tk 2 13 (.pointer (some ⟨q, 0, none⟩)) hHeld rfl (by kernel_rfl) (by kernel_rfl) (by kernel_rfl) (fun _ _ _ h => h) (Or.inl ⟨by rfl, ?_⟩) ?_
    · rintro w ⟨⟨p0, p1, p2, p3, p4, p5⟩, q0, q1, q2, q3, q4, q5⟩
      go_simp <;> (first | done | assumption | omega | exact HWl.out | exact HNn.out | exact congrArg _ HWl.out | exact congrArg _ HNn.out | (intro _; omega))
    try simp only [Act.put, List.setIfInBounds_toArray, List.set_cons_zero, List.set_cons_succ]
    refine tk 3 14 (.slice sa' l'.length sc') hHeld rfl (by kernel_rfl) (by kernel_rfl) (by kernel_rfl) (fun _ _ _ h => h) (Or.inl ⟨by rfl, ?_⟩) ?_
    · rintro w ⟨⟨p0, p1, p2, p3, p4, p5⟩, q0, q1, q2, q3, q4, q5⟩
      go_simp <;> (first | done | assumption | omega | exact HWl.out | exact HNn.out | exact congrArg _ HWl.out | exact congrArg _ HNn.out | (intro _; omega))
    try simp only [Act.put, List.setIfInBounds_toArray, List.set_cons_zero, List.set_cons_succ]
    refine wpAnyH_ready (rs := [4]) (by kernel_rfl) (by simp) ?_
    refine AllReadyH.cons rfl (fun K hK => ?_) AllReadyH.nil
    go_simp
    refine (H1.out _ (below_next HB.out (Below.refl _ _).drew)).mono ?_
    rintro r w3 ⟨z, rfl, hz, hb3⟩
    have BB1 := hide ((Below.refl W0.heap.size W0).drew.trans hb3)
    have hzz : z = false := by cases z; rfl; exact absurd (hz.1 rfl) HLs.out
    subst hzz
    clear hb3 hz
    go_wp2_with fail
    refine hK.out _ _ (KC.out _ BB1.out) (fun hHeld => ?_)
    clear hK K
    try simp only [Act.put, List.setIfInBounds_toArray, List.set_cons_zero, List.set_cons_succ]
    refine tk 5 16 (.bool true) hHeld rfl (by kernel_rfl) (by kernel_rfl) (by kernel_rfl) (fun _ _ _ h => h) (Or.inl ⟨by rfl, ?_⟩) ?_
    · rintro w ⟨⟨p0, p1, p2, p3, p4, p5⟩, q0, q1, q2, q3, q4, q5⟩
      go_simp <;> (first | done | assumption | omega | exact HWl.out | exact HNn.out | exact congrArg _ HWl.out | exact congrArg _ HNn.out | (intro _; omega))
    try simp only [Act.put, List.setIfInBounds_toArray, List.set_cons_zero, List.set_cons_succ]
    refine tk 6 17 (.bool true) hHeld rfl (by kernel_rfl) (by kernel_rfl) (by kernel_rfl) (fun _ _ _ h => h) (Or.inl ⟨by rfl, ?_⟩) ?_
    · rintro w ⟨⟨p0, p1, p2, p3, p4, p5⟩, q0, q1, q2, q3, q4, q5⟩
      go_simp <;> (first | done | assumption | omega | exact HWl.out | exact HNn.out | exact congrArg _ HWl.out | exact congrArg _ HNn.out | (intro _; omega))
    try simp only [Act.put, List.setIfInBounds_toArray, List.set_cons_zero, List.set_cons_succ]
    refine tk 7 18 undef hHeld rfl (by kernel_rfl) (by kernel_rfl) (by kernel_rfl) (fun _ _ _ h => h) (Or.inr ⟨by rfl, rfl⟩) ?_
    try simp only [Act.put, List.setIfInBounds_toArray, List.set_cons_zero, List.set_cons_succ]
    refine tk 8 19 undef hHeld rfl (by kernel_rfl) (by kernel_rfl) (by kernel_rfl) (fun _ _ _ h => h) (Or.inr ⟨by rfl, rfl⟩) ?_
    try simp only [Act.put, List.setIfInBounds_toArray, List.set_cons_zero, List.set_cons_succ]
    refine tk 9 20 undef hHeld rfl (by kernel_rfl) (by kernel_rfl) (by kernel_rfl) (fun _ _ _ h => h) (Or.inr ⟨by rfl, rfl⟩) ?_
    try simp only [Act.put, List.setIfInBounds_toArray, List.set_cons_zero, List.set_cons_succ]
    refine tk 10 21 undef hHeld rfl (by kernel_rfl) (by kernel_rfl) (by kernel_rfl) (fun _ _ _ h => h) (Or.inr ⟨by rfl, rfl⟩) ?_
    try simp only [Act.put, List.setIfInBounds_toArray, List.set_cons_zero, List.set_cons_succ]
    refine tk 11 22 undef hHeld rfl (by kernel_rfl) (by kernel_rfl) (by kernel_rfl) (fun _ _ _ h => h) (Or.inr ⟨by rfl, rfl⟩) ?_
    try simp only [Act.put, List.setIfInBounds_toArray, List.set_cons_zero, List.set_cons_succ]
    refine tk 12 23 undef hHeld rfl (by kernel_rfl) (by kernel_rfl) (by kernel_rfl) (fun _ _ _ h => h) (Or.inr ⟨by rfl, rfl⟩) ?_
    try simp only [Act.put, List.setIfInBounds_toArray, List.set_cons_zero, List.set_cons_succ]
    refine tk 13 24 undef hHeld rfl (by kernel_rfl) (by kernel_rfl) (by kernel_rfl) (fun _ _ _ h => h) (Or.inr ⟨by rfl, rfl⟩) ?_
    try simp only [Act.put, List.setIfInBounds_toArray, List.set_cons_zero, List.set_cons_succ]
    refine tk 14 25 undef hHeld rfl (by kernel_rfl) (by kernel_rfl) (by kernel_rfl) (fun _ _ _ h => h) (Or.inr ⟨by rfl, rfl⟩) ?_
    try simp only [Act.put, List.setIfInBounds_toArray, List.set_cons_zero, List.set_cons_succ]
    refine tk 15 26 undef hHeld rfl (by kernel_rfl) (by kernel_rfl) (by kernel_rfl) (fun _ _ _ h => h) (Or.inr ⟨by rfl, rfl⟩) ?_
    try simp only [Act.put, List.setIfInBounds_toArray, List.set_cons_zero, List.set_cons_succ]
    refine tk 16 27 undef hHeld rfl (by kernel_rfl) (by kernel_rfl) (by kernel_rfl) (fun _ _ _ h => h) (Or.inr ⟨by rfl, rfl⟩) ?_
    try simp only [Act.put, List.setIfInBounds_toArray, List.set_cons_zero, List.set_cons_succ]
    refine tk 17 28 undef hHeld rfl (by kernel_rfl) (by kernel_rfl) (by kernel_rfl) (fun _ _ _ h => h) (Or.inr ⟨by rfl, rfl⟩) ?_
    try simp only [Act.put, List.setIfInBounds_toArray, List.set_cons_zero, List.set_cons_succ]
    refine tk 18 29 (.bool true) hHeld rfl (by kernel_rfl) (by kernel_rfl) (by kernel_rfl) (fun _ _ _ h => h) (Or.inl ⟨by rfl, ?_⟩) ?_
    · rintro w ⟨⟨p0, p1, p2, p3, p4, p5⟩, q0, q1, q2, q3, q4, q5⟩
      go_simp <;> (first | done | assumption | omega | exact HWl.out | exact HNn.out | exact congrArg _ HWl.out | exact congrArg _ HNn.out | (intro _; omega))
    try simp only [Act.put, List.setIfInBounds_toArray, List.set_cons_zero, List.set_cons_succ]
    refine tk 19 30 (.bool true) hHeld rfl (by kernel_rfl) (by kernel_rfl) (by kernel_rfl) (fun _ _ _ h => h) (Or.inl ⟨by rfl, ?_⟩) ?_
    · rintro w ⟨⟨p0, p1, p2, p3, p4, p5⟩, q0, q1, q2, q3, q4, q5⟩
      go_simp <;> (first | done | assumption | omega | exact HWl.out | exact HNn.out | exact congrArg _ HWl.out | exact congrArg _ HNn.out | (intro _; omega))
    try simp only [Act.put, List.setIfInBounds_toArray, List.set_cons_zero, List.set_cons_succ]
    refine tk 20 31 undef hHeld rfl (by kernel_rfl) (by kernel_rfl) (by kernel_rfl) (fun _ _ _ h => h) (Or.inr ⟨by rfl, rfl⟩) ?_
    try simp only [Act.put, List.setIfInBounds_toArray, List.set_cons_zero, List.set_cons_succ]
    refine tk 21 32 undef hHeld rfl (by kernel_rfl) (by kernel_rfl) (by kernel_rfl) (fun _ _ _ h => h) (Or.inr ⟨by rfl, rfl⟩) ?_
    try simp only [Act.put, List.setIfInBounds_toArray, List.set_cons_zero, List.set_cons_succ]
    refine tk 22 33 undef hHeld rfl (by kernel_rfl) (by kernel_rfl) (by kernel_rfl) (fun _ _ _ h => h) (Or.inr ⟨by rfl, rfl⟩) ?_
    try simp only [Act.put, List.setIfInBounds_toArray, List.set_cons_zero, List.set_cons_succ]
    refine tk 23 34 undef hHeld rfl (by kernel_rfl) (by kernel_rfl) (by kernel_rfl) (fun _ _ _ h => h) (Or.inr ⟨by rfl, rfl⟩) ?_
    try simp only [Act.put, List.setIfInBounds_toArray, List.set_cons_zero, List.set_cons_succ]
    refine tk 24 35 undef hHeld rfl (by kernel_rfl) (by kernel_rfl) (by kernel_rfl) (fun _ _ _ h => h) (Or.inr ⟨by rfl, rfl⟩) ?_
    try simp only [Act.put, List.setIfInBounds_toArray, List.set_cons_zero, List.set_cons_succ]
    refine tk 25 36 undef hHeld rfl (by kernel_rfl) (by kernel_rfl) (by kernel_rfl) (fun _ _ _ h => h) (Or.inr ⟨by rfl, rfl⟩) ?_
    try simp only [Act.put, List.setIfInBounds_toArray, List.set_cons_zero, List.set_cons_succ]
    refine tk 26 37 undef hHeld rfl (by kernel_rfl) (by kernel_rfl) (by kernel_rfl) (fun _ _ _ h => h) (Or.inr ⟨by rfl, rfl⟩) ?_
    try simp only [Act.put, List.setIfInBounds_toArray, List.set_cons_zero, List.set_cons_succ]
    refine tk 27 38 undef hHeld rfl (by kernel_rfl) (by kernel_rfl) (by kernel_rfl) (fun _ _ _ h => h) (Or.inr ⟨by rfl, rfl⟩) ?_
    try simp only [Act.put, List.setIfInBounds_toArray, List.set_cons_zero, List.set_cons_succ]
    refine tk 28 39 undef hHeld rfl (by kernel_rfl) (by kernel_rfl) (by kernel_rfl) (fun _ _ _ h => h) (Or.inr ⟨by rfl, rfl⟩) ?_
    try simp only [Act.put, List.setIfInBounds_toArray, List.set_cons_zero, List.set_cons_succ]
    refine tk 29 40 undef hHeld rfl (by kernel_rfl) (by kernel_rfl) (by kernel_rfl) (fun _ _ _ h => h) (Or.inr ⟨by rfl, rfl⟩) ?_
    try simp only [Act.put, List.setIfInBounds_toArray, List.set_cons_zero, List.set_cons_succ]
    refine tk 30 41 undef hHeld rfl (by kernel_rfl) (by kernel_rfl) (by kernel_rfl) (fun _ _ _ h => h) (Or.inr ⟨by rfl, rfl⟩) ?_
    try simp only [Act.put, List.setIfInBounds_toArray, List.set_cons_zero, List.set_cons_succ]
    refine tk 31 42 (.bool true) hHeld rfl (by kernel_rfl) (by kernel_rfl) (by kernel_rfl) (fun _ _ _ h => h) (Or.inl ⟨by rfl, ?_⟩) ?_
    · rintro w ⟨⟨p0, p1, p2, p3, p4, p5⟩, q0, q1, q2, q3, q4, q5⟩
      go_simp <;> (first | done | assumption | omega | exact HWl.out | exact HNn.out | exact congrArg _ HWl.out | exact congrArg _ HNn.out | (intro _; omega))
    try simp only [Act.put, List.setIfInBounds_toArray, List.set_cons_zero, List.set_cons_succ]
    refine tk 32 43 (.bool true) hHeld rfl (by kernel_rfl) (by kernel_rfl) (by kernel_rfl) (fun _ _ _ h => h) (Or.inl ⟨by rfl, ?_⟩) ?_
    · rintro w ⟨⟨p0, p1, p2, p3, p4, p5⟩, q0, q1, q2, q3, q4, q5⟩
      go_simp <;> (first | done | assumption | omega | exact HWl.out | exact HNn.out | exact congrArg _ HWl.out | exact congrArg _ HNn.out | (intro _; omega))
    try simp only [Act.put, List.setIfInBounds_toArray, List.set_cons_zero, List.set_cons_succ]
    refine tk 33 44 undef hHeld rfl (by kernel_rfl) (by kernel_rfl) (by kernel_rfl) (fun _ _ _ h => h) (Or.inr ⟨by rfl, rfl⟩) ?_
    try simp only [Act.put, List.setIfInBounds_toArray, List.set_cons_zero, List.set_cons_succ]
    refine tk 34 45 undef hHeld rfl (by kernel_rfl) (by kernel_rfl) (by kernel_rfl) (fun _ _ _ h => h) (Or.inr ⟨by rfl, rfl⟩) ?_
    try simp only [Act.put, List.setIfInBounds_toArray, List.set_cons_zero, List.set_cons_succ]
    refine tk 35 46 undef hHeld rfl (by kernel_rfl) (by kernel_rfl) (by kernel_rfl) (fun _ _ _ h => h) (Or.inr ⟨by rfl, rfl⟩) ?_
    try simp only [Act.put, List.setIfInBounds_toArray, List.set_cons_zero, List.set_cons_succ]
    refine tk 36 47 undef hHeld rfl (by kernel_rfl) (by kernel_rfl) (by kernel_rfl) (fun _ _ _ h => h) (Or.inr ⟨by rfl, rfl⟩) ?_
    try simp only [Act.put, List.setIfInBounds_toArray, List.set_cons_zero, List.set_cons_succ]
    refine tk 37 48 undef hHeld rfl (by kernel_rfl) (by kernel_rfl) (by kernel_rfl) (fun _ _ _ h => h) (Or.inr ⟨by rfl, rfl⟩) ?_
    try simp only [Act.put, List.setIfInBounds_toArray, List.set_cons_zero, List.set_cons_succ]
    refine tk 38 49 undef hHeld rfl (by kernel_rfl) (by kernel_rfl) (by kernel_rfl) (fun _ _ _ h => h) (Or.inr ⟨by rfl, rfl⟩) ?_
    try simp only [Act.put, List.setIfInBounds_toArray, List.set_cons_zero, List.set_cons_succ]
    refine tk 39 50 undef hHeld rfl (by kernel_rfl) (by kernel_rfl) (by kernel_rfl) (fun _ _ _ h => h) (Or.inr ⟨by rfl, rfl⟩) ?_
    try simp only [Act.put, List.setIfInBounds_toArray, List.set_cons_zero, List.set_cons_succ]
    refine tk 40 51 undef hHeld rfl (by kernel_rfl) (by kernel_rfl) (by kernel_rfl) (fun _ _ _ h => h) (Or.inr ⟨by rfl, rfl⟩) ?_
    try simp only [Act.put, List.setIfInBounds_toArray, List.set_cons_zero, List.set_cons_succ]
    refine tk 41 52 undef hHeld rfl (by kernel_rfl) (by kernel_rfl) (by kernel_rfl) (fun _ _ _ h => h) (Or.inr ⟨by rfl, rfl⟩) ?_
    try simp only [Act.put, List.setIfInBounds_toArray, List.set_cons_zero, List.set_cons_succ]
    refine tk 42 53 undef hHeld rfl (by kernel_rfl) (by kernel_rfl) (by kernel_rfl) (fun _ _ _ h => h) (Or.inr ⟨by rfl, rfl⟩) ?_
    try simp only [Act.put, List.setIfInBounds_toArray, List.set_cons_zero, List.set_cons_succ]
    refine tk 43 54 (.bool true) hHeld rfl (by kernel_rfl) (by kernel_rfl) (by kernel_rfl) (fun _ _ _ h => h) (Or.inl ⟨by rfl, ?_⟩) ?_
    · rintro w ⟨⟨p0, p1, p2, p3, p4, p5⟩, q0, q1, q2, q3, q4, q5⟩
      go_simp <;> (first | done | assumption | omega | exact HWl.out | exact HNn.out | exact congrArg _ HWl.out | exact congrArg _ HNn.out | (intro _; omega))
    try simp only [Act.put, List.setIfInBounds_toArray, List.set_cons_zero, List.set_cons_succ]
    refine wpAnyH_done (by kernel_rfl) ?_ _
    go_wp2_with fail
    go_ret
    exact ⟨_, rfl, HX.out, below_next HB.out BB1.out⟩
end Go.Proofs.Ytfamojijgjmcmaa

