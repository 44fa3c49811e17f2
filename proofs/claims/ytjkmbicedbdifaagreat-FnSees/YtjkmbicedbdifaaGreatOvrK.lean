/-
  The model's l8Names: the names below a path that are seen.
-/
import Derived.Test.YtjkmbicedbdifaaGreatOvrJ
import Derived.Test.YtjkmbicedbdifaaGreatDrawH
namespace Go.Proofs.YtjkmbicedbdifaaGreat
open Go.RowKit Go.Maps
set_option linter.unusedVariables false
attribute [local go_sem ↓] Go.wp_at_zero Go.wp_at_succ

/-- append(out, x): x laid in a block of its own, out owned; where the answer lies. -/
theorem wpList_append_one_at {P : Program} {wr : World} {news : Array Value} {ops : Array Oper} {rest : List Oper} {o : Oper} {a : Act} {Q : Exit → Act → World → Prop} (hgd : o.guard = none) (s x : Operand) (t : TypeId)
    (ho : o.op = .call { callee := .builtin .append, args := #[s, x], argTypes := #[t, t] })
    (base : Nat) (e : TypeId) (i : TypeInfo) (z : Value) (size bytes : Nat) (ht : P.underlying t = some (.slice e)) (hi : P.info? e = some i) (hz : i.zero = some z)
    (hsize : i.size = size) (hby : i.bytes = bytes) (hzs : z.cells.size = size) (hsz : 0 < size)
    (v : Value) (n : Nat) (xs : List Value) (hs : a.eval s = v) (hown : wr.ownsRow base e size v n xs)
    (hx : a.eval x = .slice (some ⟨wr.heap.size, 0, none⟩) 1 1) (hl : news.size = size) (h1 : ∀ u ∈ news.toList, u.oneCell' = true)
    (h63 : n + 1 ≤ maxLen) (hbytes : (n + 1) * bytes ≤ 140737488355328) (hbase : base ≤ wr.heap.size)
    (h : ∀ v' w', w'.ownsRow base e size v' (n + 1) (xs ++ news.toList) → Kept (fun b => v.ownBlock = some b) wr w' → (v'.ownBlock = v.ownBlock ∨ ∃ g, v'.ownBlock = some g ∧ wr.heap.size ≤ g) → wpList P ops Q rest (a.put o.dst v') w') :
    wpList P ops Q (o :: rest) a (wr.alloc (.cells news e)) := by
  refine wpList_append_own_at _ hgd s x t ho base e i z size bytes ht hi hz hsize hby hzs hsz v n xs hs (hown.alloc _) ⟨wr.heap.size, 0, none⟩ 1 1 news.toList hx (by simp [hl]) ?_ h1 h63 hbytes (by simp; omega) ?_
  · intro j u hj
    have hadd : (⟨wr.heap.size, 0, none⟩ : Addr).add j = ⟨wr.heap.size, j, none⟩ := by unfold Addr.add; split <;> simp_all
    rw [hadd, cell_of_row _ wr.heap.size j news e (0, 0) (heap_alloc_new wr _)]
    simpa using hj
  · intro v' w' ho' hg _ hat
    refine h v' w' ho' ⟨hg.os, hg.tape, hg.output, Nat.le_trans (by simp) hg.size, fun k hk hn => ?_⟩ ?_
    · rw [hg.block k (by simp; omega) (fun e => hn e.symm)]
      exact Below.heap_alloc _ _ _ hk
    · rcases hat with hat | hat
      · exact .inl hat
      · exact .inr ⟨_, hat, by simp⟩

set_option maxRecDepth 100000 in
set_option maxHeartbeats 800000 in
theorem l8Hides_top (a : Option Addr) (c n : Nat) (w : World) :
    Calls Tryz.prog 86 #[.slice a n c, .string (str [])] w fun r w' => r = .returned (.int .i64 0) ∧ w' = w := by
  have hs0 : ((str []).toList == []) = true := by rw [str_toList]; rfl
  go_enter Tryz.func86, Tryz.ntmps86
  go_wp2_with fail
  go_ret
  exact ⟨rfl, rfl⟩
theorem l8HidesQ_any (a : Option Addr) (c n : Nat) (es : List En) (q : Bs) (w : World) (h : RdE w a es) (hn : n = es.length) (hRi : Right es) (hq : q = [] ∨ faultP q = 0) (hql : q.length ≤ 1048576) :
    Calls Tryz.prog 86 #[.slice a n c, .string (str q)] w fun r w' => r = .returned (.int .i64 (hidQ es q)) ∧ Below w.heap.size w w' := by
  by_cases h0 : q = []
  · subst h0
    have e1 : hidQ es [] = 0 := by simp [hidQ]
    rw [e1]
    exact (l8Hides_top a c n w).mono (fun r w' ⟨h1, h2⟩ => ⟨h1, by rw [h2]; exact Below.refl _ _⟩)
  · have e1 : hidQ es q = hidN es q := by simp [hidQ, h0]
    rw [e1]
    exact l8Hides_any a c n es q w h hn (by have := hRi.len; omega) hRi (by rcases hq with hq | hq; exact absurd hq h0; exact hq) hql
theorem hidQ_cases (es : List En) (q : Bs) : hidQ es q = 0 ∨ hidQ es q = 1 ∨ hidQ es q = 2 := by
  unfold hidQ
  split
  · exact .inl rfl
  · unfold hidN
    split
    · exact .inr (.inr rfl)
    · split
      · exact .inr (.inl rfl)
      · exact .inl rfl
theorem kids_in {es : List En} {q : Bs} {k : Nat} {e : En} (he : es[k]? = some e) (h : parentP e.path = q) : kidsE (es.take (k + 1)) q = kidsE (es.take k) q ++ [e] := by
  rw [take_at he]; simp [kidsE, h]
theorem kids_out {es : List En} {q : Bs} {k : Nat} {e : En} (he : es[k]? = some e) (h : parentP e.path ≠ q) : kidsE (es.take (k + 1)) q = kidsE (es.take k) q := by
  rw [take_at he]; simp [kidsE, h]
/-- Two rows of names, each in a block of its own, as the loop holds them. -/
structure TwoN (B : Nat) (w : World) (ov sv : Value) (D : List En) : Prop where
  out : OwnS B w ov (runN D).2
  seen : OwnS B w sv (runN D).1
  apart : ∀ g, ov.ownBlock = some g → sv.ownBlock ≠ some g
theorem TwoN.below {B : Nat} {w w' : World} {ov sv : Value} {D : List En} (h : TwoN B w ov sv D) (hb : Below w.heap.size w w') : TwoN B w' ov sv D := ⟨h.out.below hb, h.seen.below hb, h.apart⟩
theorem TwoN.skip {B : Nat} {w : World} {ov sv : Value} {D : List En} {e : En} (h : TwoN B w ov sv D) (hm : lastP e.path ∈ (runN D).1) : TwoN B w ov sv (D ++ [e]) := by
  have : runN (D ++ [e]) = runN D := by rw [runN_snoc, stepN, if_pos hm]
  exact ⟨by rw [this]; exact h.out, by rw [this]; exact h.seen, h.apart⟩
theorem TwoN.lens {B : Nat} {w : World} {ov sv : Value} {D : List En} (h : TwoN B w ov sv D) : (runN D).1.length ≤ D.length ∧ (runN D).2.length ≤ D.length := ⟨(runN_says D).2.2.2.1, (runN_says D).2.2.2.2⟩

set_option maxRecDepth 100000 in
set_option maxHeartbeats 12800000 in
theorem l8Names_any (a : Option Addr) (c n : Nat) (ls : List (List En)) (q : Bs) (w : World) (h : RdL w a ls) (hn : n = ls.length) (h4 : ls.length ≤ 4) (hR : ∀ es ∈ ls, Right es) (hq : q = [] ∨ faultP q = 0) (hql : q.length ≤ 1048576) :
    Calls Tryz.prog 52 #[.slice a n c, .string (str q)] w fun r w' => ∃ av cv, r = .returned (.slice av (namesE (allE ls) q).length cv) ∧ OwnS w.heap.size w' (.slice av (namesE (allE ls) q).length cv) (namesE (allE ls) q) ∧ Below w.heap.size w w' := by
  subst hn
  obtain ⟨i1, ki, kz0, kz1, kz2⟩ := info_parts infoS
  have HR := hide h
  have HRi := hide hR
  have HQ := hide hq
  have HNM := hide (come_names hR h4 q)
  have HCL := hide (come_len (q := q) hR ls.length (Nat.le_refl _))
  have hw1 : IntKind.i64.wrap ((ls.length : Int) - 1) = (ls.length : Int) - 1 := by simp [IntKind.wrap, IntKind.signed, IntKind.bits]; omega
  have B0 := hide (below_next (below_alloc w (.cells #[] 9)) (below_alloc (w.alloc (.cells #[] 9)) (.cells #[] 9)))
  have T0 : Hid (TwoN w.heap.size ((w.alloc (.cells #[] 9)).alloc (.cells #[] 9)) (.slice (some ⟨w.heap.size, 0, none⟩) 0 0) (.slice (some ⟨w.heap.size + 1, 0, none⟩) 0 0) []) := hide ⟨ownsRow_below (made_none w) (below_alloc _ _), by have := made_none (w.alloc (.cells #[] 9)); rw [show (w.alloc (.cells #[] 9)).heap.size = w.heap.size + 1 by simp] at this; exact ownsRow_mono this (by omega), fun g h1 h2 => by simp [Value.ownBlock] at h1 h2; omega⟩
  clear h hR hq
  generalize hDD : comeD ls q ls.length = DD at *
  have HDD := hide hDD
  clear hDD
  go_enter Tryz.func52, Tryz.ntmps52
  go_wp2_with fail
  generalize (w.alloc (.cells #[] 9)).alloc (.cells #[] 9) = W0 at *
  go_loopw [5, 6, 7] (fun ov sv i wr => ∃ (k : Nat) (D : List En), k ≤ ls.length ∧ i = .int .i64 ((k : Int) - 1) ∧ Hid (D ++ comeD ls q k = DD) ∧ Hid (TwoN w.heap.size wr ov sv D) ∧ Hid (Below w.heap.size w wr)) (fun _ _ i _ => (intOf i + 1).toNat)
  case atStart => exact ⟨ls.length, [], Nat.le_refl _, rfl, hide (by rw [List.nil_append]; exact HDD.out), T0, B0⟩
  case round =>
    obtain ⟨k, D, hk, hi, HD, HT, HW⟩ := hrel
    have hcl := HCL.out
    cases k with
    | zero =>
      rw [show ((0 : Nat) : Int) - 1 = -1 from rfl] at hi
      subst hi
      have HE := hide (show D = DD from by have := HD.out; simpa [comeD] using this)
      obtain ⟨ov, oc, hov⟩ := HT.out.out.shape
      have HO : Hid (OwnS w.heap.size wr (.slice ov (runN D).2.length oc) (namesE (allE ls) q)) := hide (by have := HT.out.out; rw [hov] at this; rw [← HNM.out, ← HE.out]; exact this)
      have HL := hide (show (runN D).2.length = (namesE (allE ls) q).length by rw [← HNM.out, HE.out])
      subst hov
      clear hcl
      go_wp2_with fail
      go_ret
      exact ⟨ov, oc, by rw [HL.out]; rfl, by rw [← HL.out]; exact HO.out, HW.out⟩
    | succ m =>
      rw [show ((m + 1 : Nat) : Int) - 1 = (m : Int) from by omega] at hi
      subst hi
      have hm0 : (0 : Int) ≤ (m : Int) := by omega
      have hm1 : (m : Int) < (ls.length : Int) := by omega
      have hm2 : IntKind.i64.wrap ((m : Int) - 1) = (m : Int) - 1 := by simp [IntKind.wrap, IntKind.signed, IntKind.bits]; omega
      obtain ⟨b, off, es, x, cc, rfl, hb, he, c0, hr⟩ := HR.out.at (k := m) (by omega)
      have hRi := HRi.out es (List.mem_of_getElem? he)
      have hel := hRi.len
      have HX := hide he
      have HRI := hide hRi
      have HSM := hide (right_small hRi)
      have HHI := hide (l8HidesQ_any x cc es.length es q wr (hr.below HW.out) rfl hRi HQ.out hql)
      have HRE := hide hr
      have KC : Hid (∀ w', Below w.heap.size w w' → w'.cell? ⟨b, off + m, none⟩ = some (.slice x es.length cc)) := hide (fun w' hb' => (hb'.cell (p := ⟨b, off + m, none⟩) hb).trans c0)
      clear he hRi hr c0
      have c0 := KC.out _ HW.out
      by_cases h2 : hidQ es q = 2
      · rw [h2] at HHI
        have HE := hide (show D = DD from by have := HD.out; rw [come_two HX.out h2, List.append_nil] at this; exact this)
        obtain ⟨ov, oc, hov⟩ := HT.out.out.shape
        have HO : Hid (OwnS w.heap.size wr (.slice ov (runN D).2.length oc) (namesE (allE ls) q)) := hide (by have := HT.out.out; rw [hov] at this; rw [← HNM.out, ← HE.out]; exact this)
        have HL := hide (show (runN D).2.length = (namesE (allE ls) q).length by rw [← HNM.out, HE.out])
        subst hov
        clear hcl h2
        go_wp2_with fail
        refine HHI.out.mono ?_
        rintro r w1 ⟨rfl, hb1⟩
        have B1 := hide hb1
        clear hb1 c0
        go_wp2_with fail
        go_ret
        exact ⟨ov, oc, by rw [HL.out]; rfl, by rw [← HL.out]; exact HO.out.below B1.out, below_next HW.out B1.out⟩
      · have hn2 : (hidQ es q == 2) = false := by simpa using h2
        have HKD : Hid ((D ++ kidsE es q).length ≤ 12 * ls.length) := hide (by
          have := HD.out
          by_cases h1 : hidQ es q = 1
          · rw [come_one HX.out h1] at this; rw [this]; exact hcl
          · rw [come_on HX.out h2 h1, ← List.append_assoc] at this
            have h5 := congrArg List.length this
            rw [List.length_append] at h5
            omega)
        have HHq := hide (show (hidQ es q = 1 → D ++ kidsE es q = DD) ∧ (hidQ es q ≠ 1 → (D ++ kidsE es q) ++ comeD ls q m = DD) from ⟨fun h1 => by have := HD.out; rw [come_one HX.out h1] at this; exact this, fun h1 => by have := HD.out; rw [come_on HX.out h2 h1, ← List.append_assoc] at this; exact this⟩)
        generalize hidQ es q = HH at *
        clear h2 hcl
        go_wp2_with fail
        refine HHI.out.mono ?_
        rintro r w1 ⟨rfl, hb1⟩
        have B1 := hide (below_next HW.out hb1)
        have T1 := hide (HT.out.below hb1)
        clear hb1 c0 HT HHI HW
        go_wp2_with fail
        go_loopw [5, 6, 9] (fun ov sv i wx => ∃ j : Nat, j ≤ es.length ∧ i = .int .i64 j ∧ Hid (TwoN w.heap.size wx ov sv (D ++ kidsE (es.take j) q)) ∧ Hid (Below w.heap.size w wx)) (fun _ _ i _ => es.length - (intOf i).toNat)
        case atStart => exact ⟨0, Nat.zero_le _, rfl, hide (by simpa [kidsE] using T1.out), B1⟩
        case round =>
          obtain ⟨j, hj, rfl, HT, HW⟩ := hrel
          have c1 := KC.out _ HW.out
          obtain ⟨ov, oc, hov⟩ := HT.out.out.shape
          obtain ⟨sv, sc, hsv⟩ := HT.out.seen.shape
          subst hov
          subst hsv
          obtain ⟨LS, hLS⟩ : ∃ LS, LS = (runN (D ++ kidsE (es.take j) q)).1.length := ⟨_, rfl⟩
          obtain ⟨LO, hLO⟩ : ∃ LO, LO = (runN (D ++ kidsE (es.take j) q)).2.length := ⟨_, rfl⟩
          have hlens := HT.out.lens
          rw [← hLS, ← hLO] at HT hlens ⊢
          have HLS := hide hLS
          have HLO := hide hLO
          clear hLS hLO
          by_cases hlt : j < es.length
          · obtain ⟨bb, off2, e, xx, c2, hxe, hbb, he, y0, y1, y2, y3, hre⟩ := (HRE.out.below HW.out).at hlt
            subst hxe
            have hpf := entFault_zero (HRI.out.ent e (List.mem_of_getElem? he))
            have hpos := path_pos hpf
            have hsm := HSM.out e (List.mem_of_getElem? he)
            have HXe := hide he
            have hj0 : (0 : Int) ≤ (j : Int) := by omega
            have hj1 : (j : Int) < (es.length : Int) := by omega
            have HP := hide (show (aboveN (cutB (str e.path).data.toList.tail)).getLastD [] = parentP e.path from by rw [str_data]; rfl)
            have HLA := hide (show lastN (cutB (str e.path).data.toList.tail) = lastP e.path from by rw [str_data]; rfl)
            have BA := hide (below_alloc wr (.cells #[.string (str e.path), .int .i64 e.kind, .int .i64 e.size, .slice xx e.chunks.length c2] 40))
            have F0 := hide (Four.new wr (.string (str e.path)) (.int .i64 e.kind) (.int .i64 e.size) (.slice xx e.chunks.length c2) 40)
            have hkj : (D ++ kidsE (es.take j) q).length ≤ 48 := by
              have h5 := HKD.out
              have h6 : (kidsE (es.take j) q).length ≤ (kidsE es q).length := ((List.take_sublist j es).filter _).length_le
              rw [List.length_append] at h5 ⊢
              omega
            clear he hre hpf
            obtain ⟨t0, t1, t2, t3⟩ := F0.out
            go_wp2_with fail
            clear t0 t1 t2 t3 y0 y1 y2 y3 c1
            generalize wr.alloc (.cells #[.string (str e.path), .int .i64 e.kind, .int .i64 e.size, .slice xx e.chunks.length c2] 40) = WE at *
            refine (l3Last_any _ _ (by rw [str_size]; omega) (by rw [str_size]; omega)).mono ?_
            rintro r w2 ⟨rfl, hb2⟩
            rw [HLA.out]
            have F2 := hide (F0.out.below hb2)
            have BE2 := hide (below_next BA.out hb2)
            clear hb2
            have t0 := F2.out.1
            go_wp2_with fail
            clear t0
            refine (l3Parent_any _ _ (by rw [str_size]; omega) (by rw [str_size]; omega)).mono ?_
            rintro r w3 ⟨rfl, hb3⟩
            rw [HP.out]
            have F3 := hide (F2.out.below hb3)
            have BE3 := hide (below_next BE2.out hb3)
            have T3 := hide (HT.out.below BE3.out)
            have B3 := hide (below_next HW.out BE3.out)
            have hwz := B3.out.size
            have k3 := F3.out.2.1
            have k0 := F3.out.1
            clear hb3 F2 F0
            by_cases hqq : parentP e.path = q
            · have hs1 := str_yes hqq
              have HKI := hide (show D ++ kidsE (es.take (j + 1)) q = (D ++ kidsE (es.take j) q) ++ [e] from by rw [kids_in HXe.out hqq, List.append_assoc])
              clear hqq
              have HIN := hide (l8In_any sv sc LS (runN (D ++ kidsE (es.take j) q)).1 (lastP e.path) w3 (T3.out.seen.reads) HLS.out (by rw [← HLS.out]; omega))
              by_cases hmm : lastP e.path ∈ (runN (D ++ kidsE (es.take j) q)).1
              · rw [decide_eq_true hmm] at HIN
                have TN := hide (T3.out.skip hmm)
                clear hmm
                go_wp2_with fail
                refine HIN.out.mono ?_
                rintro r w4 ⟨rfl, hw4⟩
                have hw5 := hw4.symm
                clear hw4
                subst hw5
                go_wp2_with fail
                go_roundw
                case rel => exact ⟨j + 1, by omega, by go_num, hide (by rw [HKI.out]; exact TN.out), B3⟩
                case measure => simp [intOf]; omega
              · rw [decide_eq_false hmm] at HIN
                have HMM := hide hmm
                clear hmm
                have hm3 : LS + 1 ≤ maxLen := by unfold maxLen; omega
                have hm4 : (LS + 1) * 16 ≤ 140737488355328 := by omega
                have OS3 : Hid (w3.ownsRow w.heap.size 9 1 (.slice sv LS sc) LS ((runN (D ++ kidsE (es.take j) q)).1.map vS)) := by have := T3.out.seen; unfold OwnS at this; rw [← HLS.out] at this; exact this
                have HAP : Hid (∀ (W : World), Kept (fun b => (Value.slice sv LS sc).ownBlock = some b) w3 W → W.cell? ⟨wr.heap.size, 1, none⟩ = some (.int .i64 e.kind)) := hide (fun W hK => (hK.cell (p := ⟨wr.heap.size, 1, none⟩) F3.out.lt (fun hq => absurd (HT.out.seen.lt _ hq).2 (Nat.lt_irrefl _))).trans F3.out.2.1)
                by_cases h3 : e.kind = 3
                · have h3' : (e.kind != 3) = false := by simp [h3]
                  have HST := hide (show runN ((D ++ kidsE (es.take j) q) ++ [e]) = ((runN (D ++ kidsE (es.take j) q)).1 ++ [lastP e.path], (runN (D ++ kidsE (es.take j) q)).2) from by rw [runN_snoc, stepN, if_neg HMM.out, if_pos h3])
                  clear h3
                  go_wp2_with fail
                  refine HIN.out.mono ?_
                  rintro r w4 ⟨rfl, hw4⟩
                  have hw5 := hw4.symm
                  clear hw4
                  subst hw5
                  go_wp2_with (at_builtin; refine wpList_append_one_at rfl (.tmp 58) (.tmp 60) 26 rfl w.heap.size 9 i1 (.string ⟨#[]⟩) 1 16 Tryz.underlying26 ki kz0 kz1 kz2 rfl (by decide) _ _ _ rfl OS3.out rfl rfl (by intro u hu; simp at hu; subst hu; rfl) hm3 hm4 hwz ?_; intro v' w5 hown5 hkept hat; have O5 := hide (show OwnS w.heap.size w5 v' ((runN (D ++ kidsE (es.take j) q)).1 ++ [lastP e.path]) from OwnS.snoc (by rw [← HLS.out]; exact hown5) rfl); have K5 := hide hkept; have A5 := hide hat; have k5 := HAP.out _ hkept; clear hown5 hkept hat)
                  go_roundw
                  case rel =>
                    refine ⟨j + 1, by omega, by go_num, hide ?_, hide ?_⟩
                    · rw [HKI.out]
                      refine ⟨?_, ?_, ?_⟩
                      · rw [HST.out]; exact T3.out.out.kept K5.out (fun g hg => T3.out.apart g hg)
                      · rw [HST.out]; exact O5.out
                      · intro g hg hg2
                        rcases A5.out with h8 | ⟨g', h8, h9⟩
                        · rw [h8] at hg2; exact T3.out.apart g hg hg2
                        · rw [h8] at hg2
                          have := (T3.out.out.lt g hg).2
                          simp at hg2
                          omega
                    · exact Kept.below_own B3.out hwz OS3.out K5.out
                  case measure => simp [intOf]; omega
                · have h3' : (e.kind != 3) = true := by simp [h3]
                  have HST := hide (show runN ((D ++ kidsE (es.take j) q) ++ [e]) = ((runN (D ++ kidsE (es.take j) q)).1 ++ [lastP e.path], putS (runN (D ++ kidsE (es.take j) q)).2 (lastP e.path)) from by rw [runN_snoc, stepN, if_neg HMM.out, if_neg h3])
                  clear h3
                  have HPUT : Hid (∀ (W : World), Kept (fun b => (Value.slice sv LS sc).ownBlock = some b) w3 W → Calls Tryz.prog 32 #[.slice ov LO oc, .string (str (lastP e.path))] W fun r w' => ∃ av cv N, r = .returned (.slice av N cv) ∧ N = (putS (runN (D ++ kidsE (es.take j) q)).2 (lastP e.path)).length ∧ OwnS W.heap.size w' (.slice av N cv) (putS (runN (D ++ kidsE (es.take j) q)).2 (lastP e.path)) ∧ Below W.heap.size W w') := hide (fun W hK => (l8Put_any ov oc LO _ (lastP e.path) W (T3.out.out.kept hK (fun g hg => T3.out.apart g hg)) HLO.out (by rw [← HLO.out]; omega)).mono (fun r w' ⟨av, cv, h1, h2, h3⟩ => ⟨av, cv, _, h1, rfl, h2, h3⟩))
                  go_wp2_with fail
                  refine HIN.out.mono ?_
                  rintro r w4 ⟨rfl, hw4⟩
                  have hw5 := hw4.symm
                  clear hw4
                  subst hw5
                  go_wp2_with (at_builtin; refine wpList_append_one_at rfl (.tmp 58) (.tmp 60) 26 rfl w.heap.size 9 i1 (.string ⟨#[]⟩) 1 16 Tryz.underlying26 ki kz0 kz1 kz2 rfl (by decide) _ _ _ rfl OS3.out rfl rfl (by intro u hu; simp at hu; subst hu; rfl) hm3 hm4 hwz ?_; intro v' w5 hown5 hkept hat; have O5 := hide (show OwnS w.heap.size w5 v' ((runN (D ++ kidsE (es.take j) q)).1 ++ [lastP e.path]) from OwnS.snoc (by rw [← HLS.out]; exact hown5) rfl); have K5 := hide hkept; have A5 := hide hat; have k5 := HAP.out _ hkept; clear hown5 hkept hat)
                  refine (HPUT.out w5 K5.out).mono ?_
                  rintro r w6 ⟨av6, cv6, N6, rfl, hN6, hO6, hb6⟩
                  have HN6 := hide hN6
                  have O6 := hide hO6
                  have B6 := hide hb6
                  have BW5 := hide (Kept.below_own B3.out hwz OS3.out K5.out)
                  have hwz5 := BW5.out.size
                  clear hN6 hO6 hb6
                  go_wp2_with fail
                  go_roundw
                  case rel =>
                    refine ⟨j + 1, by omega, by go_num, hide ?_, hide ?_⟩
                    · rw [HKI.out]
                      refine ⟨?_, ?_, ?_⟩
                      · rw [HST.out]; exact O6.out.mono hwz5
                      · rw [HST.out]; exact O5.out.below B6.out
                      · intro g hg hg2
                        have h8 := (O6.out.lt g hg).1
                        have h9 := (O5.out.lt g hg2).2
                        omega
                    · exact below_next BW5.out B6.out
                  case measure => simp [intOf]; omega
            · have hs1 := str_no hqq
              have HKI := hide (show D ++ kidsE (es.take (j + 1)) q = D ++ kidsE (es.take j) q from by rw [kids_out HXe.out hqq])
              clear hqq
              go_wp2_with fail
              go_roundw
              case rel => exact ⟨j + 1, by omega, by go_num, hide (by rw [HKI.out]; exact T3.out), B3⟩
              case measure => simp [intOf]; omega
          · have hE : es.take j = es := List.take_of_length_le (by omega)
            rw [hE] at HT HLS HLO
            clear hE
            by_cases h1 : HH = 1
            · have HE := hide (HHq.out.1 h1)
              have HO : Hid (OwnS w.heap.size wr (.slice ov LO oc) (namesE (allE ls) q)) := hide (by have := HT.out.out; rw [← HNM.out, ← HE.out]; exact this)
              have HL := hide (show LO = (namesE (allE ls) q).length by rw [← HNM.out, ← HE.out]; exact HLO.out)
              subst h1
              go_wp2_with fail
              go_ret
              exact ⟨ov, oc, by rw [← HL.out]; rfl, by rw [← HL.out]; exact HO.out, HW.out⟩
            · have HE := hide (HHq.out.2 h1)
              have h1' : (HH == 1) = false := by simpa using h1
              clear h1
              go_wp2_with fail
              go_roundw
              case rel => exact ⟨m, D ++ kidsE es q, by omega, rfl, HE, HT, HW⟩
              case measure => simp [intOf]
end Go.Proofs.YtjkmbicedbdifaaGreat
