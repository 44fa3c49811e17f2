/-
  Texts put together: OvrK OvrO MntG TreE OvrG.
-/
import Derived.Test.YtebgfaohhhgdpaaGreatKMounts19
import Derived.Test.YtebgfaohhhgdpaaGreatKMounts14
import Derived.Test.YtebgfaohhhgdpaaGreatKMounts12
import Derived.Test.YtebgfaohhhgdpaaGreatKMounts17
import Derived.Test.YtebgfaohhhgdpaaGreatKMounts20
import Derived.Test.YtebgfaohhhgdpaaGreatKMounts9
namespace Go.Proofs.YtebgfaohhhgdpaaGreat
open Go.RowKit Go.Maps
set_option linter.unusedVariables false
attribute [local go_sem ↓] Go.wp_at_zero Go.wp_at_succ

theorem wpList_append_one_at {P : Program} {wr : World} {news : Array Value} {ops : Array Oper} {rest : List Oper} {o : Oper} {a : Act} {Q : Exit → Act → World → Prop} (hgd : o.guard = none) (s x : Operand) (t : TypeId)
    (ho : o.op = .call { callee := .builtin .append, args := #[s, x], argTypes := #[t, t] })
    (base : Nat) (e : TypeId) (i : TypeInfo) (z : Value) (size bytes : Nat) (ht : P.underlying t = some (.slice e)) (hi : P.info? e = some i) (hz : i.zero = some z)
    (hsize : i.size = size) (hby : i.bytes = bytes) (hzs : z.cells.size = size) (hsz : 0 < size)
    (v : Value) (n : Nat) (xs : List Value) (hs : a.eval s = v) (hown : wr.ownsRow base e size v n xs)
    (hx : a.eval x = .slice (some ⟨wr.heap.size, 0, none⟩) 1 1) (hl : news.size = size) (h1 : ∀ u ∈ news.toList, u.oneCell' = true)
    (h63 : n + 1 ≤ maxLen) (hbytes : (n + 1) * bytes ≤ 140737488355328) (hbase : base ≤ wr.heap.size)
    (h : ∀ v' w', w'.ownsRow base e size v' (n + 1) (xs ++ news.toList) → Kept (fun b => v.ownBlock = some b) wr w' → (v'.ownBlock = v.ownBlock ∨ ∃ g, v'.ownBlock = some g ∧ wr.heap.size ≤ g) → wpList P ops Q rest (a.put o.dst v') w') :
    wpList P ops Q (o :: rest) a (wr.alloc (.cells news e)) := by
  refine wpList_append_own_at _ hgd s x t ho base e i z size bytes ht hi hz hsize hby hzs hsz v n xs hs (hown.alloc _) ⟨wr.heap.size, 0, none⟩ 1 1 news.toList hx (by simp [hl]) ?_ h1 h63 hbytes (by simp; omega) ?_
  · intro j u hj
    have hadd : (⟨wr.heap.size, 0, none⟩ : Addr).add j = ⟨wr.heap.size, j, none⟩ := by unfold Addr.add; split <;> simp_all
    rw [hadd, cell_of_row _ wr.heap.size j news e (0, 0) (heap_alloc_new wr _)]
    simpa using hj
  · intro v' w' ho' hg _ hat
    refine h v' w' ho' ⟨hg.os, hg.tape, hg.output, Nat.le_trans (by simp) hg.size, fun k hk hn => ?_⟩ ?_
    · rw [hg.block k (by simp; omega) (fun e => hn e.symm)]
      exact Below.heap_alloc _ _ _ hk
    · rcases hat with hat | hat
      · exact .inl hat
      · exact .inr ⟨_, hat, by simp⟩

set_option maxRecDepth 100000 in
set_option maxHeartbeats 800000 in
theorem l8Hides_top (a : Option Addr) (c n : Nat) (w : World) :
    Calls Tryz.prog 144 #[.slice a n c, .string (str [])] w fun r w' => r = .returned (.int .i64 0) ∧ w' = w := by
  have hs0 : ((str []).toList == []) = true := by rw [str_toList]; rfl
  go_enter Tryz.func144, Tryz.ntmps144
  go_wp2_with fail
  go_ret
  exact ⟨rfl, rfl⟩
theorem l8HidesQ_any (a : Option Addr) (c n : Nat) (es : List En) (q : Bs) (w : World) (h : RdE w a es) (hn : n = es.length) (hRi : Right es) (hq : q = [] ∨ faultP q = 0) (hql : q.length ≤ 1048576) :
    Calls Tryz.prog 144 #[.slice a n c, .string (str q)] w fun r w' => r = .returned (.int .i64 (hidQ es q)) ∧ Below w.heap.size w w' := by
  by_cases h0 : q = []
  · subst h0
    have e1 : hidQ es [] = 0 := by simp [hidQ]
    rw [e1]
    exact (l8Hides_top a c n w).mono (fun r w' ⟨h1, h2⟩ => ⟨h1, by rw [h2]; exact Below.refl _ _⟩)
  · have e1 : hidQ es q = hidN es q := by simp [hidQ, h0]
    rw [e1]
    exact l8Hides_any a c n es q w h hn (by have := hRi.len; omega) hRi (by rcases hq with hq | hq; exact absurd hq h0; exact hq) hql
theorem kids_in {es : List En} {q : Bs} {k : Nat} {e : En} (he : es[k]? = some e) (h : parentP e.path = q) : kidsE (es.take (k + 1)) q = kidsE (es.take k) q ++ [e] := by
  rw [take_at he]; simp [kidsE, h]
theorem kids_out {es : List En} {q : Bs} {k : Nat} {e : En} (he : es[k]? = some e) (h : parentP e.path ≠ q) : kidsE (es.take (k + 1)) q = kidsE (es.take k) q := by
  rw [take_at he]; simp [kidsE, h]
structure TwoN (B : Nat) (w : World) (ov sv : Value) (D : List En) : Prop where
  out : OwnS B w ov (runN D).2
  seen : OwnS B w sv (runN D).1
  apart : ∀ g, ov.ownBlock = some g → sv.ownBlock ≠ some g
theorem TwoN.below {B : Nat} {w w' : World} {ov sv : Value} {D : List En} (h : TwoN B w ov sv D) (hb : Below w.heap.size w w') : TwoN B w' ov sv D := ⟨h.out.below hb, h.seen.below hb, h.apart⟩
theorem TwoN.skip {B : Nat} {w : World} {ov sv : Value} {D : List En} {e : En} (h : TwoN B w ov sv D) (hm : lastP e.path ∈ (runN D).1) : TwoN B w ov sv (D ++ [e]) := by
  have : runN (D ++ [e]) = runN D := by rw [runN_snoc, stepN, if_pos hm]
  exact ⟨by rw [this]; exact h.out, by rw [this]; exact h.seen, h.apart⟩
theorem TwoN.lens {B : Nat} {w : World} {ov sv : Value} {D : List En} (h : TwoN B w ov sv D) : (runN D).1.length ≤ D.length ∧ (runN D).2.length ≤ D.length := ⟨(runN_says D).2.2.2.1, (runN_says D).2.2.2.2⟩

set_option maxRecDepth 100000 in
set_option maxHeartbeats 12800000 in
theorem l8Names_any (a : Option Addr) (c n : Nat) (ls : List (List En)) (q : Bs) (w : World) (h : RdL w a ls) (hn : n = ls.length) (h4 : ls.length ≤ 4) (hR : ∀ es ∈ ls, Right es) (hq : q = [] ∨ faultP q = 0) (hql : q.length ≤ 1048576) :
    Calls Tryz.prog 91 #[.slice a n c, .string (str q)] w fun r w' => ∃ av cv, r = .returned (.slice av (namesE (allE ls) q).length cv) ∧ OwnS w.heap.size w' (.slice av (namesE (allE ls) q).length cv) (namesE (allE ls) q) ∧ Below w.heap.size w w' := by
  subst hn
  obtain ⟨i1, ki, kz0, kz1, kz2⟩ := info_parts infoS
  have HR := hide h
  have HRi := hide hR
  have HQ := hide hq
  have HNM := hide (come_names hR h4 q)
  have HCL := hide (come_len (q := q) hR ls.length (Nat.le_refl _))
  have hw1 : IntKind.i64.wrap ((ls.length : Int) - 1) = (ls.length : Int) - 1 := by simp [IntKind.wrap, IntKind.signed, IntKind.bits]; omega
  have B0 := hide (below_next (below_alloc w (.cells #[] 9)) (below_alloc (w.alloc (.cells #[] 9)) (.cells #[] 9)))
  have T0 : Hid (TwoN w.heap.size ((w.alloc (.cells #[] 9)).alloc (.cells #[] 9)) (.slice (some ⟨w.heap.size, 0, none⟩) 0 0) (.slice (some ⟨w.heap.size + 1, 0, none⟩) 0 0) []) := hide ⟨ownsRow_below (made_none w) (below_alloc _ _), by have := made_none (w.alloc (.cells #[] 9)); rw [show (w.alloc (.cells #[] 9)).heap.size = w.heap.size + 1 by simp] at this; exact ownsRow_mono this (by omega), fun g h1 h2 => by simp [Value.ownBlock] at h1 h2; omega⟩
  clear h hR hq
  generalize hDD : comeD ls q ls.length = DD at *
  have HDD := hide hDD
  clear hDD
  go_enter Tryz.func91, Tryz.ntmps91
  go_wp2_with fail
  generalize (w.alloc (.cells #[] 9)).alloc (.cells #[] 9) = W0 at *
  go_loopw [5, 6, 7] (fun ov sv i wr => ∃ (k : Nat) (D : List En), k ≤ ls.length ∧ i = .int .i64 ((k : Int) - 1) ∧ Hid (D ++ comeD ls q k = DD) ∧ Hid (TwoN w.heap.size wr ov sv D) ∧ Hid (Below w.heap.size w wr)) (fun _ _ i _ => (intOf i + 1).toNat)
  case atStart => exact ⟨ls.length, [], Nat.le_refl _, rfl, hide (by rw [List.nil_append]; exact HDD.out), T0, B0⟩
  case round =>
    obtain ⟨k, D, hk, hi, HD, HT, HW⟩ := hrel
    have hcl := HCL.out
    cases k with
    | zero =>
      rw [show ((0 : Nat) : Int) - 1 = -1 from rfl] at hi
      subst hi
      have HE := hide (show D = DD from by have := HD.out; simpa [comeD] using this)
      obtain ⟨ov, oc, hov⟩ := HT.out.out.shape
      have HO : Hid (OwnS w.heap.size wr (.slice ov (runN D).2.length oc) (namesE (allE ls) q)) := hide (by have := HT.out.out; rw [hov] at this; rw [← HNM.out, ← HE.out]; exact this)
      have HL := hide (show (runN D).2.length = (namesE (allE ls) q).length by rw [← HNM.out, HE.out])
      subst hov
      clear hcl
      go_wp2_with fail
      go_ret
      exact ⟨ov, oc, by rw [HL.out]; rfl, by rw [← HL.out]; exact HO.out, HW.out⟩
    | succ m =>
      rw [show ((m + 1 : Nat) : Int) - 1 = (m : Int) from by omega] at hi
      subst hi
      have hm0 : (0 : Int) ≤ (m : Int) := by omega
      have hm1 : (m : Int) < (ls.length : Int) := by omega
      have hm2 : IntKind.i64.wrap ((m : Int) - 1) = (m : Int) - 1 := by simp [IntKind.wrap, IntKind.signed, IntKind.bits]; omega
      obtain ⟨b, off, es, x, cc, rfl, hb, he, c0, hr⟩ := HR.out.at (k := m) (by omega)
      have hRi := HRi.out es (List.mem_of_getElem? he)
      have hel := hRi.len
      have HX := hide he
      have HRI := hide hRi
      have HSM := hide (right_small hRi)
      have HHI := hide (l8HidesQ_any x cc es.length es q wr (hr.below HW.out) rfl hRi HQ.out hql)
      have HRE := hide hr
      have KC : Hid (∀ w', Below w.heap.size w w' → w'.cell? ⟨b, off + m, none⟩ = some (.slice x es.length cc)) := hide (fun w' hb' => (hb'.cell (p := ⟨b, off + m, none⟩) hb).trans c0)
      clear he hRi hr c0
      have c0 := KC.out _ HW.out
      by_cases h2 : hidQ es q = 2
      · rw [h2] at HHI
        have HE := hide (show D = DD from by have := HD.out; rw [come_two HX.out h2, List.append_nil] at this; exact this)
        obtain ⟨ov, oc, hov⟩ := HT.out.out.shape
        have HO : Hid (OwnS w.heap.size wr (.slice ov (runN D).2.length oc) (namesE (allE ls) q)) := hide (by have := HT.out.out; rw [hov] at this; rw [← HNM.out, ← HE.out]; exact this)
        have HL := hide (show (runN D).2.length = (namesE (allE ls) q).length by rw [← HNM.out, HE.out])
        subst hov
        clear hcl h2
        go_wp2_with fail
        refine HHI.out.mono ?_
        rintro r w1 ⟨rfl, hb1⟩
        have B1 := hide hb1
        clear hb1 c0
        go_wp2_with fail
        go_ret
        exact ⟨ov, oc, by rw [HL.out]; rfl, by rw [← HL.out]; exact HO.out.below B1.out, below_next HW.out B1.out⟩
      · have hn2 : (hidQ es q == 2) = false := by simpa using h2
        have HKD : Hid ((D ++ kidsE es q).length ≤ 12 * ls.length) := hide (by
          have := HD.out
          by_cases h1 : hidQ es q = 1
          · rw [come_one HX.out h1] at this; rw [this]; exact hcl
          · rw [come_on HX.out h2 h1, ← List.append_assoc] at this
            have h5 := congrArg List.length this
            rw [List.length_append] at h5
            omega)
        have HHq := hide (show (hidQ es q = 1 → D ++ kidsE es q = DD) ∧ (hidQ es q ≠ 1 → (D ++ kidsE es q) ++ comeD ls q m = DD) from ⟨fun h1 => by have := HD.out; rw [come_one HX.out h1] at this; exact this, fun h1 => by have := HD.out; rw [come_on HX.out h2 h1, ← List.append_assoc] at this; exact this⟩)
        generalize hidQ es q = HH at *
        clear h2 hcl
        go_wp2_with fail
        refine HHI.out.mono ?_
        rintro r w1 ⟨rfl, hb1⟩
        have B1 := hide (below_next HW.out hb1)
        have T1 := hide (HT.out.below hb1)
        clear hb1 c0 HT HHI HW
        go_wp2_with fail
        go_loopw [5, 6, 9] (fun ov sv i wx => ∃ j : Nat, j ≤ es.length ∧ i = .int .i64 j ∧ Hid (TwoN w.heap.size wx ov sv (D ++ kidsE (es.take j) q)) ∧ Hid (Below w.heap.size w wx)) (fun _ _ i _ => es.length - (intOf i).toNat)
        case atStart => exact ⟨0, Nat.zero_le _, rfl, hide (by simpa [kidsE] using T1.out), B1⟩
        case round =>
          obtain ⟨j, hj, rfl, HT, HW⟩ := hrel
          have c1 := KC.out _ HW.out
          obtain ⟨ov, oc, hov⟩ := HT.out.out.shape
          obtain ⟨sv, sc, hsv⟩ := HT.out.seen.shape
          subst hov
          subst hsv
          obtain ⟨LS, hLS⟩ : ∃ LS, LS = (runN (D ++ kidsE (es.take j) q)).1.length := ⟨_, rfl⟩
          obtain ⟨LO, hLO⟩ : ∃ LO, LO = (runN (D ++ kidsE (es.take j) q)).2.length := ⟨_, rfl⟩
          have hlens := HT.out.lens
          rw [← hLS, ← hLO] at HT hlens ⊢
          have HLS := hide hLS
          have HLO := hide hLO
          clear hLS hLO
          by_cases hlt : j < es.length
          · obtain ⟨bb, off2, e, xx, c2, hxe, hbb, he, y0, y1, y2, y3, hre⟩ := (HRE.out.below HW.out).at hlt
            subst hxe
            have hpf := entFault_zero (HRI.out.ent e (List.mem_of_getElem? he))
            have hpos := path_pos hpf
            have hsm := HSM.out e (List.mem_of_getElem? he)
            have HXe := hide he
            have hj0 : (0 : Int) ≤ (j : Int) := by omega
            have hj1 : (j : Int) < (es.length : Int) := by omega
            have HP := hide (show (aboveN (cutB (str e.path).data.toList.tail)).getLastD [] = parentP e.path from by rw [str_data]; rfl)
            have HLA := hide (show lastN (cutB (str e.path).data.toList.tail) = lastP e.path from by rw [str_data]; rfl)
            have BA := hide (below_alloc wr (.cells #[.string (str e.path), .int .i64 e.kind, .int .i64 e.size, .slice xx e.chunks.length c2] 53))
            have F0 := hide (Four.new wr (.string (str e.path)) (.int .i64 e.kind) (.int .i64 e.size) (.slice xx e.chunks.length c2) 53)
            have hkj : (D ++ kidsE (es.take j) q).length ≤ 48 := by
              have h5 := HKD.out
              have h6 : (kidsE (es.take j) q).length ≤ (kidsE es q).length := ((List.take_sublist j es).filter _).length_le
              rw [List.length_append] at h5 ⊢
              omega
            clear he hre hpf
            obtain ⟨t0, t1, t2, t3⟩ := F0.out
            go_wp2_with fail
            clear t0 t1 t2 t3 y0 y1 y2 y3 c1
            generalize wr.alloc (.cells #[.string (str e.path), .int .i64 e.kind, .int .i64 e.size, .slice xx e.chunks.length c2] 53) = WE at *
            refine (l3Last_any _ _ (by rw [str_size]; omega) (by rw [str_size]; omega)).mono ?_
            rintro r w2 ⟨rfl, hb2⟩
            rw [HLA.out]
            have F2 := hide (F0.out.below hb2)
            have BE2 := hide (below_next BA.out hb2)
            clear hb2
            have t0 := F2.out.1
            go_wp2_with fail
            clear t0
            refine (l3Parent_any _ _ (by rw [str_size]; omega) (by rw [str_size]; omega)).mono ?_
            rintro r w3 ⟨rfl, hb3⟩
            rw [HP.out]
            have F3 := hide (F2.out.below hb3)
            have BE3 := hide (below_next BE2.out hb3)
            have T3 := hide (HT.out.below BE3.out)
            have B3 := hide (below_next HW.out BE3.out)
            have hwz := B3.out.size
            have k3 := F3.out.2.1
            have k0 := F3.out.1
            clear hb3 F2 F0
            by_cases hqq : parentP e.path = q
            · have hs1 := str_yes hqq
              have HKI := hide (show D ++ kidsE (es.take (j + 1)) q = (D ++ kidsE (es.take j) q) ++ [e] from by rw [kids_in HXe.out hqq, List.append_assoc])
              clear hqq
              have HIN := hide (l8In_any sv sc LS (runN (D ++ kidsE (es.take j) q)).1 (lastP e.path) w3 (T3.out.seen.reads) HLS.out (by rw [← HLS.out]; omega))
              by_cases hmm : lastP e.path ∈ (runN (D ++ kidsE (es.take j) q)).1
              · rw [decide_eq_true hmm] at HIN
                have TN := hide (T3.out.skip hmm)
                clear hmm
                go_wp2_with fail
                refine HIN.out.mono ?_
                rintro r w4 ⟨rfl, hw4⟩
                have hw5 := hw4.symm
                clear hw4
                subst hw5
                go_wp2_with fail
                go_roundw
                case rel => exact ⟨j + 1, by omega, by go_num, hide (by rw [HKI.out]; exact TN.out), B3⟩
                case measure => simp [intOf]; omega
              · rw [decide_eq_false hmm] at HIN
                have HMM := hide hmm
                clear hmm
                have hm3 : LS + 1 ≤ maxLen := by unfold maxLen; omega
                have hm4 : (LS + 1) * 16 ≤ 140737488355328 := by omega
                have OS3 : Hid (w3.ownsRow w.heap.size 9 1 (.slice sv LS sc) LS ((runN (D ++ kidsE (es.take j) q)).1.map vS)) := by have := T3.out.seen; unfold OwnS at this; rw [← HLS.out] at this; exact this
                have HAP : Hid (∀ (W : World), Kept (fun b => (Value.slice sv LS sc).ownBlock = some b) w3 W → W.cell? ⟨wr.heap.size, 1, none⟩ = some (.int .i64 e.kind)) := hide (fun W hK => (hK.cell (p := ⟨wr.heap.size, 1, none⟩) F3.out.lt (fun hq => absurd (HT.out.seen.lt _ hq).2 (Nat.lt_irrefl _))).trans F3.out.2.1)
                by_cases h3 : e.kind = 3
                · have h3' : (e.kind != 3) = false := by simp [h3]
                  have HST := hide (show runN ((D ++ kidsE (es.take j) q) ++ [e]) = ((runN (D ++ kidsE (es.take j) q)).1 ++ [lastP e.path], (runN (D ++ kidsE (es.take j) q)).2) from by rw [runN_snoc, stepN, if_neg HMM.out, if_pos h3])
                  clear h3
                  go_wp2_with fail
                  refine HIN.out.mono ?_
                  rintro r w4 ⟨rfl, hw4⟩
                  have hw5 := hw4.symm
                  clear hw4
                  subst hw5
                  go_wp2_with (at_builtin; refine wpList_append_one_at rfl (.tmp 58) (.tmp 60) 83 rfl w.heap.size 9 i1 (.string ⟨#[]⟩) 1 16 Tryz.underlying83 ki kz0 kz1 kz2 rfl (by decide) _ _ _ rfl OS3.out rfl rfl (by intro u hu; simp at hu; subst hu; rfl) hm3 hm4 hwz ?_; intro v' w5 hown5 hkept hat; have O5 := hide (show OwnS w.heap.size w5 v' ((runN (D ++ kidsE (es.take j) q)).1 ++ [lastP e.path]) from OwnS.snoc (by rw [← HLS.out]; exact hown5) rfl); have K5 := hide hkept; have A5 := hide hat; have k5 := HAP.out _ hkept; clear hown5 hkept hat)
                  go_roundw
                  case rel =>
                    refine ⟨j + 1, by omega, by go_num, hide ?_, hide ?_⟩
                    · rw [HKI.out]
                      refine ⟨?_, ?_, ?_⟩
                      · rw [HST.out]; exact T3.out.out.kept K5.out (fun g hg => T3.out.apart g hg)
                      · rw [HST.out]; exact O5.out
                      · intro g hg hg2
                        rcases A5.out with h8 | ⟨g', h8, h9⟩
                        · rw [h8] at hg2; exact T3.out.apart g hg hg2
                        · rw [h8] at hg2
                          have := (T3.out.out.lt g hg).2
                          simp at hg2
                          omega
                    · exact Kept.below_own B3.out hwz OS3.out K5.out
                  case measure => simp [intOf]; omega
                · have h3' : (e.kind != 3) = true := by simp [h3]
                  have HST := hide (show runN ((D ++ kidsE (es.take j) q) ++ [e]) = ((runN (D ++ kidsE (es.take j) q)).1 ++ [lastP e.path], putS (runN (D ++ kidsE (es.take j) q)).2 (lastP e.path)) from by rw [runN_snoc, stepN, if_neg HMM.out, if_neg h3])
                  clear h3
                  have HPUT : Hid (∀ (W : World), Kept (fun b => (Value.slice sv LS sc).ownBlock = some b) w3 W → Calls Tryz.prog 120 #[.slice ov LO oc, .string (str (lastP e.path))] W fun r w' => ∃ av cv N, r = .returned (.slice av N cv) ∧ N = (putS (runN (D ++ kidsE (es.take j) q)).2 (lastP e.path)).length ∧ OwnS W.heap.size w' (.slice av N cv) (putS (runN (D ++ kidsE (es.take j) q)).2 (lastP e.path)) ∧ Below W.heap.size W w') := hide (fun W hK => (l8Put_any ov oc LO _ (lastP e.path) W (T3.out.out.kept hK (fun g hg => T3.out.apart g hg)) HLO.out (by rw [← HLO.out]; omega)).mono (fun r w' ⟨av, cv, h1, h2, h3⟩ => ⟨av, cv, _, h1, rfl, h2, h3⟩))
                  go_wp2_with fail
                  refine HIN.out.mono ?_
                  rintro r w4 ⟨rfl, hw4⟩
                  have hw5 := hw4.symm
                  clear hw4
                  subst hw5
                  go_wp2_with (at_builtin; refine wpList_append_one_at rfl (.tmp 58) (.tmp 60) 83 rfl w.heap.size 9 i1 (.string ⟨#[]⟩) 1 16 Tryz.underlying83 ki kz0 kz1 kz2 rfl (by decide) _ _ _ rfl OS3.out rfl rfl (by intro u hu; simp at hu; subst hu; rfl) hm3 hm4 hwz ?_; intro v' w5 hown5 hkept hat; have O5 := hide (show OwnS w.heap.size w5 v' ((runN (D ++ kidsE (es.take j) q)).1 ++ [lastP e.path]) from OwnS.snoc (by rw [← HLS.out]; exact hown5) rfl); have K5 := hide hkept; have A5 := hide hat; have k5 := HAP.out _ hkept; clear hown5 hkept hat)
                  refine (HPUT.out w5 K5.out).mono ?_
                  rintro r w6 ⟨av6, cv6, N6, rfl, hN6, hO6, hb6⟩
                  have HN6 := hide hN6
                  have O6 := hide hO6
                  have B6 := hide hb6
                  have BW5 := hide (Kept.below_own B3.out hwz OS3.out K5.out)
                  have hwz5 := BW5.out.size
                  clear hN6 hO6 hb6
                  go_wp2_with fail
                  go_roundw
                  case rel =>
                    refine ⟨j + 1, by omega, by go_num, hide ?_, hide ?_⟩
                    · rw [HKI.out]
                      refine ⟨?_, ?_, ?_⟩
                      · rw [HST.out]; exact O6.out.mono hwz5
                      · rw [HST.out]; exact O5.out.below B6.out
                      · intro g hg hg2
                        have h8 := (O6.out.lt g hg).1
                        have h9 := (O5.out.lt g hg2).2
                        omega
                    · exact below_next BW5.out B6.out
                  case measure => simp [intOf]; omega
            · have hs1 := str_no hqq
              have HKI := hide (show D ++ kidsE (es.take (j + 1)) q = D ++ kidsE (es.take j) q from by rw [kids_out HXe.out hqq])
              clear hqq
              go_wp2_with fail
              go_roundw
              case rel => exact ⟨j + 1, by omega, by go_num, hide (by rw [HKI.out]; exact T3.out), B3⟩
              case measure => simp [intOf]; omega
          · have hE : es.take j = es := List.take_of_length_le (by omega)
            rw [hE] at HT HLS HLO
            clear hE
            by_cases h1 : HH = 1
            · have HE := hide (HHq.out.1 h1)
              have HO : Hid (OwnS w.heap.size wr (.slice ov LO oc) (namesE (allE ls) q)) := hide (by have := HT.out.out; rw [← HNM.out, ← HE.out]; exact this)
              have HL := hide (show LO = (namesE (allE ls) q).length by rw [← HNM.out, ← HE.out]; exact HLO.out)
              subst h1
              go_wp2_with fail
              go_ret
              exact ⟨ov, oc, by rw [← HL.out]; rfl, by rw [← HL.out]; exact HO.out, HW.out⟩
            · have HE := hide (HHq.out.2 h1)
              have h1' : (HH == 1) = false := by simpa using h1
              clear h1
              go_wp2_with fail
              go_roundw
              case rel => exact ⟨m, D ++ kidsE es q, by omega, rfl, HE, HT, HW⟩
              case measure => simp [intOf]
end Go.Proofs.YtebgfaohhhgdpaaGreat

namespace Go.Proofs.YtebgfaohhhgdpaaGreat
open Go.RowKit Go.Maps
set_option linter.unusedVariables false
attribute [local go_sem ↓] Go.wp_at_zero Go.wp_at_succ

def LookNo (w : World) (r : Ending) (w' : World) : Prop :=
  r = .returned (.tuple #[.agg #[.string ⟨#[]⟩, .int .i64 0, .int .i64 0, .slice none 0 0], .bool false]) ∧ Below w.heap.size w w'
def LookYes (e : En) (w : World) (r : Ending) (w' : World) : Prop :=
  ∃ x c, r = .returned (.tuple #[.agg #[.string (str e.path), .int .i64 e.kind, .int .i64 e.size, .slice x e.chunks.length c], .bool true]) ∧ w'.ownsRow w.heap.size 2 1 (.slice x e.chunks.length c) e.chunks.length (e.chunks.map (Value.int .i64)) ∧ Below w.heap.size w w'

def Eight (w : World) (b : Nat) (u0 u1 u2 u3 : Value) : Prop := Four w b u0 u1 u2 u3 ∧ ∀ i, w.frozen? ⟨b, i, none⟩ = false
theorem Eight.new (w : World) (u0 u1 u2 u3 : Value) (t : TypeId) : Eight (w.alloc (.cells #[u0, u1, u2, u3] t)).drew w.heap.size u0 u1 u2 u3 :=
  ⟨(Four.new w u0 u1 u2 u3 t).below (Below.refl _ _).drew, fun i => ((Below.refl (w.alloc (.cells #[u0, u1, u2, u3] t)).heap.size _).drew.frozen (p := ⟨w.heap.size, i, none⟩) (by simp)).trans (by simp)⟩
theorem Eight.below {w w' : World} {b : Nat} {u0 u1 u2 u3 : Value} (h : Eight w b u0 u1 u2 u3) (hk : Below w.heap.size w w') : Eight w' b u0 u1 u2 u3 :=
  ⟨h.1.below hk, fun i => (hk.frozen (p := ⟨b, i, none⟩) h.1.lt).trans (h.2 i)⟩
theorem Eight.kept {S : Nat → Prop} {w w' : World} {b : Nat} {u0 u1 u2 u3 : Value} (h : Eight w b u0 u1 u2 u3) (hk : Kept S w w') (hn : ¬ S b) : Eight w' b u0 u1 u2 u3 :=
  ⟨⟨(hk.cell (p := ⟨b, 0, none⟩) h.1.lt hn).trans h.1.1, (hk.cell (p := ⟨b, 1, none⟩) h.1.lt hn).trans h.1.2.1, (hk.cell (p := ⟨b, 2, none⟩) h.1.lt hn).trans h.1.2.2.1, (hk.cell (p := ⟨b, 3, none⟩) h.1.lt hn).trans h.1.2.2.2⟩, fun i => (hk.frozen (p := ⟨b, i, none⟩) h.1.lt hn).trans (h.2 i)⟩
theorem Eight.set1 {w : World} {b : Nat} {u0 u1 u2 u3 : Value} (h : Eight w b u0 u1 u2 u3) (v : Value) : Eight (w.setCell ⟨b, 1, none⟩ v) b u0 v u2 u3 :=
  ⟨⟨by rw [cell_set_other (by simp)]; exact h.1.1, cell_set_same h.1.2.1, by rw [cell_set_other (by simp)]; exact h.1.2.2.1, by rw [cell_set_other (by simp)]; exact h.1.2.2.2⟩, fun i => by rw [World.frozen?_setCell]; exact h.2 i⟩

set_option maxRecDepth 100000 in
set_option maxHeartbeats 3200000 in
theorem l8Look_none (a : Option Addr) (c n : Nat) (ls : List (List En)) (p : Bs) (w : World) (h : RdL w a ls) (hn : n = ls.length) (h4 : ls.length ≤ 4) (hR : ∀ es ∈ ls, Right es) (hp : faultP p = 0) (hpl : p.length ≤ 1048576) (hs : seenL ls p = none) :
    Calls Tryz.prog 58 #[.slice a n c, .string (str p)] w (LookNo w) := by
  subst hn
  have X0 := hide (Four.new w (.string ⟨#[]⟩) (.int .i64 0) (.int .i64 0) (.slice none 0 0) 53)
  have B0 := hide (below_alloc w (.cells #[.string ⟨#[]⟩, .int .i64 0, .int .i64 0, .slice none 0 0] 53))
  have HPL := hide (l8Place_any a c ls.length ls p _ (h.below B0.out) rfl h4 hR hp hpl)
  rw [hs, show placeI none = -1 from rfl] at HPL
  have f0 : ∀ i, (w.alloc (.cells #[.string ⟨#[]⟩, .int .i64 0, .int .i64 0, .slice none 0 0] 53)).frozen? ⟨w.heap.size, i, none⟩ = false := fun i => by simp
  clear h hR hs
  go_enter Tryz.func58, Tryz.ntmps58
  go_wp2_with fail
  refine HPL.out.mono ?_
  rintro r w1 ⟨rfl, hb1⟩
  have B1 := hide (below_next B0.out hb1)
  obtain ⟨t0, t1, t2, t3⟩ := X0.out.below hb1
  have g0 := fun i => (hb1.frozen (p := ⟨w.heap.size, i, none⟩) X0.out.lt).trans (f0 i)
  have g1 := g0 0
  have g2 := g0 1
  have g3 := g0 2
  have g4 := g0 3
  clear hb1 g0 f0
  go_wp2_with fail
  refine bodyPost_ret (v := .tuple #[.agg #[.string ⟨#[]⟩, .int .i64 0, .int .i64 0, .slice none 0 0], .bool false]) (by simp [results, Tryz.results58, go_sem, t0, t1, t2, t3]) rfl ⟨rfl, ?_⟩
  exact (((B1.out.setCell (p := ⟨w.heap.size, 0, none⟩) (Nat.le_refl _) _).setCell (p := ⟨w.heap.size, 1, none⟩) (Nat.le_refl _) _).setCell (p := ⟨w.heap.size, 2, none⟩) (Nat.le_refl _) _).setCell (p := ⟨w.heap.size, 3, none⟩) (Nat.le_refl _) _
set_option maxRecDepth 100000 in
set_option maxHeartbeats 6400000 in
theorem l8Look_some (a : Option Addr) (c n : Nat) (ls : List (List En)) (p : Bs) (w : World) (h : RdL w a ls) (hn : n = ls.length) (h4 : ls.length ≤ 4) (hR : ∀ es ∈ ls, Right es) (hp : faultP p = 0) (hpl : p.length ≤ 1048576) (i : Nat) (e : En) (hs : seenL ls p = some i) (he : seeL ls i p = some e) :
    Calls Tryz.prog 58 #[.slice a n c, .string (str p)] w (LookYes (asT e) w) := by
  subst hn
  obtain ⟨i0, hi0, hz0, hz1, hz2⟩ := info_parts Tryz.infoI64
  have X0 := hide (Four.new w (.string ⟨#[]⟩) (.int .i64 0) (.int .i64 0) (.slice none 0 0) 53)
  have B0 := hide (below_alloc w (.cells #[.string ⟨#[]⟩, .int .i64 0, .int .i64 0, .slice none 0 0] 53))
  have HPL := hide (l8Place_any a c ls.length ls p _ (h.below B0.out) rfl h4 hR hp hpl)
  rw [hs, show placeI (some i) = (i : Int) from rfl] at HPL
  have f0 : ∀ i, (w.alloc (.cells #[.string ⟨#[]⟩, .int .i64 0, .int .i64 0, .slice none 0 0] 53)).frozen? ⟨w.heap.size, i, none⟩ = false := fun i => by simp
  have hil : i < ls.length := by
    have := seeL_mem he
    unfold seeL at he
    cases hh : ls[i]? with
    | none => rw [hh] at he; cases he
    | some y => exact (List.getElem?_eq_some_iff.1 hh).1
  obtain ⟨b, off, es, x, cc, rfl, hb, hes, c0, hr⟩ := h.at hil
  have hRi := hR es (List.mem_of_getElem? hes)
  have hel := hRi.len
  have hfe : findE es p = some e := by rw [← seeL_at hes]; exact he
  obtain ⟨q, hq⟩ : ∃ q, atE es p = some q := by
    cases ha : atE es p with
    | none => rw [find_at_none ha] at hfe; cases hfe
    | some q => exact ⟨q, rfl⟩
  obtain ⟨e', he', hfe'⟩ := find_at_some hq
  have : e' = e := Option.some.inj (hfe'.symm.trans hfe)
  subst this
  have hqlt := atE_lt hq
  obtain ⟨bb, off2, e2, y, yc, rfl, hbb, he2, z0, z1, z2, z3, hrc⟩ := hr.at hqlt
  have : e2 = e' := Option.some.inj (he2.symm.trans he')
  subst this
  have hsm := right_small hRi e2 (List.mem_of_getElem? he2)
  have hek := ent_kinds (hRi.ent e2 (List.mem_of_getElem? he2))
  have KS : Hid (∀ w', Below w.heap.size w w' → w'.cell? ⟨b, off + i, none⟩ = some (.slice (some ⟨bb, off2, none⟩) es.length cc) ∧ w'.cell? ⟨bb, off2 + q * 4, none⟩ = some (.string (str e2.path)) ∧ w'.cell? ⟨bb, off2 + q * 4 + 1, none⟩ = some (.int .i64 e2.kind) ∧ w'.cell? ⟨bb, off2 + q * 4 + 2, none⟩ = some (.int .i64 e2.size) ∧ w'.cell? ⟨bb, off2 + q * 4 + 3, none⟩ = some (.slice y e2.chunks.length yc)) := hide (fun w' hb' => ⟨(hb'.cell (p := ⟨b, off + i, none⟩) hb).trans c0, (hb'.cell (p := ⟨bb, off2 + q * 4, none⟩) hbb).trans z0, (hb'.cell (p := ⟨bb, off2 + q * 4 + 1, none⟩) hbb).trans z1, (hb'.cell (p := ⟨bb, off2 + q * 4 + 2, none⟩) hbb).trans z2, (hb'.cell (p := ⟨bb, off2 + q * 4 + 3, none⟩) hbb).trans z3⟩)
  have HAT : Hid (∀ w', Below w.heap.size w w' → Calls Tryz.prog 60 #[.slice (some ⟨bb, off2, none⟩) es.length cc, .string (str p)] w' fun r w2 => r = .returned (.int .i64 q) ∧ w2 = w') := hide (fun w' hb' => by have h1 := l4At_any (some ⟨bb, off2, none⟩) cc es.length es p w' (hr.below hb') rfl (by omega); rw [hq] at h1; exact h1)
  have HRC := hide hrc
  have hi1 : (0 : Int) ≤ (i : Int) := by omega
  have hi2 : (i : Int) < (ls.length : Int) := by omega
  have hi3 : ¬ (i : Int) < 0 := by omega
  have hq1 : (0 : Int) ≤ (q : Int) := by omega
  have hq2 : (q : Int) < (es.length : Int) := by omega
  clear h hR hs he hes c0 hr hRi hfe hq he' hfe' he2 z0 z1 z2 z3 hrc
  go_enter Tryz.func58, Tryz.ntmps58
  go_wp2_with fail
  refine HPL.out.mono ?_
  rintro r w1 ⟨rfl, hb1⟩
  have B1 := hide (below_next B0.out hb1)
  have X1 := hide (X0.out.below hb1)
  have FZ := hide (fun i => (hb1.frozen (p := ⟨w.heap.size, i, none⟩) X0.out.lt).trans (f0 i))
  clear hb1 f0 X0 HPL
  obtain ⟨s0, s1, s2, s3, s4⟩ := KS.out _ B1.out
  go_wp2_with fail
  go_region_held3 (fun w' => w'.cell? ⟨b, off + i, none⟩ = some (.slice (some ⟨bb, off2, none⟩) es.length cc) ∧ w'.cell? ⟨bb, off2 + q * 4, none⟩ = some (.string (str e2.path)) ∧ w'.cell? ⟨bb, off2 + q * 4 + 1, none⟩ = some (.int .i64 e2.kind) ∧ w'.cell? ⟨bb, off2 + q * 4 + 2, none⟩ = some (.int .i64 e2.size) ∧ w'.cell? ⟨bb, off2 + q * 4 + 3, none⟩ = some (.slice y e2.chunks.length yc)) (first | exact KS.out _ B1.out.drew | exact KS.out _ (below_next B1.out (below_alloc _ _)).drew | exact KS.out _ (below_next B1.out (below_alloc _ _)) | go_keep)
    ((go_at_call 60; refine (HAT.out _ (by first | exact B1.out.drew | exact (below_next B1.out (below_alloc _ _)).drew)).mono ?_; rintro r w9 ⟨rfl, hw9⟩; have hw8 := hw9.symm; clear hw9; subst hw8))
  all_goals
    have BD := hide (below_next B1.out (below_alloc w1 (.cells #[.string (str e2.path), .int .i64 e2.kind, .int .i64 e2.size, .slice y e2.chunks.length yc] 53))).drew
    have BE := hide ((below_alloc w1 (.cells #[.string (str e2.path), .int .i64 e2.kind, .int .i64 e2.size, .slice y e2.chunks.length yc] 53)).drew)
    have XE : Hid (Eight (w1.alloc (.cells #[.string (str e2.path), .int .i64 e2.kind, .int .i64 e2.size, .slice y e2.chunks.length yc] 53)).drew w1.heap.size (.string (str e2.path)) (.int .i64 e2.kind) (.int .i64 e2.size) (.slice y e2.chunks.length yc)) := hide (Eight.new w1 _ _ _ _ _)
    have XR : Hid (Eight (w1.alloc (.cells #[.string (str e2.path), .int .i64 e2.kind, .int .i64 e2.size, .slice y e2.chunks.length yc] 53)).drew w.heap.size (.string ⟨#[]⟩) (.int .i64 0) (.int .i64 0) (.slice none 0 0)) := hide (Eight.below (w := w1) ⟨X1.out, FZ.out⟩ BE.out)
    have hRE : w.heap.size < w1.heap.size := X1.out.lt
    have hEW : w1.heap.size < (w1.alloc (.cells #[.string (str e2.path), .int .i64 e2.kind, .int .i64 e2.size, .slice y e2.chunks.length yc] 53)).drew.heap.size := XE.out.1.lt
    clear X1 FZ s0 s1 s2 s3 s4 KS HAT BE B1 B0
    generalize (w1.alloc (.cells #[.string (str e2.path), .int .i64 e2.kind, .int .i64 e2.size, .slice y e2.chunks.length yc] 53)).drew = WD at *
    generalize w1.heap.size = be at *
    have hne : w.heap.size ≠ be := by omega
    have hne2 : be ≠ w.heap.size := by omega
    have hm0 : 0 + e2.chunks.length ≤ maxLen := by unfold maxLen; omega
    have hm0' : (0 + e2.chunks.length) * 8 ≤ 140737488355328 := by omega
    obtain ⟨⟨e0, e1, e3, e4⟩, ez⟩ := XE.out
    have ez1 := ez 1
    have ez3 := ez 3
    clear ez
    by_cases h4k : e2.kind = 4
    · have h4' : (e2.kind == 4) = true := by simpa using h4k
      have HAS := hide (show asT e2 = ⟨e2.path, 2, e2.size, e2.chunks⟩ from by unfold asT; rw [if_pos h4k]; rfl)
      clear h4k
      have XE5 := hide (XE.out.set1 (.int .i64 2))
      have XR5 := hide (XR.out.kept (Kept.setCell (S := fun b => b = be) (p := ⟨be, 1, none⟩) (Kept.refl _ WD) (fun _ => rfl) (.int .i64 2)) hne)
      have BW5 := hide (BD.out.setCell (p := ⟨be, 1, none⟩) (by show w.heap.size ≤ be; omega) (.int .i64 2))
      have hz5 : (WD.setCell ⟨be, 1, none⟩ (.int .i64 2)).heap.size = WD.heap.size := by simp [World.setCell]
      have OWN0 : Hid (((WD.setCell ⟨be, 1, none⟩ (.int .i64 2)).alloc (.cells #[] 2)).ownsRow WD.heap.size 2 1 (.slice (some ⟨WD.heap.size, 0, none⟩) 0 0) 0 (([] : List Int).map (Value.int .i64))) := hide (by have h := World.ownsRow_made (base := (WD.setCell ⟨be, 1, none⟩ (.int .i64 2)).heap.size) (e := 2) (size := 1) (WD.setCell ⟨be, 1, none⟩ (.int .i64 2)) #[] 0 (Nat.le_refl _) (Nat.zero_le _) rfl; rw [hz5] at h; exact h)
      have RD0 : Hid (Reads .i64 ((WD.setCell ⟨be, 1, none⟩ (.int .i64 2)).alloc (.cells #[] 2)) y e2.chunks) := hide (HRC.out.below (below_next BW5.out (below_alloc _ _)))
      have XEA := hide (XE5.out.below (below_alloc (WD.setCell ⟨be, 1, none⟩ (.int .i64 2)) (.cells #[] 2)))
      have XRA := hide (XR5.out.below (below_alloc (WD.setCell ⟨be, 1, none⟩ (.int .i64 2)) (.cells #[] 2)))
      have hlE : be < WD.heap.size := XE.out.1.lt
      have hlR : w.heap.size < WD.heap.size := XR.out.1.lt
      have KK : Hid (∀ W6 : World, Kept (fun b => b = WD.heap.size) ((WD.setCell ⟨be, 1, none⟩ (.int .i64 2)).alloc (.cells #[] 2)) W6 → Eight W6 be (.string (str e2.path)) (.int .i64 2) (.int .i64 e2.size) (.slice y e2.chunks.length yc) ∧ Eight W6 w.heap.size (.string ⟨#[]⟩) (.int .i64 0) (.int .i64 0) (.slice none 0 0)) := hide (fun W6 hk => ⟨XEA.out.kept hk (by omega), XRA.out.kept hk (by omega)⟩)
      clear XEA XRA
      go_wp2_with (at_builtin; refine wpList_append_take rfl (.tmp 30) (.tmp 32) 51 rfl WD.heap.size 2 i0 .i64 8 Tryz.underlying51 hi0 hz0 hz1 hz2 WD.heap.size 0 0 [] rfl OWN0.out y e2.chunks.length yc e2.chunks rfl rfl RD0.out e2.chunks.length (by simp) hm0 hm0' (by simp) ?_; intro av cv w6 hown6 hk6; obtain ⟨⟨⟨p0, p1, p2, p3⟩, pz⟩, ⟨⟨r0, r1, r2, r3⟩, rz⟩⟩ := KK.out _ hk6; have pz3 := pz 3; have rz0 := rz 0; have rz1 := rz 1; have rz2 := rz 2; have rz3 := rz 3; have O6 := hide hown6; have K6 := hide hk6; clear pz rz hown6 hk6)
      have BB6 := hide ((below_next BW5.out (below_alloc (WD.setCell ⟨be, 1, none⟩ (.int .i64 2)) (.cells #[] 2))).trans (K6.out.below (B := w.heap.size) (by have := (below_next BW5.out (below_alloc (WD.setCell ⟨be, 1, none⟩ (.int .i64 2)) (.cells #[] 2))).size; omega) (fun k hk hS => by omega)))
      rw [HAS.out]
      refine bodyPost_ret (v := .tuple #[.agg #[.string (str e2.path), .int .i64 2, .int .i64 e2.size, .slice av e2.chunks.length cv], .bool true]) (by simp [results, Tryz.results58, go_sem, r0, r1, r2, r3]) rfl ⟨av, cv, rfl, ?_, ?_⟩
      · refine ownsRow_mono (base := WD.heap.size) ?_ (by omega)
        refine ownsRow_kept (S := fun b => b = be ∨ b = w.heap.size) (by simpa using O6.out) ?_ (fun b hb hS => by have := (O6.out.lt b hb).1; omega)
        exact Kept.setCell (S := fun b => b = be ∨ b = w.heap.size) (p := ⟨w.heap.size, 3, none⟩) (Kept.setCell (S := fun b => b = be ∨ b = w.heap.size) (p := ⟨w.heap.size, 2, none⟩) (Kept.setCell (S := fun b => b = be ∨ b = w.heap.size) (p := ⟨w.heap.size, 1, none⟩) (Kept.setCell (S := fun b => b = be ∨ b = w.heap.size) (p := ⟨w.heap.size, 0, none⟩) (Kept.setCell (S := fun b => b = be ∨ b = w.heap.size) (p := ⟨be, 3, none⟩) (Kept.refl _ _) (fun _ => .inl rfl) _) (fun _ => .inr rfl) _) (fun _ => .inr rfl) _) (fun _ => .inr rfl) _) (fun _ => .inr rfl) _
      · exact ((((BB6.out.setCell (p := ⟨be, 3, none⟩) (by show w.heap.size ≤ be; omega) _).setCell (p := ⟨w.heap.size, 0, none⟩) (Nat.le_refl _) _).setCell (p := ⟨w.heap.size, 1, none⟩) (Nat.le_refl _) _).setCell (p := ⟨w.heap.size, 2, none⟩) (Nat.le_refl _) _).setCell (p := ⟨w.heap.size, 3, none⟩) (Nat.le_refl _) _
    · have h4' : (e2.kind == 4) = false := by simpa using h4k
      have HAS := hide (show asT e2 = ⟨e2.path, e2.kind, e2.size, e2.chunks⟩ from by unfold asT; rw [if_neg h4k])
      clear h4k
      have XE5 := XE
      have XR5 := XR
      have BW5 := BD
      have OWN0 : Hid ((WD.alloc (.cells #[] 2)).ownsRow WD.heap.size 2 1 (.slice (some ⟨WD.heap.size, 0, none⟩) 0 0) 0 (([] : List Int).map (Value.int .i64))) := hide (World.ownsRow_made (base := WD.heap.size) (e := 2) (size := 1) WD #[] 0 (Nat.le_refl _) (Nat.zero_le _) rfl)
      have RD0 : Hid (Reads .i64 (WD.alloc (.cells #[] 2)) y e2.chunks) := hide (HRC.out.below (below_next BW5.out (below_alloc _ _)))
      have XEA := hide (XE5.out.below (below_alloc WD (.cells #[] 2)))
      have XRA := hide (XR5.out.below (below_alloc WD (.cells #[] 2)))
      have hlE := XE5.out.1.lt
      have hlR := XR5.out.1.lt
      have KK : Hid (∀ W6 : World, Kept (fun b => b = WD.heap.size) (WD.alloc (.cells #[] 2)) W6 → Eight W6 be (.string (str e2.path)) (.int .i64 e2.kind) (.int .i64 e2.size) (.slice y e2.chunks.length yc) ∧ Eight W6 w.heap.size (.string ⟨#[]⟩) (.int .i64 0) (.int .i64 0) (.slice none 0 0)) := hide (fun W6 hk => ⟨XEA.out.kept hk (by omega), XRA.out.kept hk (by omega)⟩)
      clear XEA XRA
      go_wp2_with (at_builtin; refine wpList_append_take rfl (.tmp 30) (.tmp 32) 51 rfl WD.heap.size 2 i0 .i64 8 Tryz.underlying51 hi0 hz0 hz1 hz2 WD.heap.size 0 0 [] rfl OWN0.out y e2.chunks.length yc e2.chunks rfl rfl RD0.out e2.chunks.length (by simp) hm0 hm0' (by simp) ?_; intro av cv w6 hown6 hk6; obtain ⟨⟨⟨p0, p1, p2, p3⟩, pz⟩, ⟨⟨r0, r1, r2, r3⟩, rz⟩⟩ := KK.out _ hk6; have pz3 := pz 3; have rz0 := rz 0; have rz1 := rz 1; have rz2 := rz 2; have rz3 := rz 3; have O6 := hide hown6; have K6 := hide hk6; clear pz rz hown6 hk6)
      have BB6 := hide ((below_next BW5.out (below_alloc WD (.cells #[] 2))).trans (K6.out.below (B := w.heap.size) (by have := (below_next BW5.out (below_alloc WD (.cells #[] 2))).size; omega) (fun k hk hS => by omega)))
      rw [HAS.out]
      refine bodyPost_ret (v := .tuple #[.agg #[.string (str e2.path), .int .i64 e2.kind, .int .i64 e2.size, .slice av e2.chunks.length cv], .bool true]) (by simp [results, Tryz.results58, go_sem, r0, r1, r2, r3]) rfl ⟨av, cv, rfl, ?_, ?_⟩
      · refine ownsRow_mono (base := WD.heap.size) ?_ (by omega)
        refine ownsRow_kept (S := fun b => b = be ∨ b = w.heap.size) (by simpa using O6.out) ?_ (fun b hb hS => by have := (O6.out.lt b hb).1; omega)
        exact Kept.setCell (S := fun b => b = be ∨ b = w.heap.size) (p := ⟨w.heap.size, 3, none⟩) (Kept.setCell (S := fun b => b = be ∨ b = w.heap.size) (p := ⟨w.heap.size, 2, none⟩) (Kept.setCell (S := fun b => b = be ∨ b = w.heap.size) (p := ⟨w.heap.size, 1, none⟩) (Kept.setCell (S := fun b => b = be ∨ b = w.heap.size) (p := ⟨w.heap.size, 0, none⟩) (Kept.setCell (S := fun b => b = be ∨ b = w.heap.size) (p := ⟨be, 3, none⟩) (Kept.refl _ _) (fun _ => .inl rfl) _) (fun _ => .inr rfl) _) (fun _ => .inr rfl) _) (fun _ => .inr rfl) _) (fun _ => .inr rfl) _
      · exact ((((BB6.out.setCell (p := ⟨be, 3, none⟩) (by show w.heap.size ≤ be; omega) _).setCell (p := ⟨w.heap.size, 0, none⟩) (Nat.le_refl _) _).setCell (p := ⟨w.heap.size, 1, none⟩) (Nat.le_refl _) _).setCell (p := ⟨w.heap.size, 2, none⟩) (Nat.le_refl _) _).setCell (p := ⟨w.heap.size, 3, none⟩) (Nat.le_refl _) _
end Go.Proofs.YtebgfaohhhgdpaaGreat

namespace Go.Proofs.YtebgfaohhhgdpaaGreat
open Go.RowKit Go.Maps
set_option linter.unusedVariables false
attribute [local go_sem ↓] Go.wp_at_zero Go.wp_at_succ

def fillStep (o : List En) (u : Bs) : List En := if findE o u = none then putE o (dirQ u) else o
def fillS (U : List En) (e : En) : List En := putE ((above e.path).foldl fillStep U) e
theorem small_putE {es : List En} {e : En} (h : SmallE es) (hp : e.path.length ≤ 1048576) (hc : e.chunks.length ≤ 1048576) : SmallE (putE es e) := fun x hx => by
  rcases mem_putE.1 hx with rfl | ⟨hx, -⟩
  · exact ⟨hp, hc⟩
  · exact h x hx
theorem step_len (o : List En) (u : Bs) : (fillStep o u).length ≤ o.length + 1 := by
  unfold fillStep
  split
  · rw [putE_len]; have := baseE_len o (dirQ u); omega
  · omega
theorem step_small {o : List En} {u : Bs} (h : SmallE o) (hu : u.length ≤ 1048576) : SmallE (fillStep o u) := by
  unfold fillStep
  split
  · exact small_putE h hu (by simp [dirQ])
  · exact h
theorem fold_len (o : List En) : ∀ us : List Bs, (us.foldl fillStep o).length ≤ o.length + us.length := by
  intro us
  induction us generalizing o with
  | nil => simp
  | cons u us ih => have h1 := ih (fillStep o u); have h2 := step_len o u; simp only [List.foldl_cons, List.length_cons]; omega
theorem fold_at {o : List En} {us : List Bs} {k : Nat} {u : Bs} (h : us[k]? = some u) : (us.take (k + 1)).foldl fillStep o = fillStep ((us.take k).foldl fillStep o) u := by rw [take_at h, List.foldl_append]; rfl
set_option maxRecDepth 100000 in
set_option maxHeartbeats 6400000 in
theorem l9Fill_any (o : Option Addr) (oc on : Nat) (O : List En) (a : Option Addr) (c n : Nat) (U : List En) (e : En) (x : Option Addr) (m cc : Nat) (w : World) (hO : RdE w o O) (hon : on = O.length) (hOl : O.length ≤ 1000) (hOs : SmallE O) (h : RdE w a U) (hn : n = U.length) (hl : U.length ≤ 1000) (hs : SmallE U) (hp : faultP e.path = 0) (hm : m = e.chunks.length) (hx : Reads .i64 w x e.chunks) (hpl : e.path.length ≤ 1048576) (hcl : e.chunks.length ≤ 1048576)
    (rep : Int) (V : List En) (hV : (12 < (fillS U e).length → rep = 2 ∧ V = O) ∧ (¬ 12 < (fillS U e).length → rep = 0 ∧ V = fillS U e)) :
    Calls Tryz.prog 61 #[.slice o on oc, .slice a n c, .agg #[.string (str e.path), .int .i64 e.kind, .int .i64 e.size, .slice x m cc]] w (ResG 0 rep V w) := by
  subst hn
  subst hm
  subst hon
  have hsz := str_size e.path
  have h1 : 1 ≤ (str e.path).size := faultP_pos (by rw [str_data]; exact hp)
  have HAB := hide (show aboveN (cutB (str e.path).data.toList.tail) = above e.path from by rw [str_data, above_good hp])
  have hul := above_len e.path
  have HUS := hide (fun u (hu : u ∈ above e.path) => above_small hp u hu)
  have B0 := hide (below_next (below_alloc w (.cells #[.string (str e.path), .int .i64 e.kind, .int .i64 e.size, .slice x e.chunks.length cc] 53)) (below_alloc (w.alloc (.cells #[.string (str e.path), .int .i64 e.kind, .int .i64 e.size, .slice x e.chunks.length cc] 53)) (.cells #[.int .i64 0, .int .i64 0, .slice none 0 0] 32)))
  have FE0 := hide ((Four.new w (.string (str e.path)) (.int .i64 e.kind) (.int .i64 e.size) (.slice x e.chunks.length cc) 53).below (below_alloc (w.alloc (.cells #[.string (str e.path), .int .i64 e.kind, .int .i64 e.size, .slice x e.chunks.length cc] 53)) (.cells #[.int .i64 0, .int .i64 0, .slice none 0 0] 32)))
  have X0 := hide (Box3.new (w.alloc (.cells #[.string (str e.path), .int .i64 e.kind, .int .i64 e.size, .slice x e.chunks.length cc] 53)) (.int .i64 0) (.int .i64 0) (.slice none 0 0) 32)
  have hsA : (w.alloc (.cells #[.string (str e.path), .int .i64 e.kind, .int .i64 e.size, .slice x e.chunks.length cc] 53)).heap.size = w.heap.size + 1 := by simp
  rw [hsA] at X0
  have HC := hide (l4Copy_any a c U.length U _ (h.below B0.out) rfl (by omega) hs)
  have HRO := hide hO
  have HOS := hide hOs
  have HX := hide hx
  have HS := hide hs
  have HFS := hide (show fillS U e = putE ((above e.path).foldl fillStep U) e from rfl)
  have HV := hide hV
  clear hO hOs h hs hx hsA hV hp
  generalize above e.path = ups at *
  generalize fillS U e = FS at *
  go_enter Tryz.func61, Tryz.ntmps61
  go_wp2_with fail
  generalize hW0 : (w.alloc (.cells #[.string (str e.path), .int .i64 e.kind, .int .i64 e.size, .slice x e.chunks.length cc] 53)).alloc (.cells #[.int .i64 0, .int .i64 0, .slice none 0 0] 32) = W0 at *
  have hs0 : W0.heap.size = w.heap.size + 2 := by rw [← hW0]; simp
  clear hW0
  have hlt0 := X0.out.lt
  refine HC.out.mono ?_
  rintro r w1 ⟨g1, cv1, rfl, -, hG1, hb1⟩
  have G1 := hide (GW.of hG1)
  have hs1 := hb1.size
  have B1 := hide (below_next B0.out hb1)
  have FE1 := hide (FE0.out.below hb1)
  have X1 := hide (X0.out.below hb1)
  clear hG1 hb1 HC FE0 X0
  have f0 := FE1.out.1
  go_wp2_with fail
  clear f0
  refine (l3Above_any (str e.path) _ h1 (by omega)).mono ?_
  rintro r w2 ⟨v, rfl, ho2, hb2⟩
  rw [HAB.out] at ho2
  obtain ⟨uv, uc, rfl⟩ := ownsRow_shape ho2
  have RU := hide (OwnS.reads ho2)
  have G2 := hide ((G1.out.below hb2).mono (B' := w.heap.size + 2) (by omega))
  have hs2 := hb2.size
  have B2 := hide (below_next B1.out hb2)
  have FE2 := hide (FE1.out.below hb2)
  have X2 := hide (X1.out.below hb2)
  clear ho2 hb2 G1 FE1 X1 B1 HAB
  go_wp2_with fail
  go_loopw [7, 9] (fun v i wr => ∃ (k : Nat) (av : Option Addr) (cv : Nat), k ≤ ups.length ∧ i = .int .i64 k ∧ v = .slice av ((ups.take k).foldl fillStep U).length cv ∧ Hid (GW (w.heap.size + 2) wr (.slice av ((ups.take k).foldl fillStep U).length cv) ((ups.take k).foldl fillStep U)) ∧ Hid (SmallE ((ups.take k).foldl fillStep U)) ∧ Hid (Below w2.heap.size w2 wr)) (fun _ i _ => ups.length - (intOf i).toNat)
  case atStart => exact ⟨0, some ⟨g1, 0, none⟩, cv1, Nat.zero_le _, rfl, rfl, G2, HS, hide (Below.refl _ _)⟩
  case round =>
    obtain ⟨k, av, cv, hk, rfl, rfl, HGk, HSk, HW⟩ := hrel
    have hkl := fold_len U (ups.take k)
    have htk : (ups.take k).length ≤ 2 := by rw [List.length_take]; omega
    have hws := HW.out.size
    by_cases hlt : k < ups.length
    · obtain ⟨b, off, u, rfl, hb, hu, c0⟩ := (RU.out.below HW.out).at hlt
      have HFA := hide (fold_at (o := U) hu)
      have hus := HUS.out u (List.mem_of_getElem? hu)
      have hk0 : (0 : Int) ≤ (k : Int) := by omega
      have hk1 : (k : Int) < (ups.length : Int) := by omega
      clear hu
      obtain ⟨LF, hLF⟩ : ∃ LF, LF = (ups.take k).foldl fillStep U := ⟨_, rfl⟩
      rw [← hLF] at HFA HGk HSk hkl ⊢
      clear hLF
      have HAT := hide (l4At_any av cv LF.length LF u wr HGk.out.rd rfl (by omega))
      cases ha : atE LF u with
      | none =>
        have HST := hide (show fillStep LF u = putE LF (dirQ u) from by rw [fillStep, if_pos (find_at_none ha)])
        have HPU := hide (l4Put_any av cv LF.length LF (dirQ u) none 0 0 wr HGk.out.rd rfl (by omega) HSk.out rfl (fun hz => absurd rfl hz) (by show u.length ≤ 1048576; omega) (by simp [dirQ]))
        have HSN := hide (step_small HSk.out (show u.length ≤ 1048576 by omega))
        rw [ha, show placeI none = -1 from rfl] at HAT
        clear ha
        go_wp2_with fail
        refine HAT.out.mono ?_
        rintro r w3 ⟨rfl, hw3⟩
        have hw4 := hw3.symm
        clear hw3
        subst hw4
        go_wp2_with fail
        refine HPU.out.mono ?_
        rintro r w5 ⟨g5, cv5, rfl, hG5, hb5⟩
        have G5 := hide ((GW.of hG5).mono (B' := w.heap.size + 2) (by omega))
        have B5 := hide (below_next HW.out hb5)
        clear hG5 hb5 HAT HPU
        go_wp2_with fail
        go_roundw
        case rel =>
          refine ⟨k + 1, some ⟨g5, 0, none⟩, cv5, by omega, by go_num, ?_, ?_, ?_, B5⟩
          · rw [HFA.out, HST.out]
          · rw [HFA.out, HST.out]; exact G5
          · rw [HFA.out]; exact HSN
        case measure => simp [intOf]; omega
      | some q =>
        obtain ⟨e2, -, hf2⟩ := find_at_some ha
        have HST := hide (show fillStep LF u = LF from by rw [fillStep, if_neg (by rw [hf2]; simp)])
        rw [ha, show placeI (some q) = (q : Int) from rfl] at HAT
        have hq0 : ¬ (q : Int) < 0 := by omega
        clear ha hf2
        go_wp2_with fail
        refine HAT.out.mono ?_
        rintro r w3 ⟨rfl, hw3⟩
        have hw4 := hw3.symm
        clear hw3
        subst hw4
        go_wp2_with fail
        go_roundw
        case rel =>
          refine ⟨k + 1, av, cv, by omega, by go_num, ?_, ?_, ?_, HW⟩
          · rw [HFA.out, HST.out]
          · rw [HFA.out, HST.out]; exact HGk
          · rw [HFA.out, HST.out]; exact HSk
        case measure => simp [intOf]; omega
    · have hE : ups.take k = ups := List.take_of_length_le (by omega)
      rw [hE] at HGk HSk hkl ⊢
      clear hE
      obtain ⟨LF, hLF⟩ : ∃ LF, LF = ups.foldl fillStep U := ⟨_, rfl⟩
      rw [← hLF] at HGk HSk hkl HFS ⊢
      clear hLF
      have BWr := hide (below_next B2.out HW.out)
      have hbe := B2.out.size
      have HPU := hide (l4Put_any av cv LF.length LF e x e.chunks.length cc wr HGk.out.rd rfl (by omega) HSk.out rfl (HX.out.below BWr.out) hpl hcl)
      rw [← HFS.out] at HPU
      obtain ⟨f0, f1, f2, f3⟩ := FE2.out.below HW.out
      go_wp2_with fail
      clear f0 f1 f2 f3
      refine HPU.out.mono ?_
      rintro r w5 ⟨g5, cv5, rfl, hG5, hb5⟩
      have G5 := hide ((GW.of hG5).mono (B' := w.heap.size + 2) (by omega))
      have B5 := hide (below_next BWr.out hb5)
      have X5 := hide (X2.out.below (below_next HW.out hb5))
      have hs5 := hb5.size
      clear hG5 hb5 HPU
      by_cases h12 : 12 < FS.length
      · obtain ⟨e1, e2⟩ := HV.out.1 h12
        have HE1 := hide e1
        have HE2 := hide e2
        have h12' : (12 : Int) < (FS.length : Int) := by omega
        have HRP := hide (l9Reply_any o oc O.length O 2 w5 (HRO.out.below B5.out) rfl (by omega) HOS.out)
        clear e1 e2 h12
        go_wp2_with fail
        refine HRP.out.mono ?_
        rintro r w6 ⟨av6, cv6, rfl, hG6, hb6⟩
        have G6 := hide hG6
        have B6 := hide (below_next B5.out hb6)
        have hl5 := X5.out.lt
        obtain ⟨⟨t0, t1, t2⟩, t3, t4, t5⟩ := X5.out.below hb6
        clear hG6 hb6
        go_wp2_with fail
        exact bodyPost_ret (v := .agg #[.int .i64 0, .int .i64 2, .slice av6 O.length cv6]) (by simp [results, Tryz.results61, go_sem, t0, t1, t2]) rfl (by rw [HE1.out, HE2.out]; exact ResG.of hl5 (by omega) rfl G6.out B6.out)
      · obtain ⟨e1, e2⟩ := HV.out.2 h12
        have HE1 := hide e1
        have HE2 := hide e2
        have h12' : ¬ (12 : Int) < (FS.length : Int) := by omega
        have hl5 := X5.out.lt
        obtain ⟨⟨t0, t1, t2⟩, t3, t4, t5⟩ := X5.out
        clear e1 e2 h12
        go_wp2_with fail
        exact bodyPost_ret (v := .agg #[.int .i64 0, .int .i64 0, .slice (some ⟨g5, 0, none⟩) FS.length cv5]) (by simp [results, Tryz.results61, go_sem, t0, t1, t2]) rfl (by rw [HE1.out, HE2.out]; exact ResG.of (B := w.heap.size + 2) (by omega) (by omega) rfl G5.out B5.out)
end Go.Proofs.YtebgfaohhhgdpaaGreat

namespace Go.Proofs.YtebgfaohhhgdpaaGreat
open Go.RowKit Go.Maps
set_option linter.unusedVariables false
attribute [local go_sem ↓] Go.wp_at_zero Go.wp_at_succ

theorem fit_file {p : Bs} {ds : List Int} (hp : faultP p = 0) (hl : ds.length ≤ 24) : entFault (fileE p ds) = 0 := by
  have h1 : formE (fileE p ds) = true := decide_eq_true ⟨by simp [fileE], .inl rfl⟩
  have h2 : sizeE (fileE p ds) = true := decide_eq_true (by simp [fileE]; omega)
  have h3 : manyE (fileE p ds) = true := decide_eq_true (by show ((digs ds (cut ds).length).length : Int) = ((ds.length : Int) + 7) / 8; rw [digs_len, cut_length]; omega)
  rw [entFault_digs hp h1 h2 h3, if_pos]
  rw [List.all_eq_true]
  intro z hz
  simp only [fileE, digs, List.mem_map] at hz
  obtain ⟨i, _, rfl⟩ := hz
  exact decide_eq_true (digest_range _)
end Go.Proofs.YtebgfaohhhgdpaaGreat

namespace Go.Proofs.YtebgfaohhhgdpaaGreat
set_option linter.unusedVariables false

theorem askL_of {ls : List (List En)} {p : Bs} (h : layersP ls = 0) (hp : faultP p = 0) : askL ls p = 0 := by
  unfold askL
  rw [if_pos h]; exact hp
theorem mal_zero {ls : List (List En)} (h : malC ls = 0) : layersP ls = 0 ∧ malL ls = allE ls ∧ (allE ls).length ≤ 40 := by
  by_cases hz : layersP ls = 0
  · refine ⟨hz, by rw [malL, if_pos h], ?_⟩
    unfold malC at h
    rw [if_pos hz] at h
    cases hm : malOK ls
    · rw [hm] at h; cases h
    · have := (List.all_eq_true.1 hm) ls.length (List.mem_range.2 (by omega))
      rw [List.take_length] at this
      exact of_decide_eq_true this
  · rw [(mal_bad hz).1] at h; exact absurd h hz
end Go.Proofs.YtebgfaohhhgdpaaGreat

