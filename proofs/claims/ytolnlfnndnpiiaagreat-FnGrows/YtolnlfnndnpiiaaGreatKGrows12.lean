/-
  Texts put together: SnpB SnpD SnpE SnpF SnqB SnpG.
-/
import Derived.Test.YtolnlfnndnpiiaaGreatKGrows11
import Derived.Shelf.Abstract
import Derived.Test.YtolnlfnndnpiiaaGreatKGrows3
namespace Go.Proofs.YtolnlfnndnpiiaaGreat
open Go.RowKit Go.Maps
set_option linter.unusedVariables false
attribute [local go_sem ↓] Go.wp_at_zero Go.wp_at_succ

theorem findN_step {es : List Sn} {f : Sn → Bool} {k : Nat} {e : Sn} (he : es[k]? = some e) (h : es.find? f = (es.drop k).find? f) (hf : f e = false) : es.find? f = (es.drop (k + 1)).find? f := by
  rw [h, drop_at he, List.find?_cons, hf]
theorem findN_hit {es : List Sn} {f : Sn → Bool} {k : Nat} {e : Sn} (he : es[k]? = some e) (h : es.find? f = (es.drop k).find? f) (hf : f e = true) : es.find? f = some e := by
  rw [h, drop_at he, List.find?_cons, hf]
theorem findN_stop {es : List Sn} {f : Sn → Bool} {k : Nat} (hk : es.length ≤ k) (h : es.find? f = (es.drop k).find? f) : es.find? f = none := by
  rw [h, List.drop_eq_nil_of_le hk]; rfl
theorem filterN_in {es : List Sn} {f : Sn → Bool} {k : Nat} {e : Sn} (he : es[k]? = some e) (h : f e = true) : (es.take (k + 1)).filter f = (es.take k).filter f ++ [e] := by
  rw [take_snoc_at he, List.filter_append]; simp [h]
theorem filterN_out {es : List Sn} {f : Sn → Bool} {k : Nat} {e : Sn} (he : es[k]? = some e) (h : f e = false) : (es.take (k + 1)).filter f = (es.take k).filter f := by
  rw [take_snoc_at he, List.filter_append]; simp [h]
def FirstN (o : Option Sn) (w : World) (r : Ending) : Prop :=
  (∃ e x cc, o = some e ∧ r = .returned (.tuple #[.agg #[.string (str e.name), .string (str e.parent), .int .i64 e.kind, .bool e.lease, .slice x e.layer.length cc], .bool true]) ∧ RdE w x e.layer) ∨
    (o = none ∧ r = .returned (.tuple #[.agg #[.string ⟨#[]⟩, .string ⟨#[]⟩, .int .i64 0, .bool false, .slice none 0 0], .bool false]))
set_option maxRecDepth 100000 in
set_option maxHeartbeats 3200000 in
theorem firstN_any (a : Option Addr) (c n : Nat) (es : List Sn) (fn : FuncId) (cap : Array Value) (f : Sn → Bool) (w0 w : World) (hb0 : Below w0.heap.size w0 w) (h : RdS w0 a es) (hn : n = es.length) (hl : es.length ≤ 1048576) (hf : AsksN w fn cap f) :
    Calls Tryz.prog 79 #[.slice a n c, .func (.func fn) #[] cap] w fun r w' => FirstN (es.find? f) w0 r ∧ Below w.heap.size w w' := by
  subst hn
  have eg := hf.1
  have HF := hide hf
  have HR := hide h
  have HB0 := hide hb0
  have X0 := hide (Box5.new w (.string ⟨#[]⟩) (.string ⟨#[]⟩) (.int .i64 0) (.bool false) (.slice none 0 0) 37)
  have B0 := hide (below_alloc w (.cells #[.string ⟨#[]⟩, .string ⟨#[]⟩, .int .i64 0, .bool false, .slice none 0 0] 37))
  clear h hf hb0
  go_enter Tryz.func79, Tryz.ntmps79
  go_wp2_with fail
  generalize w.alloc (.cells #[.string ⟨#[]⟩, .string ⟨#[]⟩, .int .i64 0, .bool false, .slice none 0 0] 37) = W0 at *
  go_loopw [11] (fun i wr => ∃ k : Nat, k ≤ es.length ∧ i = .int .i64 k ∧ Hid (es.find? f = (es.drop k).find? f) ∧ Hid (Below W0.heap.size W0 wr)) (fun i _ => es.length - (intOf i).toNat)
  case atStart => exact ⟨0, Nat.zero_le _, rfl, hide (by simp), hide (Below.refl _ _)⟩
  case round =>
    obtain ⟨k, hk, rfl, HFi, HW0⟩ := hrel
    have HW := hide (below_next B0.out HW0.out)
    have hsz := HW.out.size
    by_cases hlt : k < es.length
    · obtain ⟨b, off, e, x, cc, rfl, hb, he, c0, c1, c2, c3, c4, hr⟩ := (HR.out.below (below_next HB0.out HW.out)).at hlt
      obtain ⟨b', off', e', x', cc', hbb, hb', he', d0, d1, d2, d3, d4, hr'⟩ := HR.out.at hlt
      simp only [Option.some.injEq, Addr.mk.injEq, and_true] at hbb
      obtain ⟨rfl, rfl⟩ := hbb
      have : e' = e := Option.some.inj (he'.symm.trans he)
      subst this
      have d1' := ((below_next HB0.out HW.out).cell (p := ⟨b, off + k * 5 + 4, none⟩) hb').trans d4
      rw [c4] at d1'
      simp only [Option.some.injEq, Value.slice.injEq, true_and] at d1'
      obtain ⟨rfl, rfl⟩ := d1'
      have HX := hide he
      have HRc := hide hr'
      clear he hr hr' he' d0 d1 d2 d3 d4
      have BA := hide (below_alloc wr (.cells #[.string (str e'.name), .string (str e'.parent), .int .i64 e'.kind, .bool e'.lease, .slice x e'.layer.length cc] 37))
      have F5 := hide (Five.new wr (.string (str e'.name)) (.string (str e'.parent)) (.int .i64 e'.kind) (.bool e'.lease) (.slice x e'.layer.length cc) 37)
      go_wp2_with fail
      refine (HF.out.2 e' x cc _ (below_next HW.out BA.out)).mono ?_
      rintro r w3 ⟨rfl, hb3⟩
      have BB3 := hide (below_next HW0.out (below_next BA.out hb3))
      obtain ⟨f0, f1, f2, f3, f4⟩ := F5.out.below hb3
      clear hb3 c0 c1 c2 c3 c4
      cases hq : f e'
      · have HN := hide (findN_step HX.out HFi.out hq)
        clear hq
        go_wp2_with fail
        go_roundw
        case rel => exact ⟨k + 1, by omega, by go_num, HN, BB3⟩
        case measure => simp [intOf]; omega
      · have HN := hide (findN_hit HX.out HFi.out hq)
        clear hq
        obtain ⟨⟨t0, t1, t2, t3, t4⟩, tf⟩ := X0.out.below BB3.out
        have tf0 := tf 0
        have tf1 := tf 1
        have tf2 := tf 2
        have tf3 := tf 3
        have tf4 := tf 4
        clear tf
        go_wp2_with fail
        refine bodyPost_ret (v := .tuple #[.agg #[.string (str e'.name), .string (str e'.parent), .int .i64 e'.kind, .bool e'.lease, .slice x e'.layer.length cc], .bool true]) (by simp [results, Tryz.results79, go_sem, t0, t1, t2, t3, t4]) rfl ?_
        exact ⟨.inl ⟨e', x, cc, HN.out, rfl, HRc.out⟩, Below.five (below_next B0.out BB3.out) (Nat.le_refl _) _ _ _ _ _⟩
    · have HN := hide (findN_stop (by omega) HFi.out)
      have BA := hide (below_alloc wr (.cells #[.string ⟨#[]⟩, .string ⟨#[]⟩, .int .i64 0, .bool false, .slice none 0 0] 37))
      obtain ⟨⟨t0, t1, t2, t3, t4⟩, tf⟩ := X0.out.below (below_next HW0.out BA.out)
      have tf0 := tf 0
      have tf1 := tf 1
      have tf2 := tf 2
      have tf3 := tf 3
      have tf4 := tf 4
      clear tf
      go_wp2_with fail
      refine bodyPost_ret (v := .tuple #[.agg #[.string ⟨#[]⟩, .string ⟨#[]⟩, .int .i64 0, .bool false, .slice none 0 0], .bool false]) (by simp [results, Tryz.results79, go_sem, t0, t1, t2, t3, t4]) rfl ?_
      exact ⟨.inr ⟨HN.out, rfl⟩, Below.five (below_next HW.out BA.out) (Nat.le_refl _) _ _ _ _ _⟩
set_option maxRecDepth 100000 in
set_option maxHeartbeats 1600000 in
theorem hasN_any (a : Option Addr) (c n : Nat) (es : List Sn) (fn : FuncId) (cap : Array Value) (f : Sn → Bool) (w0 w : World) (hb0 : Below w0.heap.size w0 w) (h : RdS w0 a es) (hn : n = es.length) (hl : es.length ≤ 1048576) (hf : AsksN w fn cap f) :
    Calls Tryz.prog 93 #[.slice a n c, .func (.func fn) #[] cap] w fun r w' => r = .returned (.bool (es.any f)) ∧ Below w.heap.size w w' := by
  subst hn
  have HC := hide (firstN_any a c es.length es fn cap f w0 w hb0 h rfl hl hf)
  clear h hf
  go_enter Tryz.func93, Tryz.ntmps93
  go_wp2_with fail
  refine HC.out.mono ?_
  rintro r w1 ⟨(⟨e, x, cc, hq, rfl, -⟩ | ⟨hq, rfl⟩), hb1⟩
  · have HA := hide (show es.any f = true from List.any_eq_true.2 ⟨e, List.mem_of_find?_eq_some hq, List.find?_some hq⟩)
    have B1 := hide hb1
    clear hb1 hq
    go_wp2_with fail
    go_ret
    exact ⟨ret_bool HA.out.symm, below_next B1.out (below_alloc _ _)⟩
  · have HA := hide (show es.any f = false from List.any_eq_false.2 (fun x hx => List.find?_eq_none.1 hq x hx))
    have B1 := hide hb1
    clear hb1 hq
    go_wp2_with fail
    go_ret
    exact ⟨ret_bool HA.out.symm, below_next B1.out (below_alloc _ _)⟩
set_option maxRecDepth 100000 in
set_option maxHeartbeats 3200000 in
theorem thoseN_any (a : Option Addr) (c n : Nat) (es : List Sn) (fn : FuncId) (cap : Array Value) (f : Sn → Bool) (w0 w : World) (hb0 : Below w0.heap.size w0 w) (h : RdS w0 a es) (hn : n = es.length) (hl : es.length ≤ 1048576) (hf : AsksN w fn cap f) :
    Calls Tryz.prog 136 #[.slice a n c, .func (.func fn) #[] cap] w fun r w' => ∃ av cv, r = .returned (.slice av (es.filter f).length cv) ∧ LN w.heap.size w0 w' (.slice av (es.filter f).length cv) (es.filter f) ∧ Below w.heap.size w w' := by
  subst hn
  obtain ⟨i1, ki, kz0, kz1, kz2⟩ := info_parts Tryz.infoSn
  have eg := hf.1
  have HF := hide hf
  have HR := hide h
  have HB0 := hide hb0
  clear h hf hb0
  go_enter Tryz.func136, Tryz.ntmps136
  go_wp2_with fail
  go_loopw [5, 10] (fun v i wr => ∃ k : Nat, k ≤ es.length ∧ i = .int .i64 k ∧ Hid (LN w.heap.size w0 wr v ((es.take k).filter f)) ∧ Hid (Below w.heap.size w wr)) (fun _ i _ => es.length - (intOf i).toNat)
  case atStart => exact ⟨0, Nat.zero_le _, rfl, hide (LN.nil _ _ _), hide (Below.refl _ _)⟩
  case round =>
    obtain ⟨k, hk, rfl, HL, HW⟩ := hrel
    have hsz := HW.out.size
    obtain ⟨lv, lc, hv⟩ := HL.out.shape
    subst hv
    have hrl := List.length_filter_le f (es.take k)
    rw [List.length_take] at hrl
    by_cases hlt : k < es.length
    · obtain ⟨b, off, e, x, cc, rfl, hb, he, c0, c1, c2, c3, c4, hr⟩ := (HR.out.below (below_next HB0.out HW.out)).at hlt
      obtain ⟨b', off', e', x', cc', hbb, hb', he', d0, d1, d2, d3, d4, hr'⟩ := HR.out.at hlt
      simp only [Option.some.injEq, Addr.mk.injEq, and_true] at hbb
      obtain ⟨rfl, rfl⟩ := hbb
      have : e' = e := Option.some.inj (he'.symm.trans he)
      subst this
      have d1' := ((below_next HB0.out HW.out).cell (p := ⟨b, off + k * 5 + 4, none⟩) hb').trans d4
      rw [c4] at d1'
      simp only [Option.some.injEq, Value.slice.injEq, true_and] at d1'
      obtain ⟨rfl, rfl⟩ := d1'
      have HX := hide he
      have HRc := hide hr'
      clear he hr hr' he' d0 d1 d2 d3 d4
      have BA := hide (below_alloc wr (.cells #[.string (str e'.name), .string (str e'.parent), .int .i64 e'.kind, .bool e'.lease, .slice x e'.layer.length cc] 37))
      have F5 := hide (Five.new wr (.string (str e'.name)) (.string (str e'.parent)) (.int .i64 e'.kind) (.bool e'.lease) (.slice x e'.layer.length cc) 37)
      go_wp2_with fail
      refine (HF.out.2 e' x cc _ (below_next HW.out BA.out)).mono ?_
      rintro r w3 ⟨rfl, hb3⟩
      have BB5 := hide (below_next BA.out hb3)
      obtain ⟨f0, f1, f2, f3, f4⟩ := F5.out.below hb3
      clear hb3 c0 c1 c2 c3 c4
      cases hq : f e'
      · have HN := hide (filterN_out HX.out hq)
        clear hq
        go_wp2_with fail
        go_roundw
        case rel => exact ⟨k + 1, by omega, by go_num, hide (by rw [HN.out]; exact HL.out.below BB5.out), hide (below_next HW.out BB5.out)⟩
        case measure => simp [intOf]; omega
      · have HN := hide (filterN_in HX.out hq)
        clear hq
        obtain ⟨rs, g1, g2, g3⟩ := HL.out
        have G1 := hide g1
        have G2 := hide (ownsRow_below g2 BB5.out)
        have G3 := hide g3
        clear g1 g2 g3
        obtain ⟨L, hL⟩ : ∃ L, L = ((es.take k).filter f).length := ⟨_, rfl⟩
        rw [← hL] at hrl G2 ⊢
        have HLn := hide hL
        clear hL
        have hm1 : L + 1 ≤ maxLen := by unfold maxLen; omega
        have hm1' : (L + 1) * 72 ≤ 140737488355328 := by omega
        have hsz5 := BB5.out.size
        go_wp2_with (at_builtin; refine wpList_append_put rfl (.tmp 17) (.tmp 19) 106 rfl w.heap.size 37 i1 (.agg #[.string ⟨#[]⟩, .string ⟨#[]⟩, .int .i64 0, .bool false, .slice none 0 0]) 5 72 Tryz.underlying106 ki kz0 kz1 kz2 rfl (by decide) _ _ _ rfl G2.out _ rfl rfl rfl (by intro u hu; simp at hu; rcases hu with rfl | rfl | rfl | rfl | rfl <;> rfl) hm1 hm1' (by omega) ?_; intro av6 cv6 w6 hown6 hk6; have O6 := hide hown6; have K6 := hide hk6; clear hown6 hk6)
        go_roundw
        case rel =>
          refine ⟨k + 1, by omega, by go_num, hide ?_, hide ?_⟩
          · rw [HN.out]
            exact LN.push (s := e') (a := x) (c := cc) G1.out HLn.out G3.out HRc.out O6.out
          · exact (below_next HW.out BB5.out).trans (K6.out.below (by omega) (fun q hq hS => by have := (G2.out.lt q hS).1; omega))
        case measure => simp [intOf]; omega
    · have HE := hide (show es.take k = es from List.take_of_length_le (by omega))
      rw [HE.out] at HL ⊢
      clear HE
      go_wp2_with fail
      go_ret
      exact ⟨lv, lc, rfl, HL.out, HW.out⟩
set_option maxRecDepth 100000 in
set_option maxHeartbeats 800000 in
theorem withoutLitN_any (b : Nat) (fn : FuncId) (cap : Array Value) (f : Sn → Bool) (W0 : World) (hf : AsksN W0 fn cap f) (e : Sn) (a : Option Addr) (c : Nat) (w : World) (hw : Below W0.heap.size W0 w) (h : w.cell? ⟨b, 0, none⟩ = some (.func (.func fn) #[] cap)) :
    Calls Tryz.prog 137 #[.agg #[.string (str e.name), .string (str e.parent), .int .i64 e.kind, .bool e.lease, .slice a e.layer.length c], .pointer (some ⟨b, 0, none⟩)] w fun r w' => r = .returned (.bool (!f e)) ∧ Below w.heap.size w w' := by
  have eg := hf.1
  have B0 := hide (below_alloc w (.cells #[.string (str e.name), .string (str e.parent), .int .i64 e.kind, .bool e.lease, .slice a e.layer.length c] 37))
  have hb := World.block_lt_of_cell? w ⟨b, 0, none⟩ h
  have hc := (B0.out.cell (p := ⟨b, 0, none⟩) hb).trans h
  have HF := hide (hf.2 e a c _ (below_next hw B0.out))
  generalize f e = Z at *
  clear h hf
  go_enter Tryz.func137, Tryz.ntmps137
  go_wp2_with fail
  refine HF.out.mono ?_
  rintro r w1 ⟨rfl, hb1⟩
  have B1 := hide (below_next B0.out hb1)
  clear hb1
  go_wp2_with fail
  go_ret
  exact ⟨rfl, B1.out⟩
set_option maxRecDepth 100000 in
set_option maxHeartbeats 800000 in
theorem withoutN_any (a : Option Addr) (c n : Nat) (es : List Sn) (fn : FuncId) (cap : Array Value) (f : Sn → Bool) (w0 w : World) (hb0 : Below w0.heap.size w0 w) (h : RdS w0 a es) (hn : n = es.length) (hl : es.length ≤ 1048576) (hf : AsksN w fn cap f) :
    Calls Tryz.prog 96 #[.slice a n c, .func (.func fn) #[] cap] w fun r w' => ∃ av cv, r = .returned (.slice av (es.filter fun e => !f e).length cv) ∧ LN w.heap.size w0 w' (.slice av (es.filter fun e => !f e).length cv) (es.filter fun e => !f e) ∧ Below w.heap.size w w' := by
  have hmf : ∀ (fn : Fn) (first cap : Array Value) (w : World), (Instr.makeFunc fn first cap).run Tryz.prog w = .ok (.func fn first cap) w := fun _ _ _ _ => rfl
  subst hn
  have B0 := hide (below_alloc w (.cells #[.func (.func fn) #[] cap] 78))
  have HA : Hid (AsksN (w.alloc (.cells #[.func (.func fn) #[] cap] 78)) 137 #[.pointer (some ⟨w.heap.size, 0, none⟩)] (fun e => !f e)) := hide ⟨enters_of Tryz.func137 (by kernel_rfl) rfl, fun e a c w' hb =>
    withoutLitN_any w.heap.size fn cap f w hf e a c w' (below_next B0.out hb) ((hb.cell (p := ⟨w.heap.size, 0, none⟩) (by simp)).trans (by simp))⟩
  have HC := hide (thoseN_any a c es.length es _ _ (fun e => !f e) w0 _ (below_next hb0 B0.out) h rfl hl HA.out)
  clear h hf HA hb0
  go_enter Tryz.func96, Tryz.ntmps96
  go_wp2_with fail
  generalize w.alloc (.cells #[.func (.func fn) #[] cap] 78) = W0 at *
  refine HC.out.mono ?_
  rintro r w1 ⟨av, cv, rfl, hL, hb1⟩
  have HL := hide hL
  have B1 := hide hb1
  clear hL hb1 HC
  go_wp2_with fail
  go_ret
  exact ⟨av, cv, rfl, HL.out.mono (by have := B0.out.size; omega), below_next B0.out B1.out⟩
end Go.Proofs.YtolnlfnndnpiiaaGreat

namespace Go.Proofs.YtolnlfnndnpiiaaGreat
open Go.RowKit Go.Maps
set_option linter.unusedVariables false
attribute [local go_sem ↓] Go.wp_at_zero Go.wp_at_succ

set_option maxHeartbeats 800000 in
theorem isSnapName_any (nm : Bs) (w : World) (h : nm.length ≤ 1048576) :
    Calls Tryz.prog 36 #[.string (str nm)] w fun r w' => r = .returned (.bool (nmOk nm)) ∧ w' = w := by
  have hsz : (str nm).size ≤ 9223372036854775807 := by rw [str_size]; omega
  have HL := hide (fun u => isLetters_any (str nm) u hsz)
  rw [str_data] at HL
  have HN := hide (show nmOk nm = (plain nm && decide (nm.length ≤ 4)) from rfl)
  generalize nmOk nm = Z at *
  generalize plain nm = Y at *
  have hss : (str nm).size = nm.length := str_size nm
  by_cases h4 : nm.length ≤ 4
  · have hb : ((str nm).size : Int) ≤ 4 := by omega
    have HZ := hide (show Z = Y by rw [HN.out, decide_eq_true h4, Bool.and_true])
    clear h4
    go_enter Tryz.func36, Tryz.ntmps36
    go_wp2_with fail
    refine (HL.out _).mono ?_
    rintro r w1 ⟨rfl, rfl⟩
    go_wp2_with fail
    go_ret
    exact ⟨ret_bool HZ.out.symm, rfl⟩
  · have hb : ¬ ((str nm).size : Int) ≤ 4 := by omega
    have HZ := hide (show Z = false by rw [HN.out, decide_eq_false h4, Bool.and_false])
    clear h4
    go_enter Tryz.func36, Tryz.ntmps36
    go_wp2_with fail
    go_ret
    exact ⟨ret_bool HZ.out.symm, rfl⟩
set_option maxHeartbeats 800000 in
theorem isSnapKind_any (k : Int) (w : World) :
    Calls Tryz.prog 37 #[.int .i64 k] w fun r w' => r = .returned (.bool (k == 1 || k == 2)) ∧ w' = w := by
  by_cases h1 : k = 1
  · subst h1
    go_enter Tryz.func37, Tryz.ntmps37
    go_wp2
    go_ret
    exact ⟨rfl, rfl⟩
  · have hb : (k == 1) = false := by simp [h1]
    rw [hb, Bool.false_or]
    go_enter Tryz.func37, Tryz.ntmps37
    go_wp2
    go_ret
    exact ⟨rfl, rfl⟩
set_option maxHeartbeats 800000 in
theorem bondOf_any (s : Sn) (x : Option Addr) (c : Nat) (w : World) :
    Calls Tryz.prog 81 #[.agg #[.string (str s.name), .string (str s.parent), .int .i64 s.kind, .bool s.lease, .slice x s.layer.length c]] w fun r w' => r = .returned (.agg #[.string (str s.name), .string (str s.parent)]) ∧ Below w.heap.size w w' := by
  go_enter Tryz.func81, Tryz.ntmps81
  go_wp2_with fail
  refine bodyPost_ret (v := .agg #[.string (str s.name), .string (str s.parent)]) (by simp [results, Tryz.results81, go_sem]) rfl ?_
  refine ⟨rfl, ?_⟩
  exact below_next (below_alloc w _) (below_alloc _ _)
set_option maxHeartbeats 1600000 in
theorem isNone_any (s : Sn) (x : Option Addr) (c : Nat) (w : World) :
    Calls Tryz.prog 41 #[.agg #[.string (str s.name), .string (str s.parent), .int .i64 s.kind, .bool s.lease, .slice x s.layer.length c]] w fun r w' => r = .returned (.bool (s.name.isEmpty && s.parent.isEmpty)) ∧ Below w.heap.size w w' := by
  have HC := hide (fun u => bondOf_any s x c u)
  go_enter Tryz.func41, Tryz.ntmps41
  go_wp2_with fail
  refine (HC.out _).mono ?_
  rintro r w1 ⟨rfl, hb1⟩
  have B1 := hide (below_next (below_alloc w (.cells #[.string (str s.name), .string (str s.parent), .int .i64 s.kind, .bool s.lease, .slice x s.layer.length c] 37)) hb1)
  clear hb1
  go_wp2_with fail
  all_goals
    go_ret
    refine ⟨ret_bool ?_, B1.out⟩
    clear B1 HC
    simp_all [str_toList]
def zeroS : Sn := ⟨[], [], 0, false, []⟩
def SnapR (o : Option Sn) (w : World) (r : Ending) : Prop :=
  ∃ e x cc, e = o.getD zeroS ∧ r = .returned (.agg #[.string (str e.name), .string (str e.parent), .int .i64 e.kind, .bool e.lease, .slice x e.layer.length cc]) ∧ RdE w x e.layer
set_option maxRecDepth 100000 in
set_option maxHeartbeats 800000 in
theorem snapOfLit_any (p : Bs) (b : Nat) (s : Sn) (a : Option Addr) (c : Nat) (w : World) (h : w.cell? ⟨b, 0, none⟩ = some (.string (str p))) :
    Calls Tryz.prog 80 #[.agg #[.string (str s.name), .string (str s.parent), .int .i64 s.kind, .bool s.lease, .slice a s.layer.length c], .pointer (some ⟨b, 0, none⟩)] w fun r w' => r = .returned (.bool (s.name == p)) ∧ Below w.heap.size w w' := by
  have hb := World.block_lt_of_cell? w ⟨b, 0, none⟩ h
  have hs := str_beq s.name p
  have HZ := hide (show (s.name == p) = decide (s.name = p) by by_cases h : s.name = p <;> simp [h])
  rw [HZ.out]
  clear HZ
  generalize decide (s.name = p) = Z at *
  have hbw : (w.alloc (.cells #[.string (str s.name), .string (str s.parent), .int .i64 s.kind, .bool s.lease, .slice a s.layer.length c] 37)).cell? ⟨b, 0, none⟩ = some (.string (str p)) := ((below_alloc w _).cell (p := ⟨b, 0, none⟩) hb).trans h
  go_enter Tryz.func80, Tryz.ntmps80
  go_wp2_with fail
  go_ret
  exact ⟨rfl, below_alloc _ _⟩
set_option maxRecDepth 100000 in
set_option maxHeartbeats 1600000 in
theorem snapOf_any (a : Option Addr) (c n : Nat) (l : List Sn) (nm : Bs) (w0 w : World) (hb0 : Below w0.heap.size w0 w) (h : RdS w0 a l) (hn : n = l.length) (hl : l.length ≤ 1048576) :
    Calls Tryz.prog 40 #[.slice a n c, .string (str nm)] w fun r w' => SnapR (atS l nm) w0 r ∧ Below w.heap.size w w' := by
  have hmf : ∀ (fn : Fn) (first cap : Array Value) (w : World), (Instr.makeFunc fn first cap).run Tryz.prog w = .ok (.func fn first cap) w := fun _ _ _ _ => rfl
  subst hn
  have B0 := hide (below_alloc w (.cells #[.string (str nm)] 9))
  have B1 := hide (below_next B0.out (below_alloc _ (.cells #[.string ⟨#[]⟩, .string ⟨#[]⟩, .int .i64 0, .bool false, .slice none 0 0] 37)))
  have HA : Hid (AsksN ((w.alloc (.cells #[.string (str nm)] 9)).alloc (.cells #[.string ⟨#[]⟩, .string ⟨#[]⟩, .int .i64 0, .bool false, .slice none 0 0] 37)) 80 #[.pointer (some ⟨w.heap.size, 0, none⟩)] (fun s => s.name == nm)) := hide ⟨enters_of Tryz.func80 (by kernel_rfl) rfl, fun s a c w' hb =>
    snapOfLit_any nm w.heap.size s a c w' ((hb.cell (p := ⟨w.heap.size, 0, none⟩) (by simp; omega)).trans ((below_alloc _ _).cell (p := ⟨w.heap.size, 0, none⟩) (by simp) |>.trans (by simp)))⟩
  have X0 := hide (Box5.new (w.alloc (.cells #[.string (str nm)] 9)) (.string ⟨#[]⟩) (.string ⟨#[]⟩) (.int .i64 0) (.bool false) (.slice none 0 0) 37)
  have HC := hide (firstN_any a c l.length l _ _ (fun s => s.name == nm) w0 _ (below_next hb0 B1.out) h rfl hl HA.out)
  have HATS := hide (show atS l nm = l.find? (fun s => s.name == nm) from rfl)
  clear h HA hb0 B0
  go_enter Tryz.func40, Tryz.ntmps40
  go_wp2_with fail
  simp only [World.size_alloc] at X0
  generalize (w.alloc (.cells #[.string (str nm)] 9)).alloc (.cells #[.string ⟨#[]⟩, .string ⟨#[]⟩, .int .i64 0, .bool false, .slice none 0 0] 37) = W0 at *
  refine HC.out.mono ?_
  rintro r w1 ⟨hf, hb1⟩
  have HF : ∃ e x cc b, e = (atS l nm).getD zeroS ∧ r = .returned (.tuple #[.agg #[.string (str e.name), .string (str e.parent), .int .i64 e.kind, .bool e.lease, .slice x e.layer.length cc], .bool b]) ∧ RdE w0 x e.layer := by
    rcases hf with ⟨e, x, cc, hq, hr, hx⟩ | ⟨hq, hr⟩
    · exact ⟨e, x, cc, true, by rw [HATS.out, hq]; rfl, hr, hx⟩
    · exact ⟨zeroS, none, 0, false, by rw [HATS.out, hq]; rfl, hr, fun hz => absurd rfl hz⟩
  obtain ⟨e, x, cc, b, he, rfl, hx⟩ := HF
  have HE := hide he
  have HX := hide hx
  have BA := hide (below_next hb1 (below_alloc w1 (.cells #[.string (str e.name), .string (str e.parent), .int .i64 e.kind, .bool e.lease, .slice x e.layer.length cc] 37)))
  obtain ⟨⟨t0, t1, t2, t3, t4⟩, tf⟩ := X0.out.below BA.out
  have tf0 := tf 0
  have tf1 := tf 1
  have tf2 := tf 2
  have tf3 := tf 3
  have tf4 := tf 4
  clear hf he hx tf hb1
  go_wp2_with fail
  refine bodyPost_ret (v := .agg #[.string (str e.name), .string (str e.parent), .int .i64 e.kind, .bool e.lease, .slice x e.layer.length cc]) (by simp [results, Tryz.results40, go_sem, t0, t1, t2, t3, t4]) rfl ?_
  exact ⟨⟨e, x, cc, HE.out, rfl, HX.out⟩, Below.five (below_next B1.out BA.out) (by omega) _ _ _ _ _⟩
end Go.Proofs.YtolnlfnndnpiiaaGreat

namespace Go.Proofs.YtolnlfnndnpiiaaGreat
open Go.RowKit Go.Maps
set_option linter.unusedVariables false
attribute [local go_sem ↓] Go.wp_at_zero Go.wp_at_succ

theorem isNone_no (s : Sn) (x : Option Addr) (c : Nat) (w : World) (h : s.name ≠ []) :
    Calls Tryz.prog 41 #[.agg #[.string (str s.name), .string (str s.parent), .int .i64 s.kind, .bool s.lease, .slice x s.layer.length c]] w fun r w' => r = .returned (.bool false) ∧ Below w.heap.size w w' := by
  have e : (s.name.isEmpty && s.parent.isEmpty) = false := by cases hs : s.name with | nil => exact absurd hs h | cons a b => rfl
  have := isNone_any s x c w
  rwa [e] at this
theorem isNone_yes (x : Option Addr) (c : Nat) (w : World) :
    Calls Tryz.prog 41 #[.agg #[.string (str zeroS.name), .string (str zeroS.parent), .int .i64 zeroS.kind, .bool zeroS.lease, .slice x zeroS.layer.length c]] w fun r w' => r = .returned (.bool true) ∧ Below w.heap.size w w' := isNone_any zeroS x c w
def lenOfV : Value → Nat
  | .slice _ n _ => n
  | _ => 0
theorem line_more {l : List Sn} {k : Nat} {e : Sn} (hk : k ≤ 4) : lineS l (5 - k) (some e) = e :: lineS l (5 - (k + 1)) (atS l e.parent) := by
  have : 5 - k = (5 - (k + 1)) + 1 := by omega
  rw [this]; rfl
set_option maxRecDepth 100000 in
set_option maxHeartbeats 3200000 in
theorem lineOf_any (a : Option Addr) (c n : Nat) (l : List Sn) (s : Sn) (x : Option Addr) (cc : Nat) (w0 w : World) (hb0 : Below w0.heap.size w0 w) (h : RdS w0 a l) (hx : RdE w0 x s.layer) (hn : n = l.length) (hl : l.length ≤ 1048576) (hne : ∀ y ∈ l, y.name ≠ []) (hs : s.name ≠ []) :
    Calls Tryz.prog 43 #[.slice a n c, .agg #[.string (str s.name), .string (str s.parent), .int .i64 s.kind, .bool s.lease, .slice x s.layer.length cc]] w fun r w' => ∃ av cv, r = .returned (.slice av (lineS l 5 (some s)).length cv) ∧ LN w.heap.size w0 w' (.slice av (lineS l 5 (some s)).length cv) (lineS l 5 (some s)) ∧ Below w.heap.size w w' := by
  subst hn
  obtain ⟨i1, ki, kz0, kz1, kz2⟩ := info_parts Tryz.infoSn
  obtain ⟨L, hL⟩ : ∃ L, L = lineS l 5 (some s) := ⟨_, rfl⟩
  rw [← hL]
  have HL := hide hL
  have HR := hide h
  have HB0 := hide hb0
  have HNE := hide hne
  have X0 := hide (Box5.new w (.string (str s.name)) (.string (str s.parent)) (.int .i64 s.kind) (.bool s.lease) (.slice x s.layer.length cc) 37)
  have B0 := hide (below_alloc w (.cells #[.string (str s.name), .string (str s.parent), .int .i64 s.kind, .bool s.lease, .slice x s.layer.length cc] 37))
  have HX := hide hx
  have HS := hide hs
  clear h hb0 hne hL hx hs
  go_enter Tryz.func43, Tryz.ntmps43
  go_wp2_with fail
  have hs1 : w.heap.size < (w.alloc (.cells #[.string (str s.name), .string (str s.parent), .int .i64 s.kind, .bool s.lease, .slice x s.layer.length cc] 37)).heap.size := by simp
  generalize w.alloc (.cells #[.string (str s.name), .string (str s.parent), .int .i64 s.kind, .bool s.lease, .slice x s.layer.length cc] 37) = W0 at *
  go_loopw [5] (fun v wr => ∃ (pre : List Sn) (o : Option Sn) (e : Sn) (x' : Option Addr) (c' : Nat), pre.length ≤ 5 ∧ w.heap.size < wr.heap.size ∧ Hid (e = o.getD zeroS) ∧ Hid (∀ y, o = some y → y.name ≠ []) ∧ Hid (L = pre ++ lineS l (5 - pre.length) o) ∧ Hid (LN (w.heap.size + 1) w0 wr v pre) ∧ Hid (Box5 wr w.heap.size (.string (str e.name)) (.string (str e.parent)) (.int .i64 e.kind) (.bool e.lease) (.slice x' e.layer.length c')) ∧ Hid (RdE w0 x' e.layer) ∧ Hid (Below w.heap.size w wr)) (fun v _ => 6 - lenOfV v)
  case atStart => exact ⟨[], some s, s, x, cc, by simp, hs1, hide rfl, hide (fun y hy => by cases hy; exact HS.out), hide (by rw [HL.out]; rfl), hide (LN.nil _ _ _), X0, HX, B0⟩
  case round =>
    obtain ⟨pre, o, e, x', c', hp5, hsw, HE, HO, HLL, HLN, HBX, HRX, HW⟩ := hrel
    have hsz := HW.out.size
    have hszb := HB0.out.size
    obtain ⟨lv, lc, hv⟩ := HLN.out.shape
    subst hv
    obtain ⟨⟨t0, t1, t2, t3, t4⟩, tf⟩ := HBX.out
    cases o with
    | none =>
      have he : e = zeroS := HE.out
      subst he
      have HT := hide (show L = pre by rw [HLL.out, lineS_none, List.append_nil])
      go_wp2_with fail
      refine (isNone_yes _ _ _).mono ?_
      rintro r w1 ⟨rfl, hb1⟩
      have B1 := hide (below_next HW.out hb1)
      have L1 := hide (HLN.out.below hb1)
      clear hb1 t0 t1 t2 t3 t4 tf
      go_wp2_with fail
      go_ret
      rw [HT.out]
      exact ⟨lv, lc, rfl, L1.out.mono (by omega), B1.out⟩
    | some y =>
      have he : e = y := HE.out
      subst he
      have HNM := hide (HO.out e rfl)
      go_wp2_with fail
      refine (isNone_no e _ _ _ HNM.out).mono ?_
      rintro r w1 ⟨rfl, hb1⟩
      have B1 := hide (below_next HW.out hb1)
      have L1 := hide (HLN.out.below hb1)
      have X1 := hide (HBX.out.below hb1)
      have hs1 := hb1.size
      clear hb1 t0 t1 t2 t3 t4 tf HBX HLN
      by_cases h4 : pre.length ≤ 4
      · have h4' : (pre.length : Int) ≤ 4 := by omega
        have hm1 : pre.length + 1 ≤ maxLen := by unfold maxLen; omega
        have hm1' : (pre.length + 1) * 72 ≤ 140737488355328 := by omega
        have HLN2 := hide (show L = (pre ++ [e]) ++ lineS l (5 - (pre ++ [e]).length) (atS l e.parent) by
          rw [HLL.out, line_more h4, List.append_assoc, List.length_append]; rfl)
        obtain ⟨rs, g1, g2, g3⟩ := L1.out
        have G1 := hide g1
        have G2 := hide g2
        have G3 := hide g3
        clear g1 g2 g3
        obtain ⟨⟨t0, t1, t2, t3, t4⟩, tf⟩ := X1.out
        go_wp2_with (at_builtin; refine wpList_append_put rfl (.tmp 14) (.tmp 16) 24 rfl (w.heap.size + 1) 37 i1 (.agg #[.string ⟨#[]⟩, .string ⟨#[]⟩, .int .i64 0, .bool false, .slice none 0 0]) 5 72 Tryz.underlying24 ki kz0 kz1 kz2 rfl (by decide) _ _ _ rfl G2.out _ rfl rfl rfl (by intro u hu; simp at hu; rcases hu with rfl | rfl | rfl | rfl | rfl <;> rfl) hm1 hm1' (by omega) ?_; intro av6 cv6 w6 hown6 hk6; have O6 := hide hown6; have K6 := hide hk6; clear hown6 hk6; obtain ⟨⟨q0, q1, q2, q3, q4⟩, qf⟩ := (show Box5 w6 w.heap.size (.string (str e.name)) (.string (str e.parent)) (.int .i64 e.kind) (.bool e.lease) (.slice x' e.layer.length c') from ⟨X1.out.1.kept K6.out (fun hS => by have := (G2.out.lt _ hS).1; omega), fun i => (K6.out.frozen (p := ⟨w.heap.size, i, none⟩) X1.out.1.lt (fun hS => by have h9 : w.heap.size + 1 ≤ w.heap.size := (G2.out.lt _ hS).1; omega)).trans (X1.out.2 i)⟩))
        have BW6 : Hid (Below w.heap.size w w6) := hide (B1.out.trans (K6.out.below (B := w.heap.size) (by omega) (fun q hq hS => by have := (G2.out.lt q hS).1; omega)))
        have X6 : Hid (Box5 w6 w.heap.size (.string (str e.name)) (.string (str e.parent)) (.int .i64 e.kind) (.bool e.lease) (.slice x' e.layer.length c')) := hide ⟨⟨q0, q1, q2, q3, q4⟩, qf⟩
        have hs6 := K6.out.size
        refine (snapOf_any a c l.length l e.parent w0 w6 (HB0.out.trans ((BW6.out).mono (by omega))) HR.out rfl hl).mono ?_
        rintro r w7 ⟨⟨y, x7, c7, hy, rfl, hx7⟩, hb7⟩
        have HY := hide hy
        have HX7 := hide hx7
        have X7 := hide (X6.out.below hb7)
        obtain ⟨⟨p0, p1, p2, p3, p4⟩, pf⟩ := X7.out
        have pf0 := pf 0
        have pf1 := pf 1
        have pf2 := pf 2
        have pf3 := pf 3
        have pf4 := pf 4
        have O7 := hide (ownsRow_below O6.out hb7)
        have B7 := hide (below_next BW6.out hb7)
        have hs7 := hb7.size
        have HN7 := hide (show ∀ z, atS l e.parent = some z → z.name ≠ [] from fun z hz => HNE.out z (atS_some hz).1)
        clear hb7 hy hx7 pf q0 q1 q2 q3 q4 qf
        go_wp2_with fail
        go_roundw
        case rel =>
          refine ⟨pre ++ [e], atS l e.parent, y, x7, c7, by simp; omega, by simp [World.setCell]; omega, HY, HN7, HLN2, hide ?_, hide ?_, HX7, hide (Below.five B7.out (Nat.le_refl _) _ _ _ _ _)⟩
          · refine LN.push (s := e) (a := x') (c := c') G1.out rfl G3.out HRX.out ?_
            exact ownsRow_kept O7.out (Kept.five w7 w.heap.size _ _ _ _ _) (fun b hb e => by have := (O7.out.lt b hb).1; omega)
          · exact X7.out.set _ _ _ _ _
        case measure => simp [lenOfV]; omega
      · have hp : pre.length = 5 := by omega
        have h4' : ¬ (pre.length : Int) ≤ 4 := by omega
        have HT := hide (show L = pre by rw [HLL.out, hp]; simp [lineS])
        clear hp h4
        go_wp2_with fail
        go_ret
        rw [HT.out]
        exact ⟨lv, lc, rfl, L1.out.mono (by omega), B1.out⟩
end Go.Proofs.YtolnlfnndnpiiaaGreat

namespace Go.Proofs.YtolnlfnndnpiiaaGreat
open Go.RowKit Go.Maps
set_option linter.unusedVariables false
attribute [local go_sem ↓] Go.wp_at_zero Go.wp_at_succ

set_option maxRecDepth 100000 in
set_option maxHeartbeats 3200000 in
theorem standFault_any (a : Option Addr) (c n : Nat) (l : List Sn) (s : Sn) (x : Option Addr) (cc : Nat) (w : World) (h : RdS w a l) (hx : RdE w x s.layer) (hn : n = l.length) (hl : l.length ≤ 1048576) (hne : ∀ y ∈ l, y.name ≠ []) (hs : s.name ≠ []) :
    Calls Tryz.prog 39 #[.slice a n c, .agg #[.string (str s.name), .string (str s.parent), .int .i64 s.kind, .bool s.lease, .slice x s.layer.length cc]] w fun r w' => r = .returned (.int .i64 (standS l s)) ∧ Below w.heap.size w w' := by
  subst hn
  have HR := hide h
  have HX := hide hx
  have HNE := hide hne
  have HS := hide hs
  have hse := str_beq s.parent []
  have F5 := hide (Five.new w (.string (str s.name)) (.string (str s.parent)) (.int .i64 s.kind) (.bool s.lease) (.slice x s.layer.length cc) 37)
  have B0 := hide (below_alloc w (.cells #[.string (str s.name), .string (str s.parent), .int .i64 s.kind, .bool s.lease, .slice x s.layer.length cc] 37))
  have hstr : str [] = ⟨#[]⟩ := rfl
  rw [hstr] at hse
  clear h hx hne hs hstr
  by_cases hp : s.parent = []
  · have HD := hide (show standS l s = 0 by unfold standS; rw [if_pos hp])
    have hpe : (str s.parent).toList.isEmpty = true := by rw [hp, str_toList]; rfl
    clear hp hse
    go_enter Tryz.func39, Tryz.ntmps39
    go_wp2_with fail
    go_ret
    exact ⟨ret_int HD.out.symm, B0.out⟩
  · have hpe : (str s.parent).toList.isEmpty = false := by
      rw [str_toList]; cases hq : s.parent with | nil => exact absurd hq hp | cons _ _ => rfl
    have HP := hide hp
    clear hp hse
    go_enter Tryz.func39, Tryz.ntmps39
    go_wp2_with fail
    generalize hW0 : w.alloc (.cells #[.string (str s.name), .string (str s.parent), .int .i64 s.kind, .bool s.lease, .slice x s.layer.length cc] 37) = W0 at *
    clear hW0
    refine (snapOf_any a c l.length l s.parent w W0 B0.out HR.out rfl hl).mono ?_
    rintro r w1 ⟨⟨e, x1, c1, he, rfl, hx1⟩, hb1⟩
    have HE := hide he
    have B1 := hide (below_next B0.out hb1)
    have F51 := hide (F5.out.below (below_next hb1 (below_alloc w1 (.cells #[.string (str e.name), .string (str e.parent), .int .i64 e.kind, .bool e.lease, .slice x1 e.layer.length c1] 37))))
    have FE := hide (Five.new w1 (.string (str e.name)) (.string (str e.parent)) (.int .i64 e.kind) (.bool e.lease) (.slice x1 e.layer.length c1) 37)
    have B2 := hide (below_next B1.out (below_alloc w1 (.cells #[.string (str e.name), .string (str e.parent), .int .i64 e.kind, .bool e.lease, .slice x1 e.layer.length c1] 37)))
    clear hb1 he hx1
    cases ho : atS l s.parent with
    | none =>
      have he : e = zeroS := by have := HE.out; rw [ho] at this; exact this
      have HD := hide (show standS l s = 4 by unfold standS; rw [if_neg HP.out, ho])
      subst he
      clear ho
      go_wp2_with fail
      refine (isNone_yes _ _ _).mono ?_
      rintro r w2 ⟨rfl, hb2⟩
      have B3 := hide (below_next B2.out hb2)
      clear hb2
      go_wp2_with fail
      go_ret
      exact ⟨ret_int HD.out.symm, B3.out⟩
    | some y =>
      have he : e = y := by have := HE.out; rw [ho] at this; exact this
      subst he
      have HNM := hide (HNE.out e (atS_some ho).1)
      have HD := hide (show standS l s = if e.kind = 1 then 10 else if 4 < (lineS l 5 (some s)).length then 2 else 0 by unfold standS; rw [if_neg HP.out, ho])
      clear ho
      go_wp2_with fail
      generalize hW2 : w1.alloc (.cells #[.string (str e.name), .string (str e.parent), .int .i64 e.kind, .bool e.lease, .slice x1 e.layer.length c1] 37) = W2 at *
      clear hW2
      refine (isNone_no e _ _ _ HNM.out).mono ?_
      rintro r w3 ⟨rfl, hb3⟩
      have B3 := hide (below_next B2.out hb3)
      obtain ⟨g0, g1, g2, g3, g4⟩ := FE.out.below hb3
      obtain ⟨f0, f1, f2, f3, f4⟩ := F51.out.below hb3
      clear hb3
      by_cases hk : e.kind = 1
      · have hkb : (e.kind == 1) = true := by simp [hk]
        have HD2 := hide (show standS l s = 10 by rw [HD.out, if_pos hk])
        clear hk
        go_wp2_with fail
        go_ret
        exact ⟨ret_int HD2.out.symm, B3.out⟩
      · have hkb : (e.kind == 1) = false := by simp [hk]
        have HD2 := hide (show standS l s = if 4 < (lineS l 5 (some s)).length then 2 else 0 by rw [HD.out, if_neg hk])
        clear hk
        go_wp2_with fail
        refine (lineOf_any a c l.length l s x cc w w3 B3.out HR.out HX.out rfl hl HNE.out HS.out).mono ?_
        rintro r w4 ⟨av, cv, rfl, -, hb4⟩
        have B4 := hide (below_next B3.out hb4)
        have hL5 := lineS_len l 5 (some s)
        generalize (lineS l 5 (some s)).length = M at *
        clear hb4
        by_cases hm : 4 < M
        · have hm' : (4 : Int) < (M : Int) := by omega
          have HD3 := hide (show standS l s = 2 by rw [HD2.out, if_pos hm])
          clear hm
          go_wp2_with fail
          go_ret
          exact ⟨ret_int HD3.out.symm, B4.out⟩
        · have hm' : ¬ (4 : Int) < (M : Int) := by omega
          have HD3 := hide (show standS l s = 0 by rw [HD2.out, if_neg hm])
          clear hm
          go_wp2_with fail
          go_ret
          exact ⟨ret_int HD3.out.symm, B4.out⟩
def prevS (l : List Sn) : Nat → Option Sn
  | 0 => none
  | j + 1 => l[j]?
theorem headS_step {l : List Sn} {k : Nat} {s : Sn} {F : Int} (h : F = headS (prevS l k) (l.drop k)) (hs : l[k]? = some s) (h0 : oneS (prevS l k) s = 0) : F = headS (prevS l (k + 1)) (l.drop (k + 1)) := by
  rw [h, drop_at hs, headS, if_pos h0]
  show headS (some s) _ = headS l[k]? _
  rw [hs]
theorem headS_bad {l : List Sn} {k : Nat} {s : Sn} {F : Int} (h : F = headS (prevS l k) (l.drop k)) (hs : l[k]? = some s) (h0 : oneS (prevS l k) s ≠ 0) : F = oneS (prevS l k) s := by
  rw [h, drop_at hs, headS, if_neg h0]
theorem headS_end {l : List Sn} {k : Nat} {F : Int} (h : F = headS (prevS l k) (l.drop k)) (hk : l.length ≤ k) : F = 0 := by
  rw [h, List.drop_eq_nil_of_le hk, headS]
theorem standsS_step {l r : List Sn} {k : Nat} {s : Sn} {F : Int} (h : F = standsS l (r.drop k)) (hs : r[k]? = some s) (h0 : standS l s = 0) : F = standsS l (r.drop (k + 1)) := by
  rw [h, drop_at hs, standsS, if_pos h0]
theorem standsS_bad {l r : List Sn} {k : Nat} {s : Sn} {F : Int} (h : F = standsS l (r.drop k)) (hs : r[k]? = some s) (h0 : standS l s ≠ 0) : F = standS l s := by
  rw [h, drop_at hs, standsS, if_neg h0]
theorem standsS_end {l r : List Sn} {k : Nat} {F : Int} (h : F = standsS l (r.drop k)) (hk : r.length ≤ k) : F = 0 := by
  rw [h, List.drop_eq_nil_of_le hk, standsS]
end Go.Proofs.YtolnlfnndnpiiaaGreat

namespace Go.Proofs.YtolnlfnndnpiiaaGreat
open Go.RowKit Go.Maps
set_option linter.unusedVariables false
attribute [local go_sem ↓] Go.wp_at_zero Go.wp_at_succ

set_option maxHeartbeats 800000 in
theorem l12Name_any (nm : Bs) (w : World) (h : nm.length ≤ 1048576) :
    Calls Tryz.prog 69 #[.string (str nm)] w fun r w' => r = .returned (.bool (nmOk nm)) ∧ w' = w := by
  have hsz : (str nm).size ≤ 9223372036854775807 := by rw [str_size]; omega
  have HL := hide (fun u => l3Plain_any (str nm) u hsz)
  rw [str_data] at HL
  have HN := hide (show nmOk nm = (plain nm && decide (nm.length ≤ 4)) from rfl)
  generalize nmOk nm = Z at *
  have hss : (str nm).size = nm.length := str_size nm
  cases hp : plain nm
  · rw [hp] at HL
    have HZ := hide (show Z = false by rw [HN.out, hp, Bool.false_and])
    go_enter Tryz.func69, Tryz.ntmps69
    go_wp2_with fail
    refine (HL.out _).mono ?_
    rintro r w1 ⟨rfl, rfl⟩
    go_wp2_with fail
    go_ret
    exact ⟨ret_bool HZ.out.symm, rfl⟩
  · rw [hp] at HL
    have HZ := hide (show Z = decide (nm.length ≤ 4) by rw [HN.out, hp, Bool.true_and])
    clear hp
    by_cases h4 : nm.length ≤ 4
    · have hb : ((str nm).size : Int) ≤ 4 := by omega
      have HZ2 := hide (show Z = true by rw [HZ.out, decide_eq_true h4])
      clear h4
      go_enter Tryz.func69, Tryz.ntmps69
      go_wp2_with fail
      refine (HL.out _).mono ?_
      rintro r w1 ⟨rfl, rfl⟩
      go_wp2_with fail
      go_ret
      exact ⟨ret_bool (by rw [HZ2.out]; simp; omega), rfl⟩
    · have hb : ¬ ((str nm).size : Int) ≤ 4 := by omega
      have HZ2 := hide (show Z = false by rw [HZ.out, decide_eq_false h4])
      clear h4
      go_enter Tryz.func69, Tryz.ntmps69
      go_wp2_with fail
      refine (HL.out _).mono ?_
      rintro r w1 ⟨rfl, rfl⟩
      go_wp2_with fail
      go_ret
      exact ⟨ret_bool (by rw [HZ2.out]; simp; omega), rfl⟩
def plS (l : List Sn) (nm : Bs) : Option Nat := l.findIdx? fun s => s.name == nm
theorem plS_hit {l : List Sn} {nm : Bs} {k : Nat} {s : Sn} (hs : l[k]? = some s) (h : plS l nm = (plS (l.drop k) nm).map (· + k)) (hn : s.name = nm) : plS l nm = some k := by
  rw [h, drop_at hs, plS, List.findIdx?_cons]
  simp [hn]
theorem plS_miss {l : List Sn} {nm : Bs} {k : Nat} {s : Sn} (hs : l[k]? = some s) (h : plS l nm = (plS (l.drop k) nm).map (· + k)) (hn : s.name ≠ nm) : plS l nm = (plS (l.drop (k + 1)) nm).map (· + (k + 1)) := by
  rw [h, drop_at hs]
  unfold plS
  rw [List.findIdx?_cons]
  have : (s.name == nm) = false := by simpa using hn
  rw [this]
  simp only [Bool.false_eq_true, if_false, Option.map_map]
  congr 1
  funext x
  simp only [Function.comp]
  omega
theorem plS_end {l : List Sn} {nm : Bs} {k : Nat} (hk : l.length ≤ k) (h : plS l nm = (plS (l.drop k) nm).map (· + k)) : plS l nm = none := by
  rw [h, List.drop_eq_nil_of_le hk]; rfl
theorem plS_at {l : List Sn} {nm : Bs} {k : Nat} (h : plS l nm = some k) : ∃ s, l[k]? = some s ∧ atS l nm = some s := by
  unfold plS at h
  obtain ⟨hk, h1, h2⟩ := List.findIdx?_eq_some_iff_getElem.1 h
  refine ⟨l[k], List.getElem?_eq_getElem hk, ?_⟩
  unfold atS
  rw [List.find?_eq_some_iff_getElem]
  exact ⟨h1, k, hk, rfl, fun j hj => by have := h2 j hj; simpa using this⟩
theorem plS_none {l : List Sn} {nm : Bs} (h : plS l nm = none) : atS l nm = none := by
  unfold plS at h
  rw [List.findIdx?_eq_none_iff] at h
  exact atS_none.2 fun s hs e => by have := h s hs; simp [e] at this
set_option maxRecDepth 100000 in
set_option maxHeartbeats 800000 in
theorem l12At_any (a : Option Addr) (c n : Nat) (l : List Sn) (nm : Bs) (w : World) (h : RdS w a l) (hn : n = l.length) (hl : l.length ≤ 1048576) :
    Calls Tryz.prog 33 #[.slice a n c, .string (str nm)] w fun r w' => r = .returned (.int .i64 (placeI (plS l nm))) ∧ w' = w := by
  subst hn
  have HR := hide h
  clear h
  go_enter Tryz.func33, Tryz.ntmps33
  go_wp2_with fail
  go_loop [5] (fun i => ∃ k : Nat, k ≤ l.length ∧ i = .int .i64 k ∧ Hid (plS l nm = (plS (l.drop k) nm).map (· + k))) (fun i => l.length - (intOf i).toNat)
  case atStart => exact ⟨0, Nat.zero_le _, rfl, hide (by simp)⟩
  case round =>
    obtain ⟨k, hk, rfl, HA⟩ := hrel
    by_cases hlt : k < l.length
    · obtain ⟨b, off, e, x, cc, rfl, hb, he, c0, c1, c2, c3, c4, hr⟩ := HR.out.at hlt
      have HX := hide he
      clear he hr
      by_cases hp : e.name = nm
      · have HE := hide (plS_hit HX.out HA.out hp)
        have hs := str_yes hp
        clear hp
        go_wp2_with fail
        go_ret
        exact ⟨ret_int (by rw [HE.out]; rfl), rfl⟩
      · have HE := hide (plS_miss HX.out HA.out hp)
        have hs := str_no hp
        clear hp
        go_wp2_with fail
        go_round
        case rel => exact ⟨k + 1, by omega, by go_num, HE⟩
        case measure => simp [intOf]; omega
    · have HE := hide (plS_end (by omega) HA.out)
      go_wp2_with fail
      go_ret
      exact ⟨ret_int (by rw [HE.out]; rfl), rfl⟩
def nmS (l : List Sn) (nm : Bs) : Option Sn := if nm = [] then none else atS l nm
theorem deep_step {l : List Sn} {nm : Bs} {k : Nat} {s : Sn} (h : k ≤ 4) (hs : nmS l nm = some s) : (lineS l (5 - k) (nmS l nm)).length = 1 + (lineS l (5 - (k + 1)) (atS l s.parent)).length := by
  rw [hs, line_more h]; simp; omega
set_option maxRecDepth 100000 in
set_option maxHeartbeats 1600000 in
theorem l12Deep_any (a : Option Addr) (c n : Nat) (l : List Sn) (nm : Bs) (w : World) (h : RdS w a l) (hn : n = l.length) (hl : l.length ≤ 1048576) (hne : ∀ y ∈ l, y.name ≠ []) :
    Calls Tryz.prog 71 #[.slice a n c, .string (str nm)] w fun r w' => r = .returned (.int .i64 (deepS l nm)) ∧ w' = w := by
  subst hn
  have HR := hide h
  have HNE := hide hne
  obtain ⟨D, hD⟩ : ∃ D : Nat, D = deepS l nm := ⟨_, rfl⟩
  rw [← hD]
  have HD := hide (show D = 0 + (lineS l (5 - 0) (nmS l nm)).length by rw [hD]; simp [deepS, nmS])
  clear h hne hD
  go_enter Tryz.func71, Tryz.ntmps71
  go_wp2_with fail
  go_loop [5, 1] (fun i q => ∃ (k : Nat) (m : Bs), k ≤ 5 ∧ i = .int .i64 k ∧ q = .string (str m) ∧ Hid (D = k + (lineS l (5 - k) (nmS l m)).length)) (fun i _ => 5 - (intOf i).toNat)
  case atStart => exact ⟨0, nm, by decide, rfl, rfl, HD⟩
  case round =>
    obtain ⟨k, m, hk, rfl, rfl, HK⟩ := hrel
    by_cases h5 : k < 5
    · have h5' : (k : Int) < 5 := by omega
      by_cases hm : m = []
      · subst hm
        have hme : (str []).toList.isEmpty = true := by rw [str_toList]; rfl
        have HO := hide (show D = k by rw [HK.out]; simp [nmS, lineS_none])
        go_wp2_with fail
        go_ret
        exact ⟨ret_int (by rw [HO.out]), rfl⟩
      · have hme : (str m).toList.isEmpty = false := by
          rw [str_toList]; cases hq : m with | nil => exact absurd hq hm | cons _ _ => rfl
        have HM := hide hm
        clear hm
        go_wp2_with fail
        refine (l12At_any a c l.length l m _ HR.out rfl hl).mono ?_
        rintro r w1 ⟨rfl, rfl⟩
        cases hp : plS l m with
        | none =>
          have HO := hide (show D = k by rw [HK.out, nmS, if_neg HM.out, plS_none hp, lineS_none]; rfl)
          clear hp
          simp only [placeI]
          go_wp2_with fail
          go_ret
          exact ⟨ret_int (by rw [HO.out]), rfl⟩
        | some j =>
          obtain ⟨s, hs, hat⟩ := plS_at hp
          have hjl := (List.getElem?_eq_some_iff.1 hs).1
          obtain ⟨b, off, e, x, cc, rfl, hb, he, c0, c1, c2, c3, c4, hr⟩ := HR.out.at hjl
          have hes : e = s := by rw [hs] at he; exact (Option.some.inj he).symm
          subst hes
          have HO := hide (show D = (k + 1) + (lineS l (5 - (k + 1)) (nmS l e.parent)).length by
            rw [HK.out, deep_step (by omega) (show nmS l m = some e by rw [nmS, if_neg HM.out, hat])]
            have : nmS l e.parent = atS l e.parent := by
              unfold nmS
              by_cases h0 : e.parent = []
              · rw [if_pos h0, h0]; exact (atS_none.2 fun y hy => HNE.out y hy).symm
              · rw [if_neg h0]
            rw [this]; omega)
          have hj0 : ¬ (j : Int) < 0 := by omega
          have hj1 : (j : Int) < (l.length : Int) := by omega
          clear hp hs hat he hr
          simp only [placeI]
          go_wp2_with fail
          go_round
          case rel => exact ⟨k + 1, e.parent, by omega, by go_num, rfl, HO⟩
          case measure => simp [intOf]; omega
    · have hk5 : k = 5 := by omega
      have h5' : ¬ (k : Int) < 5 := by omega
      have HO := hide (show D = k by rw [HK.out, hk5]; simp [lineS])
      clear hk5 h5
      go_wp2_with fail
      go_ret
      exact ⟨ret_int (by rw [HO.out]), rfl⟩
end Go.Proofs.YtolnlfnndnpiiaaGreat

namespace Go.Proofs.YtolnlfnndnpiiaaGreat
open Go.RowKit Go.Maps
set_option linter.unusedVariables false
attribute [local go_sem ↓] Go.wp_at_zero Go.wp_at_succ

theorem oneS_name {p : Option Sn} {s : Sn} (h : nmOk s.name = false) : oneS p s = 5 := by unfold oneS; rw [h]; rfl
theorem oneS_form {p : Option Sn} {s : Sn} (h : nmOk s.name = true) (h2 : ((s.kind == 1 || s.kind == 2) && !lwQ p s) = false) : oneS p s = 1 := by unfold oneS; rw [h, h2]; rfl
theorem oneS_lay {p : Option Sn} {s : Sn} (h : nmOk s.name = true) (hk : (s.kind == 1 || s.kind == 2) = true) (hl : lwQ p s = false) : oneS p s = layFaultP s.layer := by unfold oneS; rw [h, hk, hl]; rfl
set_option maxRecDepth 100000 in
set_option maxHeartbeats 6400000 in
theorem implSnapsFault_any (a : Option Addr) (c n : Nat) (l : List Sn) (w : World) (h : RdS w a l) (hn : n = l.length) (hl : l.length ≤ 1048576) (hs : SmallS l) :
    Calls Tryz.prog 9 #[.slice a n c] w fun r w' => r = .returned (.int .i64 (snF l)) ∧ Below w.heap.size w w' := by
  subst hn
  obtain ⟨F, hF⟩ : ∃ F : Int, F = snF l := ⟨_, rfl⟩
  rw [← hF]
  by_cases hm : 10 < l.length
  · have HE := hide (show F = 2 by rw [hF]; unfold snF; rw [if_pos hm])
    have hm' : (10 : Int) < (l.length : Int) := by omega
    clear hF hm h hs
    go_enter Tryz.func9, Tryz.ntmps9
    go_wp2_with fail
    go_ret
    exact ⟨ret_int HE.out.symm, Below.refl _ _⟩
  obtain ⟨H, hH⟩ : ∃ H : Int, H = headS none l := ⟨_, rfl⟩
  have HF := hide (show F = if H = 0 then standsS l l else H by rw [hF, hH]; unfold snF; rw [if_neg hm])
  have HH := hide (show H = headS (prevS l 0) (l.drop 0) by rw [hH]; rfl)
  have HNM := hide (show H = 0 → ∀ s ∈ l, s.name ≠ [] from fun h0 s hs => nmOk_ne ((headS_zero.1 (hH ▸ h0)).1 s hs).1)
  have HR := hide h
  have HS := hide hs
  have hm' : ¬ (10 : Int) < (l.length : Int) := by omega
  clear hF hH hm h hs
  go_enter Tryz.func9, Tryz.ntmps9
  go_wp2_with fail
  go_loopw [14] (fun i wr => ∃ k : Nat, k ≤ l.length ∧ i = .int .i64 k ∧ Hid (H = headS (prevS l k) (l.drop k)) ∧ Hid (Below w.heap.size w wr)) (fun i _ => l.length - (intOf i).toNat)
  case atStart => exact ⟨0, Nat.zero_le _, rfl, HH, hide (Below.refl _ _)⟩
  case round =>
    obtain ⟨k, hk, rfl, HK, HW⟩ := hrel
    by_cases hlt : k < l.length
    · obtain ⟨b, off, s, x, cc, rfl, hb, hsl, c0, c1, c2, c3, c4, hr⟩ := (HR.out.below HW.out).at hlt
      have HX := hide hsl
      have hsm := HS.out.2 s (List.mem_of_getElem? hsl)
      have HSM := hide hsm.2.2.2
      have BA := hide (below_alloc wr (.cells #[.string (str s.name), .string (str s.parent), .int .i64 s.kind, .bool s.lease, .slice x s.layer.length cc] 37))
      have F5 := hide (Five.new wr (.string (str s.name)) (.string (str s.parent)) (.int .i64 s.kind) (.bool s.lease) (.slice x s.layer.length cc) 37)
      have HRL := hide (hr.below BA.out)
      have HW1 := hide (below_next HW.out BA.out)
      have hl1 := hsm.1
      have hl2 := hsm.2.2.1
      clear hsl hr hsm
      go_wp2_with fail
      clear c0 c1 c2 c3 c4 BA
      generalize hW1 : wr.alloc (.cells #[.string (str s.name), .string (str s.parent), .int .i64 s.kind, .bool s.lease, .slice x s.layer.length cc] 37) = W1 at *
      generalize hB1 : wr.heap.size = b1 at *
      clear hW1 hB1
      refine (isSnapName_any s.name _ hl1).mono ?_
      rintro r w1 ⟨rfl, rfl⟩
      obtain ⟨f0, f1, f2, f3, f4⟩ := F5.out
      cases hnm : nmOk s.name
      · have HO := hide (headS_bad HK.out HX.out (by rw [oneS_name hnm]; decide))
        have HO2 := hide (show F = 5 by rw [HF.out, HO.out, oneS_name hnm]; rfl)
        clear hnm
        go_wp2_with fail
        go_ret
        exact ⟨ret_int HO2.out.symm, HW1.out⟩
      · have HNK := hide hnm
        have HKD := hide (fun u => isSnapKind_any s.kind u)
        cases hkd : (s.kind == 1 || s.kind == 2)
        · have H1 := hide (oneS_form (p := prevS l k) HNK.out (by rw [hkd]; rfl))
          have HO := hide (headS_bad HK.out HX.out (by rw [H1.out]; decide))
          have HO2 := hide (show F = 1 by rw [HF.out, HO.out, H1.out]; rfl)
          rw [hkd] at HKD
          clear hnm hkd
          go_wp2_with fail
          go_quiet ((go_at_call 37; exact Calls.quiet_of ((HKD.out _).mono (fun e w' ⟨he, hw⟩ => ⟨he, 0, hw⟩))))
          go_wp2_with fail
          go_ret
          exact ⟨ret_int HO2.out.symm, below_drewN HW1.out _⟩
        · have HKK := hide hkd
          rw [hkd] at HKD
          clear hnm hkd
          have step : ∀ (nq : Nat), lwQ (prevS l k) s = false → True := fun _ _ => trivial
          cases k with
          | zero =>
            have HL := hide (show lwQ (prevS l 0) s = false from rfl)
            go_wp2_with fail
            go_quiet ((go_at_call 37; exact Calls.quiet_of ((HKD.out _).mono (fun e w' ⟨he, hw⟩ => ⟨he, 0, hw⟩))))
            have HW2 := hide (below_drewN HW1.out nq)
            have HRL2 := hide (HRL.out.below (below_drewN (Below.refl _ _) nq))
            obtain ⟨g0, g1, g2, g3, g4⟩ := F5.out.below (below_drewN (Below.refl _ _) nq)
            clear f0 f1 f2 f3 f4
            generalize World.drewN _ nq = W at *
            go_wp2_with fail
            refine (implLayerFault_any x cc s.layer.length s.layer W HRL2.out rfl hl2 HSM.out).mono ?_
            rintro r w4 ⟨rfl, hb4⟩
            have HW3 := hide (below_next HW2.out hb4)
            have H1 := hide (oneS_lay HNK.out HKK.out HL.out)
            clear hb4
            by_cases hz : layFaultP s.layer = 0
            · have HO := hide (headS_step HK.out HX.out (by rw [H1.out, hz]))
              rw [hz]
              clear hz
              go_wp2_with fail
              go_roundw
              case rel => exact ⟨1, by omega, by go_num, HO, HW3⟩
              case measure => simp [intOf]; omega
            · have HO := hide (headS_bad HK.out HX.out (by rw [H1.out]; exact hz))
              have HO2 := hide (show F = layFaultP s.layer by rw [HF.out, HO.out, H1.out, if_neg hz])
              have hz2 : (layFaultP s.layer != 0) = true := by simp; exact hz
              clear hz
              go_wp2_with fail
              go_ret
              exact ⟨ret_int HO2.out.symm, HW3.out⟩
          | succ j =>
            have hg : (0 : Int) < ((j + 1 : Nat) : Int) := by omega
            obtain ⟨b2, off2, s2, x2, cc2, hbb, hb2, hs2, d0, d1, d2, d3, d4, hr2⟩ := (HR.out.below HW1.out).at (show j < l.length by omega)
            simp only [Option.some.injEq, Addr.mk.injEq, and_true] at hbb
            obtain ⟨rfl, rfl⟩ := hbb
            have HL := hide (show lwQ (prevS l (j + 1)) s = (Op.bytesLess s.name s2.name || (s.name == s2.name)) from by simp [prevS, lwQ, hs2])
            clear hs2 d1 d2 d3 d4 hr2
            cases hlow : (Op.bytesLess (str s.name).toList (str s2.name).toList || ((str s.name).toList == (str s2.name).toList))
            · have HL2 := hide (show lwQ (prevS l (j + 1)) s = false from by rw [HL.out]; rw [str_toList, str_toList] at hlow; exact hlow)
              go_wp2_with fail
              go_quiet ((go_at_call 37; exact Calls.quiet_of ((HKD.out _).mono (fun e w' ⟨he, hw⟩ => ⟨he, 0, hw⟩))))
              have HW2 := hide (below_drewN HW1.out nq)
              have HRL2 := hide (HRL.out.below (below_drewN (Below.refl _ _) nq))
              obtain ⟨g0, g1, g2, g3, g4⟩ := F5.out.below (below_drewN (Below.refl _ _) nq)
              clear f0 f1 f2 f3 f4 d0
              generalize World.drewN _ nq = W at *
              go_wp2_with fail
              refine (implLayerFault_any x cc s.layer.length s.layer W HRL2.out rfl hl2 HSM.out).mono ?_
              rintro r w4 ⟨rfl, hb4⟩
              have HW3 := hide (below_next HW2.out hb4)
              have H1 := hide (oneS_lay HNK.out HKK.out HL2.out)
              clear hb4
              by_cases hz : layFaultP s.layer = 0
              · have HO := hide (headS_step HK.out HX.out (by rw [H1.out, hz]))
                rw [hz]
                clear hz
                go_wp2_with fail
                go_roundw
                case rel => exact ⟨j + 1 + 1, by omega, by go_num, HO, HW3⟩
                case measure => simp [intOf]; omega
              · have HO := hide (headS_bad HK.out HX.out (by rw [H1.out]; exact hz))
                have HO2 := hide (show F = layFaultP s.layer by rw [HF.out, HO.out, H1.out, if_neg hz])
                have hz2 : (layFaultP s.layer != 0) = true := by simp; exact hz
                clear hz
                go_wp2_with fail
                go_ret
                exact ⟨ret_int HO2.out.symm, HW3.out⟩
            · have HL2 := hide (show lwQ (prevS l (j + 1)) s = true from by rw [HL.out]; rw [str_toList, str_toList] at hlow; exact hlow)
              have H1 := hide (oneS_form (p := prevS l (j + 1)) HNK.out (by rw [HL2.out, Bool.not_true, Bool.and_false]))
              have HO := hide (headS_bad HK.out HX.out (by rw [H1.out]; decide))
              have HO2 := hide (show F = 1 by rw [HF.out, HO.out, H1.out]; rfl)
              go_wp2_with fail
              go_quiet ((go_at_call 37; exact Calls.quiet_of ((HKD.out _).mono (fun e w' ⟨he, hw⟩ => ⟨he, 0, hw⟩))))
              go_wp2_with fail
              go_ret
              exact ⟨ret_int HO2.out.symm, below_drewN HW1.out _⟩
    · have h0 := headS_end HK.out (by omega)
      have HNE := hide (HNM.out h0)
      have HFS := hide (show F = standsS l (l.drop 0) by rw [HF.out, if_pos h0]; rfl)
      clear h0 HK HNM HF HH
      have hke : k = l.length := by omega
      clear hlt hk
      subst hke
      go_wp2_with fail
      go_loopw [51] (fun i wr => ∃ k : Nat, k ≤ l.length ∧ i = .int .i64 k ∧ Hid (F = standsS l (l.drop k)) ∧ Hid (Below w.heap.size w wr)) (fun i _ => l.length - (intOf i).toNat)
      case atStart => exact ⟨0, Nat.zero_le _, rfl, HFS, HW⟩
      case round =>
        clear HW
        rename_i wr2
        obtain ⟨k, hk, rfl, HK, HW⟩ := hrel
        by_cases hlt : k < l.length
        · obtain ⟨b, off, s, x, cc, rfl, hb, hsl, c0, c1, c2, c3, c4, hr⟩ := (HR.out.below HW.out).at hlt
          have HX := hide hsl
          have HNS := hide (HNE.out s (List.mem_of_getElem? hsl))
          have BA := hide (below_alloc wr (.cells #[.string (str s.name), .string (str s.parent), .int .i64 s.kind, .bool s.lease, .slice x s.layer.length cc] 37))
          have HRL := hide (hr.below BA.out)
          have HW1 := hide (below_next HW.out BA.out)
          clear hsl hr
          go_wp2_with fail
          clear c0 c1 c2 c3 c4 BA
          generalize hW1 : wr.alloc (.cells #[.string (str s.name), .string (str s.parent), .int .i64 s.kind, .bool s.lease, .slice x s.layer.length cc] 37) = W1 at *
          clear hW1
          refine (standFault_any _ c l.length l s x cc W1 (HR.out.below HW1.out) HRL.out rfl hl HNE.out HNS.out).mono ?_
          rintro r w4 ⟨rfl, hb4⟩
          have HW3 := hide (below_next HW1.out hb4)
          clear hb4
          by_cases hz : standS l s = 0
          · have HO := hide (standsS_step HK.out HX.out hz)
            rw [hz]
            clear hz
            go_wp2_with fail
            go_roundw
            case rel => exact ⟨k + 1, by omega, by go_num, HO, HW3⟩
            case measure => simp [intOf]; omega
          · have HO := hide (standsS_bad HK.out HX.out hz)
            have hz2 : (standS l s != 0) = true := by simp; exact hz
            clear hz
            go_wp2_with fail
            go_ret
            exact ⟨ret_int HO.out.symm, HW3.out⟩
        · have HO := hide (standsS_end HK.out (by omega))
          go_wp2_with fail
          go_ret
          exact ⟨ret_int HO.out.symm, HW.out⟩
end Go.Proofs.YtolnlfnndnpiiaaGreat

