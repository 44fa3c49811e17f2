/-
  Texts put together: TreL TreA MerL OvrL SeeB OvrM SeeE.
-/
import Derived.Test.YtolnlfnndnpiiaaGreatKGrows6
import Derived.Maps.OwnSet
import Derived.DeepKeys5
import Derived.Deep.RegionLaw
import Derived.Test.YtolnlfnndnpiiaaGreatKGrows3
namespace Go.Proofs.YtolnlfnndnpiiaaGreat
set_option linter.unusedVariables false

def treeK (k : Int) : Bool := decide (k = 1 ∨ k = 2)
def treFaultP (es : List En) : Int := if 40 < es.length then 2 else if es.all (fun e => treeK e.kind) then layFromH (homeP es) none es else 1
structure RightT (es : List En) : Prop where
  len : es.length ≤ 40
  kind : ∀ e ∈ es, treeK e.kind = true
  ent : ∀ e ∈ es, entFault e = 0
  rise : Rise es
  home : ∀ e ∈ es, homeP es e.path = true
theorem rightT_P {es : List En} : treFaultP es = 0 ↔ RightT es := by
  unfold treFaultP
  by_cases h : 40 < es.length
  · rw [if_pos h]
    exact ⟨fun x => (by cases x), fun x => (by have := x.len; omega)⟩
  · rw [if_neg h]
    cases hk : es.all (fun e => treeK e.kind)
    · refine ⟨fun x => (by simp at x), fun x => ?_⟩
      exfalso
      have := List.all_eq_true.2 x.kind
      rw [this] at hk; cases hk
    · rw [if_pos rfl, layFromH_zero]
      exact ⟨fun ⟨a, b, _⟩ => ⟨by omega, List.all_eq_true.1 hk, fun e he => (a e he).1, b, fun e he => (a e he).2⟩, fun x => ⟨fun e he => ⟨x.ent e he, x.home e he⟩, x.rise, fun q hq => by cases hq⟩⟩
def GoodH (es : List En) : Prop := layFromH (homeP es) none es = layFromH (homeE es) none es
theorem GoodH.good {es : List En} (h : GoodH es) : Good es := by
  by_cases hl : 12 < es.length
  · exact good_many hl
  · exact good_of hl h
theorem goodH_rise {es : List En} (h : Rise es) : GoodH es := layFromH_congr (fun x hx _ => homeP_eq h x.path)
theorem goodH_snoc {es : List En} {e : En} (hr : Rise es) (hh : ∀ x ∈ es, homeP es x.path = true) : GoodH (es ++ [e]) := by
  refine layFromH_congr (fun x hx hxe => ?_)
  rcases List.mem_append.1 hx with hx | hx
  · have h1 := hh x hx
    have h2 : homeP (es ++ [e]) x.path = true := by
      rw [homeP_iff] at h1 ⊢
      rcases h1 with h1 | ⟨d, hd, h1⟩
      · exact .inl h1
      · exact .inr ⟨d, List.mem_append_left _ hd, h1⟩
    rw [h2]
    symm
    rw [homeP_eq hr] at h1
    unfold homeE at h1 ⊢
    by_cases h0 : parentP x.path = []
    · simp [h0]
    · rw [if_neg h0] at h1 ⊢
      cases hf : findE es (parentP x.path) with
      | none => rw [hf] at h1; simp at h1
      | some d =>
        rw [hf] at h1
        have : findE (es ++ [e]) (parentP x.path) = some d := by
          rw [findE, List.find?_append]
          have hf' : List.find? (fun y : En => decide (y.path = parentP x.path)) es = some d := hf
          rw [hf']
          rfl
        rw [this]
        exact h1
  · simp only [List.mem_singleton] at hx
    subst hx
    by_cases h0 : parentP x.path = []
    · simp [homeP, homeE, h0]
    · have hne := parent_ne (entFault_zero hxe) h0
      have e1 : homeP (es ++ [x]) x.path = homeP es x.path := by
        simp [homeP, h0, hasDir, hne.symm]
      have e2 : homeE (es ++ [x]) x.path = homeE es x.path := by
        have : findE (es ++ [x]) (parentP x.path) = findE es (parentP x.path) := by
          simp [findE, List.find?_append, hne.symm]
        simp only [homeE, this]
      rw [e1, e2, homeP_eq hr]
theorem goodH_set {r0 e : En} {tl : List En} (h : Right (r0 :: tl)) : GoodH (e :: tl) := by
  have hrt : Rise tl := (List.pairwise_cons.1 h.rise).2
  by_cases hr : Rise (e :: tl)
  · exact goodH_rise hr
  · have hb : entBadH (homeP (e :: tl)) none e = entBadH (homeE (e :: tl)) none e := by
      unfold entBadH
      by_cases he : entFault e = 0
      · have : homeP (e :: tl) e.path = homeE (e :: tl) e.path := by
          by_cases h0 : parentP e.path = []
          · simp [homeP, homeE, h0]
          · have hne := parent_ne (entFault_zero he) h0
            have e1 : homeP (e :: tl) e.path = homeP tl e.path := by simp [homeP, h0, hasDir, hne.symm]
            have e2 : homeE (e :: tl) e.path = homeE tl e.path := by
              have : findE (e :: tl) (parentP e.path) = findE tl (parentP e.path) := by simp [findE, hne.symm]
              simp only [homeE, this]
            rw [e1, e2, homeP_eq hrt]
        rw [this]
      · simp [he]
    unfold GoodH
    simp only [layFromH]
    rw [hb]
    by_cases hz : entBadH (homeE (e :: tl)) none e = 0
    · rw [if_pos hz, if_pos hz]
      cases tl with
      | nil => rfl
      | cons t1 r =>
        have ht : entFault t1 = 0 := h.ent t1 (by simp)
        have hlow : lowE (some e) t1 = true := by
          cases hlo : lowE (some e) t1
          · exfalso
            refine hr (List.pairwise_cons.2 ⟨fun y hy => ?_, hrt⟩)
            have h1 := lowE_some hlo
            rcases List.mem_cons.1 hy with rfl | hy
            · exact h1
            · exact bl_trans _ _ _ h1 ((List.pairwise_cons.1 hrt).1 y hy)
          · rfl
        simp only [layFromH]
        have b1 : ∀ H : Bs → Bool, entBadH H (some e) t1 = 1 := fun H => by simp [entBadH, ht, hlow]
        rw [b1, b1]
        rfl
    · rw [if_neg hz, if_neg hz]
theorem goodH_first {e : En} {tl : List En} (h : entFault e ≠ 0) : GoodH (e :: tl) := by
  have b1 : ∀ H : Bs → Bool, entBadH H none e = entFault e := fun H => by simp [entBadH, h]
  unfold GoodH
  simp only [layFromH, b1, if_neg h]

theorem parent_take {ns : List Bs} (h : 1 < ns.length) : (aboveN ns).getLastD [] = joinB (ns.take (ns.length - 1)) := by
  obtain ⟨m, hm⟩ : ∃ m, ns.length - 1 = m + 1 := ⟨ns.length - 2, by omega⟩
  unfold aboveN
  rw [hm, List.range_succ, List.map_append, List.getLastD_eq_getLast?]
  simp
theorem below_step {x p : Bs} (hx : faultP x = 0) (hp : faultP p = 0) (h : belowB x p = true) : parentP x ≠ [] ∧ (parentP x = p ∨ belowB (parentP x) p = true) := by
  have hm := (above_iff hx).2 ⟨hp, h⟩
  have hne : aboveN (cutB x.tail) ≠ [] := fun e => by rw [e] at hm; simp at hm
  have h0 : parentP x ≠ [] := fun e => hne (parentP_nil.1 e)
  refine ⟨h0, ?_⟩
  obtain ⟨ns, hN, hxe, hc, -⟩ := faultP_zero hx
  rw [hc] at hm hne
  obtain ⟨k, hk0, hk1, hpk⟩ := mem_aboveN.1 hm
  have hpar : parentP x = joinB (ns.take (ns.length - 1)) := by unfold parentP; rw [hc]; exact parent_take (by omega)
  by_cases hk : k = ns.length - 1
  · exact .inl (by rw [hpar, hpk, hk])
  · refine .inr ?_
    have hT : Names (ns.take (ns.length - 1)) := names_take hN (by omega)
    have hf := faultP_of hT
    rw [hpar]
    refine ((above_iff hf).1 ?_).2
    rw [cut_of hT, mem_aboveN]
    refine ⟨k, hk0, by rw [List.length_take]; omega, ?_⟩
    rw [hpk, List.take_take, Nat.min_eq_left (by omega)]
def offE (es : List En) (p : Bs) : List En := es.filter fun x => !decide (x.path = p)
theorem mem_offE {es : List En} {p : Bs} {x : En} : x ∈ offE es p ↔ x ∈ es ∧ x.path ≠ p := by simp [offE]
theorem offE_len (es : List En) (p : Bs) : (offE es p).length ≤ es.length := List.length_filter_le _ _
def homeC (es : List En) (p : Bs) : Int :=
  if parentP p = [] then 0 else
    match findE es (parentP p) with
    | none => 4
    | some e => if e.kind = 1 then 9 else 0
theorem homeC_top {es : List En} {p : Bs} (h : parentP p = []) : homeC es p = 0 := by simp [homeC, h]
theorem homeC_none {es : List En} {p : Bs} (h : parentP p ≠ []) (hf : findE es (parentP p) = none) : homeC es p = 4 := by simp [homeC, h, hf]
def dirE (p : Bs) : En := ⟨p, 2, 0, []⟩
def kidsE (es : List En) (p : Bs) : List En := es.filter fun x => decide (parentP x.path = p)
theorem dirE_right {p : Bs} (hp : faultP p = 0) : entFault (dirE p) = 0 := by
  rw [entFault_digs (e := dirE p) hp (by simp [formE, dirE]) (by simp [sizeE, dirE]) (by simp [manyE, dirE])]
  rfl
end Go.Proofs.YtolnlfnndnpiiaaGreat

namespace Go.Proofs.YtolnlfnndnpiiaaGreat
open Go.RowKit Go.Maps
set_option linter.unusedVariables false
attribute [local go_sem ↓] Go.wp_at_zero Go.wp_at_succ

set_option maxRecDepth 100000 in
set_option maxHeartbeats 3200000 in
theorem treeOf_any (a : Option Addr) (c n : Nat) (es : List En) (w : World) (h : RdE w a es) (hn : n = es.length) (hl : es.length ≤ 1048576) :
    Calls Tryz.prog 88 #[.slice a n c] w fun r w' => ∃ av cv, r = .returned (.slice av n cv) ∧ LI w w' (.slice av n cv) es ∧ Below w.heap.size w w' := by
  subst hn
  obtain ⟨i1, ki, kz0, kz1, kz2⟩ := info_parts Tryz.infoIt
  have HR := hide h
  clear h
  go_enter Tryz.func88, Tryz.ntmps88
  go_wp2_with fail
  go_loopw [3, 8] (fun v i wr => ∃ k : Nat, k ≤ es.length ∧ i = .int .i64 k ∧ Hid (LI w wr v (es.take k)) ∧ Hid (Below w.heap.size w wr)) (fun _ i _ => es.length - (intOf i).toNat)
  case atStart => exact ⟨0, Nat.zero_le _, rfl, hide (LI.nil _ _), hide (Below.refl _ _)⟩
  case round =>
    obtain ⟨k, hk, rfl, HL, HW⟩ := hrel
    have hsz := HW.out.size
    obtain ⟨lv, lc, hv⟩ := HL.out.shape
    rw [take_len hk] at hv
    subst hv
    by_cases hlt : k < es.length
    · obtain ⟨b, off, e, x, cc, rfl, hb, he, c0, c1, c2, c3, hr⟩ := (HR.out.below HW.out).at hlt
      obtain ⟨b', off', e', x', cc', hbb, hb', he', d0, d1, d2, d3, hr'⟩ := HR.out.at hlt
      simp only [Option.some.injEq, Addr.mk.injEq, and_true] at hbb
      obtain ⟨rfl, rfl⟩ := hbb
      have : e' = e := Option.some.inj (he'.symm.trans he)
      subst this
      have d3' := (HW.out.cell (p := ⟨b, off + k * 4 + 3, none⟩) hb').trans d3
      rw [c3] at d3'
      simp only [Option.some.injEq, Value.slice.injEq, true_and] at d3'
      obtain ⟨rfl, rfl⟩ := d3'
      have HX := hide he
      have HRc := hide hr'
      clear he hr hr' he' d0 d1 d2 d3
      have BA := hide (below_alloc wr (.cells #[.string (str e'.path), .int .i64 e'.kind, .int .i64 e'.size, .slice x e'.chunks.length cc] 50))
      go_wp2_with fail
      refine (itemOf_any _ _ _ _ _ _ _).mono ?_
      rintro r w3 ⟨rfl, hb3⟩
      have BB5 := hide (below_next BA.out hb3)
      clear hb3 c0 c1 c2 c3 BA
      obtain ⟨rs, g1, g2, g3⟩ := HL.out
      rw [take_len hk] at g2
      have G1 := hide g1
      have G2 := hide (ownsRow_below g2 BB5.out)
      have G3 := hide g3
      have HK := hide (take_len hk)
      clear g1 g2 g3
      have hm1 : k + 1 ≤ maxLen := by unfold maxLen; omega
      have hm1' : (k + 1) * 56 ≤ 140737488355328 := by omega
      have hsz5 := BB5.out.size
      go_wp2_with (at_builtin; refine wpList_append_put rfl (.tmp 12) (.tmp 15) 116 rfl w.heap.size 88 i1 (.agg #[.int .i64 0, .slice none 0 0, .string ⟨#[]⟩, .int .i64 0]) 4 56 Tryz.underlying116 ki kz0 kz1 kz2 rfl (by decide) _ _ _ rfl G2.out _ rfl rfl rfl (by intro u hu; simp at hu; rcases hu with rfl | rfl | rfl | rfl <;> rfl) hm1 hm1' (by omega) ?_; intro av6 cv6 w6 hown6 hk6; have O6 := hide hown6; have K6 := hide hk6; clear hown6 hk6)
      go_roundw
      case rel =>
        refine ⟨k + 1, by omega, by go_num, hide ?_, hide ?_⟩
        · rw [take_snoc_at HX.out]
          exact LI.push (e := e') (a := x) (c := cc) G1.out HK.out.symm G3.out HRc.out O6.out
        · exact (below_next HW.out BB5.out).trans (K6.out.below (by omega) (fun q hq hS => by have := (G2.out.lt q hS).1; omega))
      case measure => simp [intOf]; omega
    · have hke : k = es.length := by omega
      have HE := hide (show es.take k = es from List.take_of_length_le (by omega))
      have HL2 : Hid (LI w wr (.slice lv k lc) es) := by have := HL.out; rw [HE.out] at this; exact this
      clear HL HE
      subst hke
      go_wp2_with fail
      go_ret
      exact ⟨lv, lc, rfl, HL2.out, HW.out⟩

def Asks (W0 : World) (fn : FuncId) (cap : Array Value) (f : En → Bool) : Prop :=
  (∀ args w, (callFunc fn args).run Tryz.prog w = .ok (.enter fn args) w) ∧ ∀ (e : En) (a : Option Addr) (c : Nat) (w : World), e.path.length ≤ 1048576 → e.chunks.length ≤ 1048576 → Reads .i64 w a e.chunks → Below W0.heap.size W0 w →
    Calls Tryz.prog fn (#[.agg #[.int .i64 e.size, .slice a e.chunks.length c, .string (str e.path), .int .i64 e.kind]] ++ cap) w fun r w' => r = .returned (.bool (f e)) ∧ Below w.heap.size w w'
theorem Asks.next {W0 W : World} {fn : FuncId} {cap : Array Value} {f : En → Bool} (h : Asks W0 fn cap f) (hb : Below W0.heap.size W0 W) : Asks W fn cap f :=
  ⟨h.1, fun e a c w he hc hr hw => h.2 e a c w he hc hr (below_next hb hw)⟩
theorem find_step {es : List En} {f : En → Bool} {k : Nat} {e : En} (he : es[k]? = some e) (h : es.find? f = (es.drop k).find? f) (hf : f e = false) : es.find? f = (es.drop (k + 1)).find? f := by
  rw [h, drop_at he, List.find?_cons, hf]
theorem find_hit {es : List En} {f : En → Bool} {k : Nat} {e : En} (he : es[k]? = some e) (h : es.find? f = (es.drop k).find? f) (hf : f e = true) : es.find? f = some e := by
  rw [h, drop_at he, List.find?_cons, hf]
theorem find_stop {es : List En} {f : En → Bool} {k : Nat} (hk : es.length ≤ k) (h : es.find? f = (es.drop k).find? f) : es.find? f = none := by
  rw [h, List.drop_eq_nil_of_le hk]; rfl

def FirstI (o : Option En) (w : World) (r : Ending) : Prop :=
  (∃ e x cc, o = some e ∧ r = .returned (.tuple #[.agg #[.int .i64 e.size, .slice x e.chunks.length cc, .string (str e.path), .int .i64 e.kind], .bool true]) ∧ Reads .i64 w x e.chunks) ∨
    (o = none ∧ r = .returned (.tuple #[.agg #[.int .i64 0, .slice none 0 0, .string ⟨#[]⟩, .int .i64 0], .bool false]))
set_option maxRecDepth 100000 in
set_option maxHeartbeats 3200000 in
theorem first_any (a : Option Addr) (c n : Nat) (es : List En) (fn : FuncId) (cap : Array Value) (f : En → Bool) (w : World) (h : RdI w a es) (hn : n = es.length) (hl : es.length ≤ 1048576) (hs : SmallE es) (hf : Asks w fn cap f) :
    Calls Tryz.prog 179 #[.slice a n c, .func (.func fn) #[] cap] w fun r w' => FirstI (es.find? f) w r ∧ Below w.heap.size w w' := by
  subst hn
  have eg := hf.1
  have HF := hide hf
  have HR := hide h
  have HS := hide hs
  have X0 := hide (Box4.new w (.int .i64 0) (.slice none 0 0) (.string ⟨#[]⟩) (.int .i64 0) 88)
  have B0 := hide (below_alloc w (.cells #[.int .i64 0, .slice none 0 0, .string ⟨#[]⟩, .int .i64 0] 88))
  clear h hf hs
  go_enter Tryz.func179, Tryz.ntmps179
  go_wp2_with fail
  generalize w.alloc (.cells #[.int .i64 0, .slice none 0 0, .string ⟨#[]⟩, .int .i64 0] 88) = W0 at *
  go_loopw [11] (fun i wr => ∃ k : Nat, k ≤ es.length ∧ i = .int .i64 k ∧ Hid (es.find? f = (es.drop k).find? f) ∧ Hid (Below W0.heap.size W0 wr)) (fun i _ => es.length - (intOf i).toNat)
  case atStart => exact ⟨0, Nat.zero_le _, rfl, hide (by simp), hide (Below.refl _ _)⟩
  case round =>
    obtain ⟨k, hk, rfl, HFi, HW0⟩ := hrel
    have HW := hide (below_next B0.out HW0.out)
    have hsz := HW.out.size
    by_cases hlt : k < es.length
    · obtain ⟨b, off, e, x, cc, rfl, hb, he, c0, c1, c2, c3, hr⟩ := (HR.out.below HW.out).at hlt
      obtain ⟨b', off', e', x', cc', hbb, hb', he', d0, d1, d2, d3, hr'⟩ := HR.out.at hlt
      simp only [Option.some.injEq, Addr.mk.injEq, and_true] at hbb
      obtain ⟨rfl, rfl⟩ := hbb
      have : e' = e := Option.some.inj (he'.symm.trans he)
      subst this
      have d1' := (HW.out.cell (p := ⟨b, off + k * 4 + 1, none⟩) hb').trans d1
      rw [c1] at d1'
      simp only [Option.some.injEq, Value.slice.injEq, true_and] at d1'
      obtain ⟨rfl, rfl⟩ := d1'
      have hsm := HS.out e' (List.mem_of_getElem? he)
      have HX := hide he
      have HRc := hide hr'
      clear he hr hr' he' d0 d1 d2 d3
      have BA := hide (below_alloc wr (.cells #[.int .i64 e'.size, .slice x e'.chunks.length cc, .string (str e'.path), .int .i64 e'.kind] 88))
      have F4 := hide (Four.new wr (.int .i64 e'.size) (.slice x e'.chunks.length cc) (.string (str e'.path)) (.int .i64 e'.kind) 88)
      go_wp2_with fail
      refine (HF.out.2 e' x cc _ hsm.1 hsm.2 (HRc.out.below (below_next HW.out BA.out)) (below_next HW.out BA.out)).mono ?_
      rintro r w3 ⟨rfl, hb3⟩
      have BB3 := hide (below_next HW0.out (below_next BA.out hb3))
      obtain ⟨f0, f1, f2, f3⟩ := F4.out.below hb3
      clear hb3 c0 c1 c2 c3
      cases hq : f e'
      · have HN := hide (find_step HX.out HFi.out hq)
        clear hq
        go_wp2_with fail
        go_roundw
        case rel => exact ⟨k + 1, by omega, by go_num, HN, BB3⟩
        case measure => simp [intOf]; omega
      · have HN := hide (find_hit HX.out HFi.out hq)
        clear hq
        obtain ⟨⟨t0, t1, t2, t3⟩, tf⟩ := X0.out.below BB3.out
        have tf0 := tf 0
        have tf1 := tf 1
        have tf2 := tf 2
        have tf3 := tf 3
        clear tf
        go_wp2_with fail
        refine bodyPost_ret (v := .tuple #[.agg #[.int .i64 e'.size, .slice x e'.chunks.length cc, .string (str e'.path), .int .i64 e'.kind], .bool true]) (by simp [results, Tryz.results179, go_sem, t0, t1, t2, t3]) rfl ?_
        exact ⟨.inl ⟨e', x, cc, HN.out, rfl, HRc.out⟩, ((((below_next B0.out BB3.out).setCell (p := ⟨w.heap.size, 0, none⟩) (Nat.le_refl _) _).setCell (p := ⟨w.heap.size, 1, none⟩) (Nat.le_refl _) _).setCell (p := ⟨w.heap.size, 2, none⟩) (Nat.le_refl _) _).setCell (p := ⟨w.heap.size, 3, none⟩) (Nat.le_refl _) _⟩
    · have HN := hide (find_stop (by omega) HFi.out)
      have BA := hide (below_alloc wr (.cells #[.int .i64 0, .slice none 0 0, .string ⟨#[]⟩, .int .i64 0] 88))
      obtain ⟨⟨t0, t1, t2, t3⟩, tf⟩ := X0.out.below (below_next HW0.out BA.out)
      have tf0 := tf 0
      have tf1 := tf 1
      have tf2 := tf 2
      have tf3 := tf 3
      clear tf
      go_wp2_with fail
      refine bodyPost_ret (v := .tuple #[.agg #[.int .i64 0, .slice none 0 0, .string ⟨#[]⟩, .int .i64 0], .bool false]) (by simp [results, Tryz.results179, go_sem, t0, t1, t2, t3]) rfl ?_
      exact ⟨.inr ⟨HN.out, rfl⟩, ((((below_next HW.out BA.out).setCell (p := ⟨w.heap.size, 0, none⟩) (Nat.le_refl _) _).setCell (p := ⟨w.heap.size, 1, none⟩) (Nat.le_refl _) _).setCell (p := ⟨w.heap.size, 2, none⟩) (Nat.le_refl _) _).setCell (p := ⟨w.heap.size, 3, none⟩) (Nat.le_refl _) _⟩
end Go.Proofs.YtolnlfnndnpiiaaGreat

namespace Go.Proofs.YtolnlfnndnpiiaaGreat
set_option linter.unusedVariables false

structure Fit (es : List En) : Prop where
  ent : ∀ e ∈ es, entFault e = 0
  rise : Rise es
  home : ∀ e ∈ es, homeP es e.path = true
structure FitT (es : List En) : Prop where
  fit : Fit es
  kind : ∀ e ∈ es, treeK e.kind = true
theorem fit_nil : Fit [] := ⟨fun e he => by simp at he, List.Pairwise.nil, fun e he => by simp at he⟩
theorem fitT_nil : FitT [] := ⟨fit_nil, fun e he => by simp at he⟩
theorem right_fit {es : List En} : Right es ↔ Fit es ∧ es.length ≤ 12 := ⟨fun h => ⟨⟨h.ent, h.rise, h.home⟩, h.len⟩, fun h => ⟨h.2, h.1.ent, h.1.rise, h.1.home⟩⟩
theorem rightT_fit {es : List En} : RightT es ↔ FitT es ∧ es.length ≤ 40 := ⟨fun h => ⟨⟨⟨h.ent, h.rise, h.home⟩, h.kind⟩, h.len⟩, fun h => ⟨h.2, h.1.kind, h.1.fit.ent, h.1.fit.rise, h.1.fit.home⟩⟩
theorem Fit.path {es : List En} (h : Fit es) {e : En} (he : e ∈ es) : faultP e.path = 0 := entFault_zero (h.ent e he)

theorem bl_append : ∀ (p : Bs) (c : UInt8) (r : Bs), Op.bytesLess p (p ++ c :: r) = true
  | [], c, r => by simp [Op.bytesLess]
  | a :: p, c, r => by simp [Op.bytesLess, bl_append p c r]
theorem below_less {q p : Bs} (h : belowB q p = true) : Op.bytesLess p q = true := by
  obtain ⟨r, _, rfl⟩ := belowB_iff.1 h
  exact bl_append p 47 r
theorem not_below_of_less {q p : Bs} (h : Op.bytesLess q p = true) : belowB q p = false := by
  cases hb : belowB q p
  · rfl
  · have := bl_asymm (below_less hb); rw [h] at this; cases this

theorem find_filter (es : List En) (f : Bs → Bool) (q : Bs) : findE (es.filter fun e => f e.path) q = if f q then findE es q else none := by
  unfold findE
  rw [List.find?_filter]
  cases hq : f q
  · rw [if_neg (by simp), List.find?_eq_none]
    intro x hx
    by_cases e : x.path = q
    · simp [e, hq]
    · simp [e]
  · rw [if_pos rfl]
    congr 1
    funext x
    by_cases e : x.path = q
    · simp [e, hq]
    · simp [e]
theorem find_putAt {bs : List En} {e : En} (hn : ∀ x ∈ bs, x.path ≠ e.path) (q : Bs) : findE (putAt bs e) q = if q = e.path then some e else findE bs q := by
  unfold putAt
  by_cases h : q = e.path
  · rw [if_pos h, findE, List.find?_append]
    have h1 : List.find? (fun x : En => decide (x.path = q)) (bs.take (lowN bs e.path)) = none := by
      rw [List.find?_eq_none]
      intro x hx
      simpa [h] using hn x (List.mem_of_mem_take hx)
    rw [h1]
    simp [h]
  · rw [if_neg h]
    conv => rhs; rw [← List.take_append_drop (lowN bs e.path) bs]
    have h2 : decide (e.path = q) = false := by simpa using fun x : e.path = q => h x.symm
    simp only [findE, List.find?_append, List.find?_cons, h2]
theorem find_snoc {D : List En} {e : En} (hn : ∀ x ∈ D, x.path ≠ e.path) (q : Bs) : findE (D ++ [e]) q = if q = e.path then some e else findE D q := by
  by_cases h : q = e.path
  · rw [if_pos h, findE, List.find?_append]
    have h1 : List.find? (fun x : En => decide (x.path = q)) D = none := by
      rw [List.find?_eq_none]
      intro x hx
      simpa [h] using hn x hx
    rw [h1]
    simp [h]
  · rw [if_neg h]
    have h2 : decide (e.path = q) = false := by simpa using fun x : e.path = q => h x.symm
    simp only [findE, List.find?_append, List.find?_cons, h2, List.find?_nil, Option.or_none]
theorem rise_ext : ∀ {es fs : List En}, Rise es → Rise fs → (∀ q, findE es q = findE fs q) → es = fs
  | [], [], _, _, _ => rfl
  | [], y :: fs, _, h2, h => by
    have := h y.path
    rw [rise_find h2 List.mem_cons_self] at this
    cases this
  | x :: es, [], h1, _, h => by
    have := h x.path
    rw [rise_find h1 List.mem_cons_self] at this
    cases this
  | x :: es, y :: fs, h1, h2, h => by
    have p1 := List.pairwise_cons.1 h1
    have p2 := List.pairwise_cons.1 h2
    have hx : x ∈ y :: fs := by
      have := h x.path
      rw [rise_find h1 List.mem_cons_self] at this
      exact (find_mem this.symm).1
    have hy : y ∈ x :: es := by
      have := h y.path
      rw [rise_find h2 List.mem_cons_self] at this
      exact (find_mem this).1
    have hxy : x = y := by
      rcases List.mem_cons.1 hx with e | hx
      · exact e
      · rcases List.mem_cons.1 hy with e | hy
        · exact e.symm
        · have a1 := p2.1 x hx
          have a2 := p1.1 y hy
          have := bl_asymm a1
          rw [a2] at this
          cases this
    subst hxy
    congr 1
    refine rise_ext p1.2 p2.2 (fun q => ?_)
    by_cases e : x.path = q
    · rw [find_none (fun y hy e2 => bl_ne (p1.1 y hy) (e.trans e2.symm)), find_none (fun y hy e2 => bl_ne (p2.1 y hy) (e.trans e2.symm))]
    · have := h q
      simpa [findE, e] using this

theorem Fit.bare {es : List En} (h : Fit es) {p : Bs} (hp : faultP p = 0) (hf : ∀ d ∈ es, d.path = p → dirK d.kind = false) : ∀ x ∈ es, belowB x.path p = false := by
  have : ∀ n, ∀ x ∈ es, x.path.length ≤ n → belowB x.path p = false := by
    intro n
    induction n with
    | zero =>
      intro x hx hl
      cases hb : belowB x.path p
      · rfl
      · have := below_len hb; omega
    | succ n ih =>
      intro x hx hl
      cases hb : belowB x.path p
      · rfl
      · exfalso
        obtain ⟨h0, h1⟩ := below_step (h.path hx) hp hb
        rcases homeP_iff.1 (h.home x hx) with h2 | ⟨d, hd, hdp, hdk⟩
        · exact h0 h2
        · rcases h1 with h1 | h1
          · rw [hf d hd (hdp.trans h1)] at hdk; cases hdk
          · have h3 := below_len (parent_above (h.path hx) h0).2
            have := ih d hd (by rw [hdp]; omega)
            rw [hdp, h1] at this; cases this
  exact fun x hx => this _ x hx (Nat.le_refl _)
theorem Fit.bare_find {es : List En} (h : Fit es) {p q : Bs} (hp : faultP p = 0) (hf : ∀ d ∈ es, d.path = p → dirK d.kind = false) (hb : belowB q p = true) : findE es q = none := by
  refine find_none (fun x hx e => ?_)
  have := h.bare hp hf x hx
  rw [e, hb] at this
  cases this
theorem Fit.up {es : List En} (h : Fit es) {p : Bs} {x : En} (hp : faultP p = 0) (hx : x ∈ es) (hb : belowB x.path p = true) : ∃ d ∈ es, d.path = p ∧ dirK d.kind = true := by
  by_cases hd : ∃ d ∈ es, d.path = p ∧ dirK d.kind = true
  · exact hd
  · exfalso
    have := h.bare hp (fun d hd1 hd2 => by
      cases hk : dirK d.kind
      · rfl
      · exact absurd ⟨d, hd1, hd2, hk⟩ hd) x hx
    rw [hb] at this
    cases this
theorem dir_bare {e : En} (h : entFault e = 0) (hk : e.kind ≠ 1) : e.size = 0 ∧ e.chunks = [] := by
  have hp := entFault_zero h
  have hf : formE e = true := by
    cases hf : formE e
    · rw [entFault_form hp hf] at h; cases h
    · rfl
  simp only [formE, decide_eq_true_eq] at hf
  rcases hf.2 with h1 | ⟨h1, h2⟩
  · exact absurd h1 hk
  · exact ⟨h1, List.length_eq_zero_iff.1 h2⟩
theorem ent_kinds {e : En} (h : entFault e = 0) : e.kind = 1 ∨ e.kind = 2 ∨ e.kind = 3 ∨ e.kind = 4 := by
  have hp := entFault_zero h
  have hf : formE e = true := by
    cases hf : formE e
    · rw [entFault_form hp hf] at h; cases h
    · rfl
  simp only [formE, decide_eq_true_eq] at hf
  omega
theorem dir_one {d e : En} (h1 : entFault d = 0) (h2 : entFault e = 0) (hp : d.path = e.path) (hk : d.kind = e.kind) (hn : e.kind ≠ 1) : d = e := by
  obtain ⟨a1, a2⟩ := dir_bare h1 (by rw [hk]; exact hn)
  obtain ⟨b1, b2⟩ := dir_bare h2 hn
  cases d; cases e; simp_all
def kindE (e : En) (k : Int) : En := { e with kind := k }
theorem ent_kind {e : En} {k : Int} (h : entFault e = 0) (hk : e.kind ≠ 1 ∨ (e.size = 0 ∧ e.chunks = [])) (h1 : 1 ≤ k) (h2 : k ≤ 4) : entFault (kindE e k) = 0 := by
  have hp := entFault_zero h
  obtain ⟨a1, a2⟩ : e.size = 0 ∧ e.chunks = [] := hk.elim (fun x => dir_bare h x) id
  have b1 : formE (kindE e k) = true := by simp [formE, kindE, a1, a2, h1, h2]
  have b2 : sizeE (kindE e k) = true := by simp [sizeE, kindE, a1]
  have b3 : manyE (kindE e k) = true := by simp [manyE, kindE, a1, a2]
  have b4 : (kindE e k).chunks.all isDig = true := by simp [kindE, a2]
  have b5 : faultP (kindE e k).path = 0 := hp
  rw [entFault_digs b5 b1 b2 b3, if_pos b4]

theorem mem_rest {t : List En} {p : Bs} {x : En} : x ∈ restE t p true ↔ x ∈ t ∧ x.path ≠ p ∧ belowB x.path p = false := by
  simp only [restE, goesE, List.mem_filter, Bool.not_eq_true', Bool.or_eq_false_iff, Bool.true_and, decide_eq_false_iff_not]
  exact ⟨fun h => ⟨h.1, h.2.2, h.2.1⟩, fun h => ⟨h.1, h.2.2, h.2.1⟩⟩
theorem find_rest (t : List En) (p q : Bs) : findE (restE t p true) q = if q = p then none else if belowB q p then none else findE t q := by
  have := find_filter t (fun y => !(belowB y p || (true && decide (y = p)))) q
  have e1 : restE t p true = t.filter (fun e => (fun y => !(belowB y p || (true && decide (y = p)))) e.path) := rfl
  rw [e1, this]
  by_cases h1 : q = p
  · simp [h1]
  · cases h2 : belowB q p <;> simp [h1]
theorem rest_rise {t : List En} (h : Rise t) (p : Bs) : Rise (restE t p true) := h.sublist List.filter_sublist
theorem rest_home {t : List En} (h : Fit t) {p : Bs} (hp : faultP p = 0) : ∀ x ∈ restE t p true, homeP (restE t p true) x.path = true := by
  intro x hx
  obtain ⟨hx, hn, hb⟩ := mem_rest.1 hx
  rw [homeP_iff]
  rcases homeP_iff.1 (h.home x hx) with h0 | ⟨d, hd, hdp, hdk⟩
  · exact .inl h0
  · by_cases h0 : parentP x.path = []
    · exact .inl h0
    · have hbx := (parent_above (h.path hx) h0).2
      rw [← hdp] at hbx
      refine .inr ⟨d, mem_rest.2 ⟨hd, fun e => ?_, ?_⟩, hdp, hdk⟩
      · rw [e, hb] at hbx; cases hbx
      · cases h3 : belowB d.path p
        · rfl
        · rw [below_trans hbx h3] at hb; cases hb
theorem rest_fit {t : List En} (h : Fit t) {p : Bs} (hp : faultP p = 0) : Fit (restE t p true) :=
  ⟨fun e he => h.ent e (mem_rest.1 he).1, rest_rise h.rise p, rest_home h hp⟩
theorem home_rest {t : List En} {p : Bs} (hp : faultP p = 0) (hh : homeP t p = true) : homeP (restE t p true) p = true := by
  rw [homeP_iff] at hh ⊢
  rcases hh with h0 | ⟨d, hd, hdp, hdk⟩
  · exact .inl h0
  · by_cases h0 : parentP p = []
    · exact .inl h0
    · have hb := (parent_above hp h0).2
      have hl := below_len hb
      refine .inr ⟨d, mem_rest.2 ⟨hd, fun e => ?_, ?_⟩, hdp, hdk⟩
      · rw [← hdp, e] at hl; omega
      · cases h3 : belowB d.path p
        · rfl
        · have := below_len h3; rw [hdp] at this; omega
theorem fit_place {t : List En} {e : En} (h : Fit t) (he : entFault e = 0) (hh : homeP t e.path = true) : Fit (putAt (restE t e.path true) e) := by
  have hp := entFault_zero he
  have hr := rest_fit h hp
  have hn : ∀ x ∈ restE t e.path true, x.path ≠ e.path := fun x hx => (mem_rest.1 hx).2.1
  have hmono : ∀ q, homeP (restE t e.path true) q = true → homeP (putAt (restE t e.path true) e) q = true := by
    intro q hq
    rw [homeP_iff] at hq ⊢
    rcases hq with h0 | ⟨d, hd, hd2⟩
    · exact .inl h0
    · exact .inr ⟨d, mem_putAt.2 (.inr hd), hd2⟩
  refine ⟨fun x hx => ?_, rise_putAt hr.rise hn, fun x hx => ?_⟩
  · rcases mem_putAt.1 hx with rfl | hx
    · exact he
    · exact hr.ent x hx
  · rcases mem_putAt.1 hx with rfl | hx
    · exact hmono _ (home_rest hp hh)
    · exact hmono _ (hr.home x hx)
theorem find_place (t : List En) (e : En) (q : Bs) : findE (putAt (restE t e.path true) e) q = if q = e.path then some e else if belowB q e.path then none else findE t q := by
  rw [find_putAt (fun x hx => (mem_rest.1 hx).2.1), find_rest]
  by_cases h : q = e.path
  · simp [h]
  · simp [h]

def asT (e : En) : En := if e.kind = 4 then kindE e 2 else e
theorem asT_path (e : En) : (asT e).path = e.path := by unfold asT; split <;> rfl
theorem asT_ent {e : En} (h : entFault e = 0) : entFault (asT e) = 0 := by
  unfold asT
  split
  · rename_i h4
    exact ent_kind h (.inl (by omega)) (by decide) (by decide)
  · exact h
theorem asT_kind {e : En} (h : entFault e = 0) (h3 : e.kind ≠ 3) : treeK (asT e).kind = true := by
  unfold asT
  rcases ent_kinds h with h1 | h1 | h1 | h1
  · simp [h1, treeK]
  · simp [h1, treeK]
  · exact absurd h1 h3
  · simp [h1, treeK, kindE]
theorem asT_dir {e : En} (hk : dirK e.kind = true) : (asT e).kind = 2 := by
  simp only [dirK, decide_eq_true_eq] at hk
  unfold asT
  rcases hk with hk | hk <;> simp [hk, kindE]
theorem asT_one {d e : En} (h1 : entFault d = 0) (h2 : entFault e = 0) (hp : d.path = e.path) (hd : dirK d.kind = true) (he : dirK e.kind = true) : asT d = asT e := by
  refine dir_one (asT_ent h1) (asT_ent h2) (by rw [asT_path, asT_path, hp]) (by rw [asT_dir hd, asT_dir he]) (by rw [asT_dir he]; decide)
def overE (t : List En) (e : En) : List En :=
  if e.kind = 3 then restE t e.path true else if e.kind = 2 ∧ hasDir t e.path = true then t else putAt (restE t e.path true) (asT e)
def mergeE (t L : List En) : List En := L.foldl overE t
theorem hasDir_iff {t : List En} {p : Bs} : hasDir t p = true ↔ ∃ d ∈ t, d.path = p ∧ dirK d.kind = true := by
  simp [hasDir]
theorem hasDir_not {t : List En} {p : Bs} (h : ¬ hasDir t p = true) : ∀ d ∈ t, d.path = p → dirK d.kind = false := by
  intro d hd hp
  cases hk : dirK d.kind
  · rfl
  · exact absurd (hasDir_iff.2 ⟨d, hd, hp, hk⟩) h
theorem FitT.dir {t : List En} (h : FitT t) {d : En} (hd : d ∈ t) (hk : dirK d.kind = true) : d.kind = 2 := by
  have h1 := h.kind d hd
  simp only [treeK, dirK, decide_eq_true_eq] at h1 hk
  omega
theorem place_asT (t : List En) (e : En) : putAt (restE t e.path true) (asT e) = putAt (restE t (asT e).path true) (asT e) := by rw [asT_path]
theorem find_over {t : List En} {e : En} (h : FitT t) (he : entFault e = 0) (q : Bs) :
    findE (overE t e) q = if q = e.path then (if e.kind = 3 then none else some (asT e)) else if (!decide (e.kind = 2)) && belowB q e.path then none else findE t q := by
  have hp := entFault_zero he
  unfold overE
  by_cases h3 : e.kind = 3
  · rw [if_pos h3, find_rest]
    have : (!decide (e.kind = 2)) = true := by simp [h3]
    rw [this, Bool.true_and, if_pos h3]
  · rw [if_neg h3, if_neg h3]
    by_cases hd : e.kind = 2 ∧ hasDir t e.path = true
    · rw [if_pos hd]
      have e1 : (!decide (e.kind = 2)) = false := by simp [hd.1]
      rw [e1, Bool.false_and, if_neg Bool.false_ne_true]
      by_cases hq : q = e.path
      · rw [if_pos hq]
        obtain ⟨d, hdm, hdp, hdk⟩ := hasDir_iff.1 hd.2
        have h2 := h.dir hdm hdk
        have e2 : asT e = e := by unfold asT; rw [if_neg (by omega)]
        rw [hq, ← hdp, rise_find h.fit.rise hdm, e2, dir_one (h.fit.ent d hdm) he hdp (by rw [h2, hd.1]) (by omega)]
      · rw [if_neg hq]
    · rw [if_neg hd, place_asT, find_place, asT_path]
      by_cases hq : q = e.path
      · rw [if_pos hq, if_pos hq]
      · rw [if_neg hq, if_neg hq]
        by_cases h2 : e.kind = 2
        · have e1 : (!decide (e.kind = 2)) = false := by simp [h2]
          rw [e1, Bool.false_and, if_neg Bool.false_ne_true]
          cases hb : belowB q e.path
          · simp
          · rw [if_pos rfl]
            exact (h.fit.bare_find hp (hasDir_not (fun x => hd ⟨h2, x⟩)) hb).symm
        · have e1 : (!decide (e.kind = 2)) = true := by simp [h2]
          rw [e1, Bool.true_and]
theorem fitT_over {t : List En} {e : En} (h : FitT t) (he : entFault e = 0) (hh : homeP t e.path = true) : FitT (overE t e) := by
  have hp := entFault_zero he
  unfold overE
  by_cases h3 : e.kind = 3
  · rw [if_pos h3]
    exact ⟨rest_fit h.fit hp, fun x hx => h.kind x (mem_rest.1 hx).1⟩
  · rw [if_neg h3]
    by_cases hd : e.kind = 2 ∧ hasDir t e.path = true
    · rw [if_pos hd]; exact h
    · rw [if_neg hd, place_asT]
      refine ⟨fit_place h.fit (asT_ent he) (by rw [asT_path]; exact hh), fun x hx => ?_⟩
      rcases mem_putAt.1 hx with rfl | hx
      · exact asT_kind he h3
      · exact h.kind x (mem_rest.1 hx).1
theorem putAt_length (bs : List En) (e : En) : (putAt bs e).length = bs.length + 1 := by
  unfold putAt
  simp only [List.length_append, List.length_cons, List.length_take, List.length_drop]
  omega
theorem over_len (t : List En) (e : En) : (overE t e).length ≤ t.length + 1 := by
  have := restE_len t e.path true
  unfold overE
  split
  · omega
  · split
    · omega
    · rw [putAt_length]; omega
theorem merge_len : ∀ (L t : List En), (mergeE t L).length ≤ t.length + L.length
  | [], t => by simp [mergeE]
  | e :: L, t => by
    have h1 := merge_len L (overE t e)
    have h2 := over_len t e
    have h3 : mergeE t (e :: L) = mergeE (overE t e) L := rfl
    rw [h3, List.length_cons]
    omega
def hid (L : List En) (q : Bs) : Bool := L.any fun e => (!decide (e.kind = 2)) && belowB q e.path
theorem hid_snoc (D : List En) (e : En) (q : Bs) : hid (D ++ [e]) q = (hid D q || ((!decide (e.kind = 2)) && belowB q e.path)) := by
  simp [hid, List.any_append]
theorem hid_iff {L : List En} {q : Bs} : hid L q = true ↔ ∃ e ∈ L, e.kind ≠ 2 ∧ belowB q e.path = true := by
  simp [hid]
def seeT (t L : List En) (q : Bs) : Option En :=
  match findE L q with
  | some e => if e.kind = 3 then none else some (asT e)
  | none => if hid L q then none else findE t q
theorem seeT_some {t L : List En} {q : Bs} {e : En} (h : findE L q = some e) : seeT t L q = if e.kind = 3 then none else some (asT e) := by simp [seeT, h]
theorem seeT_none {t L : List En} {q : Bs} (h : findE L q = none) : seeT t L q = if hid L q then none else findE t q := by simp [seeT, h]
theorem lay_step {L : List En} {k : Nat} {e : En} (hL : Fit L) (he : L[k]? = some e) :
    (∀ x ∈ L.take k, Op.bytesLess x.path e.path = true) ∧ (parentP e.path = [] ∨ ∃ d ∈ L.take k, d.path = parentP e.path ∧ dirK d.kind = true) := by
  have hem := List.mem_of_getElem? he
  obtain ⟨hk, hke⟩ := List.getElem?_eq_some_iff.1 he
  have hs : L = L.take k ++ e :: L.drop (k + 1) := by
    conv => lhs; rw [← List.take_append_drop k L, List.drop_eq_getElem_cons hk, hke]
  have hr := hL.rise
  unfold Rise at hr
  rw [hs, List.pairwise_append] at hr
  refine ⟨fun x hx => hr.2.2 x hx e List.mem_cons_self, ?_⟩
  rcases homeP_iff.1 (hL.home e hem) with h0 | ⟨d, hd, hdp, hdk⟩
  · exact .inl h0
  · by_cases h0 : parentP e.path = []
    · exact .inl h0
    · have hb := below_less (parent_above (hL.path hem) h0).2
      rw [← hdp] at hb
      rw [hs] at hd
      rcases List.mem_append.1 hd with hd | hd
      · exact .inr ⟨d, hd, hdp, hdk⟩
      · exfalso
        rcases List.mem_cons.1 hd with rfl | hd
        · rw [bl_irrefl] at hb; cases hb
        · have := bl_asymm ((List.pairwise_cons.1 hr.2.1).1 d hd)
          rw [hb] at this; cases this
theorem take_next {L : List En} {k : Nat} {e : En} (he : L[k]? = some e) : L.take (k + 1) = L.take k ++ [e] := by
  rw [List.take_add_one, he]; rfl
theorem merge_view {t L : List En} (ht : FitT t) (hL : Fit L) : ∀ k, k ≤ L.length → FitT (mergeE t (L.take k)) ∧ ∀ q, findE (mergeE t (L.take k)) q = seeT t (L.take k) q
  | 0, _ => by
    refine ⟨by simpa [mergeE] using ht, fun q => ?_⟩
    simp [mergeE, seeT, findE, hid]
  | k + 1, hk => by
    obtain ⟨e, he⟩ : ∃ e, L[k]? = some e := ⟨_, List.getElem?_eq_getElem (by omega)⟩
    obtain ⟨ih1, ih2⟩ := merge_view ht hL k (by omega)
    obtain ⟨hlt, hho⟩ := lay_step hL he
    have hee := hL.ent e (List.mem_of_getElem? he)
    have hrD : Rise (L.take k) := hL.rise.sublist (List.take_sublist _ _)
    have hne : ∀ x ∈ L.take k, x.path ≠ e.path := fun x hx => bl_ne (hlt x hx)
    have hm : mergeE t (L.take (k + 1)) = overE (mergeE t (L.take k)) e := by rw [take_next he]; simp [mergeE, List.foldl_append]
    rw [hm, take_next he]
    generalize L.take k = D at *
    have hhome : homeP (mergeE t D) e.path = true := by
      rw [homeP_iff]
      rcases hho with h0 | ⟨d, hd, hdp, hdk⟩
      · exact .inl h0
      · have h1 := ih2 d.path
        rw [seeT_some (rise_find hrD hd)] at h1
        have hd3 : d.kind ≠ 3 := by intro e3; rw [e3] at hdk; cases hdk
        rw [if_neg hd3] at h1
        exact .inr ⟨asT d, (find_mem h1).1, by rw [asT_path, hdp], by rw [asT_dir hdk]; rfl⟩
    refine ⟨fitT_over ih1 hee hhome, fun q => ?_⟩
    rw [find_over ih1 hee, ih2 q]
    by_cases hq : q = e.path
    · rw [if_pos hq, seeT_some (e := e) (by rw [find_snoc hne, if_pos hq])]
    · rw [if_neg hq]
      have hf : findE (D ++ [e]) q = findE D q := by rw [find_snoc hne, if_neg hq]
      cases hD : findE D q with
      | some x =>
        have hx := find_mem hD
        have hb := not_below_of_less (hlt x hx.1)
        rw [hx.2] at hb
        rw [hb, Bool.and_false, if_neg (by simp), seeT_some hD, seeT_some (hf.trans hD)]
      | none =>
        rw [seeT_none hD, seeT_none (hf.trans hD), hid_snoc]
        cases (!decide (e.kind = 2)) && belowB q e.path <;> cases hid D q <;> simp
theorem merge_fit {t L : List En} (ht : FitT t) (hL : Fit L) : FitT (mergeE t L) := by
  have := (merge_view ht hL L.length (Nat.le_refl _)).1
  rwa [List.take_length] at this
theorem merge_find {t L : List En} (ht : FitT t) (hL : Fit L) (q : Bs) : findE (mergeE t L) q = seeT t L q := by
  have := (merge_view ht hL L.length (Nat.le_refl _)).2 q
  rwa [List.take_length] at this

end Go.Proofs.YtolnlfnndnpiiaaGreat

namespace Go.Proofs.YtolnlfnndnpiiaaGreat
set_option linter.unusedVariables false

def hideAt (es : List En) (q : Bs) : Bool := (findE es q).any fun e => !decide (e.kind = 2)
def rankE (es : List En) (q : Bs) : Int :=
  match findE es q with
  | some e => if e.kind = 3 ∨ e.kind = 1 then 2 else if e.kind = 4 then 1 else 0
  | none => 0
def overN (es : List En) (ups : List Bs) : Int := if ups.any (fun u => decide (rankE es u = 2)) then 2 else if ups.any (fun u => decide (rankE es u = 1)) then 1 else 0
def hidN (es : List En) (p : Bs) : Int := if overN es (above p) = 2 ∨ rankE es p = 2 then 2 else if overN es (above p) = 1 ∨ rankE es p = 1 then 1 else 0

theorem rank_none {es : List En} {q : Bs} (h : findE es q = none) : rankE es q = 0 := by simp [rankE, h]
theorem rank_two {es : List En} {q : Bs} {e : En} (h : findE es q = some e) (hk : e.kind = 3 ∨ e.kind = 1) : rankE es q = 2 := by simp only [rankE, h]; rw [if_pos hk]
theorem rank_one {es : List En} {q : Bs} {e : En} (h : findE es q = some e) (hk : e.kind = 4) : rankE es q = 1 := by simp [rankE, h, hk]
theorem rank_dir {es : List En} {q : Bs} {e : En} (h : findE es q = some e) (h1 : e.kind ≠ 1) (h3 : e.kind ≠ 3) (h4 : e.kind ≠ 4) : rankE es q = 0 := by simp [rankE, h, h1, h3, h4]
theorem rank_hide {es : List En} (h : Right es) (q : Bs) : hideAt es q = decide (rankE es q ≠ 0) := by
  cases hf : findE es q with
  | none => simp [hideAt, rankE, hf]
  | some e =>
    have he := (find_mem hf).1
    rcases ent_kinds (h.ent e he) with hk | hk | hk | hk <;> simp [hideAt, rankE, hf, hk]
theorem rank_cases (es : List En) (q : Bs) : rankE es q = 0 ∨ rankE es q = 1 ∨ rankE es q = 2 := by
  unfold rankE
  split
  · split
    · exact Or.inr (Or.inr rfl)
    · split
      · exact Or.inr (Or.inl rfl)
      · exact Or.inl rfl
  · exact Or.inl rfl
theorem over_cases (es : List En) (ups : List Bs) : overN es ups = 0 ∨ overN es ups = 1 ∨ overN es ups = 2 := by
  unfold overN
  split
  · exact Or.inr (Or.inr rfl)
  · split
    · exact Or.inr (Or.inl rfl)
    · exact Or.inl rfl
theorem over_zero {es : List En} {ups : List Bs} : overN es ups ≠ 0 ↔ ∃ u ∈ ups, rankE es u ≠ 0 := by
  unfold overN
  constructor
  · intro h
    split at h
    · rename_i h2
      obtain ⟨u, hu, hr⟩ := List.any_eq_true.1 h2
      exact ⟨u, hu, by have := of_decide_eq_true hr; omega⟩
    · split at h
      · rename_i h2
        obtain ⟨u, hu, hr⟩ := List.any_eq_true.1 h2
        exact ⟨u, hu, by have := of_decide_eq_true hr; omega⟩
      · exact absurd rfl h
  · rintro ⟨u, hu, hr⟩
    rcases rank_cases es u with h | h | h
    · exact absurd h hr
    · split
      · omega
      · rw [if_pos (List.any_eq_true.2 ⟨u, hu, decide_eq_true h⟩)]; omega
    · rw [if_pos (List.any_eq_true.2 ⟨u, hu, decide_eq_true h⟩)]; omega
theorem over_take_two {es : List En} {ups : List Bs} {k : Nat} {u : Bs} (hu : ups[k]? = some u) (h : rankE es u = 2) : overN es ups = 2 := by
  unfold overN
  rw [if_pos (List.any_eq_true.2 ⟨u, List.mem_of_getElem? hu, decide_eq_true h⟩)]
theorem take_at {α : Type} {l : List α} {k : Nat} {x : α} (h : l[k]? = some x) : l.take (k + 1) = l.take k ++ [x] := by rw [List.take_add_one, h]; rfl
theorem over_take {es : List En} {ups : List Bs} {k : Nat} {u : Bs} (hu : ups[k]? = some u) (h2 : overN es (ups.take k) ≠ 2) (h : rankE es u ≠ 2) : overN es (ups.take (k + 1)) = if rankE es u = 1 then 1 else overN es (ups.take k) := by
  rw [take_at hu]
  unfold overN at h2 ⊢
  simp only [List.any_append, List.any_cons, List.any_nil, Bool.or_false, h, decide_false]
  split at h2
  · exact absurd rfl h2
  · rename_i h3
    simp only [h3, Bool.false_eq_true, if_false]
    by_cases h4 : rankE es u = 1
    · simp [h4]
    · simp [h4]
theorem over_take_ne {es : List En} {ups : List Bs} {k : Nat} {u : Bs} (hu : ups[k]? = some u) (h2 : overN es (ups.take k) ≠ 2) (h : rankE es u ≠ 2) : overN es (ups.take (k + 1)) ≠ 2 := by
  rw [over_take hu h2 h]
  split
  · omega
  · exact h2
end Go.Proofs.YtolnlfnndnpiiaaGreat

namespace Go.Proofs.YtolnlfnndnpiiaaGreat
open Go.RowKit Go.Maps
set_option linter.unusedVariables false
attribute [local go_sem ↓] Go.wp_at_zero Go.wp_at_succ

def RdL (w : World) (a : Option Addr) (ls : List (List En)) : Prop :=
  ls ≠ [] → ∃ (b off : Nat) (A : Nat → Option Addr) (C : Nat → Nat), a = some ⟨b, off, none⟩ ∧ b < w.heap.size ∧ ∀ i es, ls[i]? = some es → w.cell? ⟨b, off + i, none⟩ = some (.slice (A i) es.length (C i)) ∧ RdE w (A i) es
theorem RdL.below {w w' : World} {a : Option Addr} {ls : List (List En)} (h : RdL w a ls) (hk : Below w.heap.size w w') : RdL w' a ls := by
  intro hz
  obtain ⟨b, off, A, C, e, hb, hc⟩ := h hz
  refine ⟨b, off, A, C, e, Nat.lt_of_lt_of_le hb hk.size, fun i es hx => ?_⟩
  obtain ⟨c0, r⟩ := hc i es hx
  exact ⟨(hk.cell (p := ⟨b, off + i, none⟩) hb).trans c0, r.below hk⟩
theorem RdL.at {w : World} {a : Option Addr} {ls : List (List En)} (h : RdL w a ls) {k : Nat} (hk : k < ls.length) :
    ∃ b off es x c, a = some ⟨b, off, none⟩ ∧ b < w.heap.size ∧ ls[k]? = some es ∧ w.cell? ⟨b, off + k, none⟩ = some (.slice x es.length c) ∧ RdE w x es := by
  obtain ⟨b, off, A, C, e, hb, hc⟩ := h (by intro e; simp [e] at hk)
  have hx : ls[k]? = some ls[k] := List.getElem?_eq_getElem hk
  obtain ⟨c0, r⟩ := hc k _ hx
  exact ⟨b, off, ls[k], A k, C k, e, hb, hx, c0, r⟩
def seeL (ls : List (List En)) (i : Nat) (p : Bs) : Option En := (ls[i]?).bind fun es => findE es p
end Go.Proofs.YtolnlfnndnpiiaaGreat

namespace Go.Proofs.YtolnlfnndnpiiaaGreat
open Go.RowKit Go.Maps
set_option linter.unusedVariables false
attribute [local go_sem ↓] Go.wp_at_zero Go.wp_at_succ

theorem find_at_none {es : List En} {p : Bs} (h : atE es p = none) : findE es p = none := by rw [atE_find, h]; rfl
theorem find_at_some {es : List En} {p : Bs} {k : Nat} (h : atE es p = some k) : ∃ e, es[k]? = some e ∧ findE es p = some e := by
  have hk := atE_lt h
  obtain ⟨e, he⟩ : ∃ e, es[k]? = some e := ⟨_, List.getElem?_eq_getElem hk⟩
  exact ⟨e, he, by rw [atE_find, h]; exact he⟩
theorem above_small {p : Bs} (hp : faultP p = 0) : ∀ u ∈ above p, u.length ≤ p.length := by
  intro u hu
  have hb : isBelow p u = true := by simpa [isBelow] using hu
  rw [isBelow_good hp] at hb
  have := below_len (of_decide_eq_true hb).2
  omega
set_option maxRecDepth 100000 in
set_option maxHeartbeats 6400000 in
theorem l8Over_any (a : Option Addr) (c n : Nat) (es : List En) (p : Bs) (w : World) (h : RdE w a es) (hn : n = es.length) (hl : es.length ≤ 1048576) (hp : faultP p = 0) (hpl : p.length ≤ 1048576) :
    Calls Tryz.prog 248 #[.slice a n c, .string (str p)] w fun r w' => r = .returned (.int .i64 (overN es (above p))) ∧ Below w.heap.size w w' := by
  subst hn
  have HR := hide h
  have hsz := str_size p
  have h1 : 1 ≤ (str p).size := faultP_pos (by rw [str_data]; exact hp)
  have HU := hide (show aboveN (cutB (str p).data.toList.tail) = above p from by rw [str_data, above_good hp])
  have HUl := hide (above_len p)
  clear h hp
  generalize above p = ups at *
  go_enter Tryz.func248, Tryz.ntmps248
  go_wp2_with fail
  refine (l3Above_any (str p) _ h1 (by omega)).mono ?_
  rintro r w1 ⟨v, rfl, ho, hb1⟩
  rw [HU.out] at ho
  obtain ⟨av, cv, rfl⟩ := ownsRow_shape ho
  have RU := hide (OwnS.reads ho)
  have B1 := hide hb1
  clear ho hb1 HU
  go_wp2_with fail
  go_loopw [5, 7] (fun v i wr => ∃ k : Nat, k ≤ ups.length ∧ v = .int .i64 (overN es (ups.take k)) ∧ i = .int .i64 k ∧ Hid (overN es (ups.take k) ≠ 2) ∧ Hid (Below w1.heap.size w1 wr)) (fun _ i _ => ups.length - (intOf i).toNat)
  case atStart => exact ⟨0, Nat.zero_le _, rfl, rfl, hide (by simp [overN]), hide (Below.refl _ _)⟩
  case round =>
    obtain ⟨k, hk, rfl, rfl, HN2, HW⟩ := hrel
    have hul := HUl.out
    by_cases hlt : k < ups.length
    · obtain ⟨b, off, rfl, hb, hc⟩ := (RU.out.below HW.out) (by intro e; simp [e] at hlt)
      have q0 := hc k hlt
      have hx : ups[k]? = some (ups.getD k []) := by rw [List.getD_eq_getElem?_getD, List.getElem?_eq_getElem hlt]; rfl
      clear hc
      generalize ups.getD k [] = u at *
      have HX := hide hx
      clear hx
      have HE := hide ((HR.out.below B1.out).below HW.out)
      have HAT := hide (l4At_any a c es.length es u wr HE.out rfl hl)
      cases ha : atE es u with
      | none =>
        have HZ := hide (over_take HX.out HN2.out (by rw [rank_none (find_at_none ha)]; decide))
        have HZ2 := hide (over_take_ne HX.out HN2.out (by rw [rank_none (find_at_none ha)]; decide))
        rw [rank_none (find_at_none ha)] at HZ
        rw [ha] at HAT
        have e1 : placeI none = -1 := rfl
        rw [e1] at HAT
        clear ha e1
        go_wp2_with fail
        refine HAT.out.mono ?_
        rintro r w2 ⟨rfl, rfl⟩
        clear q0
        go_wp2_with fail
        go_roundw
        case rel => exact ⟨k + 1, by omega, by rw [HZ.out]; rfl, by go_num, HZ2, HW⟩
        case measure => simp [intOf]; omega
      | some m =>
        obtain ⟨e, he, hf⟩ := find_at_some ha
        have hm := atE_lt ha
        rw [ha] at HAT
        have e1 : placeI (some m) = (m : Int) := rfl
        rw [e1] at HAT
        obtain ⟨bb, off2, e', x, cc, rfl, hb2, he', c0, c1, c2, c3, hr⟩ := HE.out.at hm
        have : e' = e := Option.some.inj (he'.symm.trans he)
        subst this
        have hk0 : ¬ (m : Int) < 0 := by omega
        have hk2 : (0 : Int) ≤ (m : Int) := by omega
        have hk1 : (m : Int) < (es.length : Int) := by omega
        clear ha e1 he he' hr c0 c2 c3
        by_cases h3 : e'.kind = 3
        · have HZ := hide (over_take_two HX.out (rank_two hf (Or.inl h3)))
          have h3' : (e'.kind == 3) = true := by simpa using h3
          clear h3 hf
          go_wp2_with fail
          refine HAT.out.mono ?_
          rintro r w2 ⟨rfl, rfl⟩
          go_wp2_with fail
          go_ret
          exact ⟨by rw [HZ.out]; rfl, below_next B1.out HW.out⟩
        · have h3' : (e'.kind == 3) = false := by simpa using h3
          by_cases h1k : e'.kind = 1
          · have HZ := hide (over_take_two HX.out (rank_two hf (Or.inr h1k)))
            have h1' : (e'.kind == 1) = true := by simpa using h1k
            clear h3 h1k hf
            go_wp2_with fail
            refine HAT.out.mono ?_
            rintro r w2 ⟨rfl, rfl⟩
            go_wp2_with fail
            go_ret
            exact ⟨by rw [HZ.out]; rfl, below_next B1.out HW.out⟩
          · have h1' : (e'.kind == 1) = false := by simpa using h1k
            by_cases h4 : e'.kind = 4
            · have hrk := rank_one hf h4
              have HZ := hide (over_take HX.out HN2.out (by rw [hrk]; decide))
              have HZ2 := hide (over_take_ne HX.out HN2.out (by rw [hrk]; decide))
              rw [hrk] at HZ
              have h4' : (e'.kind == 4) = true := by simpa using h4
              clear h3 h1k h4 hf hrk
              go_wp2_with fail
              refine HAT.out.mono ?_
              rintro r w2 ⟨rfl, rfl⟩
              go_wp2_with fail
              go_roundw
              case rel => exact ⟨k + 1, by omega, by rw [HZ.out]; rfl, by go_num, HZ2, HW⟩
              case measure => simp [intOf]; omega
            · have h4' : (e'.kind == 4) = false := by simpa using h4
              have hrk := rank_dir hf h1k h3 h4
              have HZ := hide (over_take HX.out HN2.out (by rw [hrk]; decide))
              have HZ2 := hide (over_take_ne HX.out HN2.out (by rw [hrk]; decide))
              rw [hrk] at HZ
              clear h3 h1k h4 hf hrk
              go_wp2_with fail
              refine HAT.out.mono ?_
              rintro r w2 ⟨rfl, rfl⟩
              go_wp2_with fail
              go_roundw
              case rel => exact ⟨k + 1, by omega, by rw [HZ.out]; rfl, by go_num, HZ2, HW⟩
              case measure => simp [intOf]; omega
    · have HE := hide (show ups.take k = ups from List.take_of_length_le (by omega))
      go_wp2_with fail
      go_ret
      exact ⟨by rw [HE.out]; rfl, below_next B1.out HW.out⟩
end Go.Proofs.YtolnlfnndnpiiaaGreat

namespace Go.Proofs.YtolnlfnndnpiiaaGreat
open Go.RowKit Go.Maps
set_option linter.unusedVariables false
attribute [local go_sem ↓] Go.wp_at_zero Go.wp_at_succ

def lsFrom : List (List En) → Int
  | [] => 0
  | es :: r => if layFaultP es = 0 then lsFrom r else layFaultP es
def layersP (ls : List (List En)) : Int := if 4 < ls.length then 2 else lsFrom ls
theorem lsFrom_zero : ∀ {ls : List (List En)}, lsFrom ls = 0 ↔ ∀ es ∈ ls, Right es
  | [] => by simp [lsFrom]
  | es :: r => by
    have ih := lsFrom_zero (ls := r)
    unfold lsFrom
    by_cases h : layFaultP es = 0
    · rw [if_pos h, ih]
      simp [right_P.1 h]
    · rw [if_neg h]
      constructor
      · intro h2; exact absurd h2 h
      · intro h2; exact absurd (right_P.2 (h2 es (by simp))) h
theorem layersP_zero {ls : List (List En)} : layersP ls = 0 ↔ ls.length ≤ 4 ∧ ∀ es ∈ ls, Right es := by
  unfold layersP
  by_cases h : 4 < ls.length
  · rw [if_pos h]; constructor
    · intro h2; cases h2
    · intro h2; omega
  · rw [if_neg h, lsFrom_zero]; constructor
    · intro h2; exact ⟨by omega, h2⟩
    · intro h2; exact h2.2
theorem lsFrom_bad {ls : List (List En)} {k : Nat} {es : List En} (he : ls[k]? = some es) (hf : layFaultP es ≠ 0) : lsFrom (ls.drop k) = layFaultP es := by
  obtain ⟨hk, hx⟩ := List.getElem?_eq_some_iff.1 he
  rw [List.drop_eq_getElem_cons hk, hx]
  simp [lsFrom, hf]
theorem lsFrom_next {ls : List (List En)} {k : Nat} {es : List En} (he : ls[k]? = some es) (hf : layFaultP es = 0) : lsFrom (ls.drop k) = lsFrom (ls.drop (k + 1)) := by
  obtain ⟨hk, hx⟩ := List.getElem?_eq_some_iff.1 he
  rw [List.drop_eq_getElem_cons hk, hx]
  simp [lsFrom, hf]
def SmallL (ls : List (List En)) : Prop := ∀ es ∈ ls, es.length ≤ 1048576 ∧ SmallE es

set_option maxRecDepth 100000 in
set_option maxHeartbeats 3200000 in
theorem implLayersFault_any (a : Option Addr) (c n : Nat) (ls : List (List En)) (w : World) (h : RdL w a ls) (hn : n = ls.length) (hl : ls.length ≤ 1048576) (hs : SmallL ls) :
    Calls Tryz.prog 49 #[.slice a n c] w fun r w' => r = .returned (.int .i64 (layersP ls)) ∧ Below w.heap.size w w' := by
  subst hn
  have HR := hide h
  have HS := hide hs
  clear h hs
  by_cases h4 : 4 < ls.length
  · have HZ := hide (show layersP ls = 2 by simp [layersP, h4])
    have h4' : (4 : Int) < (ls.length : Int) := by omega
    go_enter Tryz.func49, Tryz.ntmps49
    go_wp2_with fail
    go_ret
    exact ⟨by rw [HZ.out]; rfl, Below.refl _ _⟩
  · have HZ := hide (show layersP ls = lsFrom (ls.drop 0) by simp [layersP, h4])
    have h4' : ¬ (4 : Int) < (ls.length : Int) := by omega
    clear h4
    generalize layersP ls = V at *
    go_enter Tryz.func49, Tryz.ntmps49
    go_wp2_with fail
    go_loopw [11] (fun i wr => ∃ k : Nat, k ≤ ls.length ∧ i = .int .i64 k ∧ Hid (V = lsFrom (ls.drop k)) ∧ Hid (Below w.heap.size w wr)) (fun i _ => ls.length - (intOf i).toNat)
    case atStart => exact ⟨0, Nat.zero_le _, rfl, HZ, hide (Below.refl _ _)⟩
    case round =>
      obtain ⟨k, hk, rfl, HV, HW⟩ := hrel
      by_cases hlt : k < ls.length
      · obtain ⟨b, off, es, x, cc, rfl, hb, he, c0, hr⟩ := (HR.out.below HW.out).at hlt
        obtain ⟨hel, hsm⟩ := HS.out es (List.mem_of_getElem? he)
        have HLF := hide (implLayerFault_any x cc es.length es wr hr rfl (by omega) hsm)
        have HX := hide he
        clear he hr hsm
        by_cases hf : layFaultP es = 0
        · have HN := hide (HV.out.trans (lsFrom_next HX.out hf))
          rw [hf] at HLF
          clear hf
          go_wp2_with fail
          refine HLF.out.mono ?_
          rintro r w1 ⟨rfl, hb1⟩
          have B1 := hide (below_next HW.out hb1)
          clear hb1 c0
          go_wp2_with fail
          go_roundw
          case rel => exact ⟨k + 1, by omega, by go_num, HN, B1⟩
          case measure => simp [intOf]; omega
        · have HN := hide (HV.out.trans (lsFrom_bad HX.out hf))
          generalize layFaultP es = F at *
          have hf2 : (F != 0) = true := by simp; exact hf
          clear hf
          go_wp2_with fail
          refine HLF.out.mono ?_
          rintro r w1 ⟨rfl, hb1⟩
          have B1 := hide (below_next HW.out hb1)
          clear hb1 c0
          go_wp2_with fail
          go_ret
          exact ⟨by rw [HN.out]; rfl, B1.out⟩
      · have HN := hide (show V = 0 by rw [HV.out, List.drop_eq_nil_of_le (by omega)]; rfl)
        go_wp2_with fail
        go_ret
        exact ⟨by rw [HN.out]; rfl, HW.out⟩
def seenG (S : Nat → Bs → Option En) (p : Bs) : Nat → Option Nat
  | 0 => none
  | n + 1 => match S n p with
    | some e => if e.kind = 3 then none else some n
    | none => if (above p).any (fun q => (S n q).any fun e => !decide (e.kind = 2)) then none else seenG S p n
theorem seen_hit {S : Nat → Bs → Option En} {p : Bs} {n : Nat} {e : En} (h : S n p = some e) : seenG S p (n + 1) = if e.kind = 3 then none else some n := by simp [seenG, h]
theorem seen_hid {S : Nat → Bs → Option En} {p : Bs} {n : Nat} (h : S n p = none) (hh : ((above p).any fun q => (S n q).any fun e => !decide (e.kind = 2)) = true) : seenG S p (n + 1) = none := by simp [seenG, h, hh]
theorem seen_down {S : Nat → Bs → Option En} {p : Bs} {n : Nat} (h : S n p = none) (hh : ((above p).any fun q => (S n q).any fun e => !decide (e.kind = 2)) = false) : seenG S p (n + 1) = seenG S p n := by simp [seenG, h, hh]
end Go.Proofs.YtolnlfnndnpiiaaGreat

