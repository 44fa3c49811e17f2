/-
  Texts put together: TreB TreM TreR EntH TreN TreC EntY EntT Draw DrawP DrawS DrawE.
-/
import Derived.Test.YtolnlfnndnpiiaaGreatKGrows7
import Derived.Test.YtolnlfnndnpiiaaGreatKGrows3
import Derived.Shelf.Abstract
import Derived.Test.YtolnlfnndnpiiaaGreatKGrows2
import Derived.Test.YtolnlfnndnpiiaaGreatKGrows1
import Derived.Test.YtolnlfnndnpiiaaGreatKGrows4
import Derived.Test.YtolnlfnndnpiiaaGreatKGrows5
import Derived.Test.YtolnlfnndnpiiaaGreatKGrows8
import Derived.Test.YtolnlfnndnpiiaaGreatKGrows6
namespace Go.Proofs.YtolnlfnndnpiiaaGreat
open Go.RowKit Go.Maps
set_option linter.unusedVariables false
attribute [local go_sem ↓] Go.wp_at_zero Go.wp_at_succ

set_option maxRecDepth 100000 in
set_option maxHeartbeats 1600000 in
theorem hasI_any (a : Option Addr) (c n : Nat) (es : List En) (fn : FuncId) (cap : Array Value) (f : En → Bool) (w : World) (h : RdI w a es) (hn : n = es.length) (hl : es.length ≤ 1048576) (hs : SmallE es) (hf : Asks w fn cap f) :
    Calls Tryz.prog 128 #[.slice a n c, .func (.func fn) #[] cap] w fun r w' => r = .returned (.bool (es.any f)) ∧ Below w.heap.size w w' := by
  subst hn
  have HC := hide (first_any a c es.length es fn cap f w h rfl hl hs hf)
  clear h hf hs
  go_enter Tryz.func128, Tryz.ntmps128
  go_wp2_with fail
  refine HC.out.mono ?_
  rintro r w1 ⟨(⟨e, x, cc, hq, rfl, -⟩ | ⟨hq, rfl⟩), hb1⟩
  · have HA := hide (show es.any f = true from List.any_eq_true.2 ⟨e, List.mem_of_find?_eq_some hq, List.find?_some hq⟩)
    have B1 := hide hb1
    clear hb1 hq
    go_wp2_with fail
    go_ret
    exact ⟨ret_bool HA.out.symm, below_next B1.out (below_alloc _ _)⟩
  · have HA := hide (show es.any f = false from List.any_eq_false.2 (fun x hx => List.find?_eq_none.1 hq x hx))
    have B1 := hide hb1
    clear hb1 hq
    go_wp2_with fail
    go_ret
    exact ⟨ret_bool HA.out.symm, below_next B1.out (below_alloc _ _)⟩

theorem filter_in {es : List En} {f : En → Bool} {k : Nat} {e : En} (he : es[k]? = some e) (h : f e = true) : (es.take (k + 1)).filter f = (es.take k).filter f ++ [e] := by
  rw [take_snoc_at he, List.filter_append]; simp [h]
theorem filter_out {es : List En} {f : En → Bool} {k : Nat} {e : En} (he : es[k]? = some e) (h : f e = false) : (es.take (k + 1)).filter f = (es.take k).filter f := by
  rw [take_snoc_at he, List.filter_append]; simp [h]

set_option maxRecDepth 100000 in
set_option maxHeartbeats 3200000 in
theorem those_any (a : Option Addr) (c n : Nat) (es : List En) (fn : FuncId) (cap : Array Value) (f : En → Bool) (w : World) (h : RdI w a es) (hn : n = es.length) (hl : es.length ≤ 1048576) (hs : SmallE es) (hf : Asks w fn cap f) :
    Calls Tryz.prog 180 #[.slice a n c, .func (.func fn) #[] cap] w fun r w' => ∃ av cv, r = .returned (.slice av (es.filter f).length cv) ∧ LI w w' (.slice av (es.filter f).length cv) (es.filter f) ∧ Below w.heap.size w w' := by
  subst hn
  obtain ⟨i1, ki, kz0, kz1, kz2⟩ := info_parts Tryz.infoIt
  have eg := hf.1
  have HF := hide hf
  have HR := hide h
  have HS := hide hs
  clear h hf hs
  go_enter Tryz.func180, Tryz.ntmps180
  go_wp2_with fail
  go_loopw [5, 10] (fun v i wr => ∃ k : Nat, k ≤ es.length ∧ i = .int .i64 k ∧ Hid (LI w wr v ((es.take k).filter f)) ∧ Hid (Below w.heap.size w wr)) (fun _ i _ => es.length - (intOf i).toNat)
  case atStart => exact ⟨0, Nat.zero_le _, rfl, hide (LI.nil _ _), hide (Below.refl _ _)⟩
  case round =>
    obtain ⟨k, hk, rfl, HL, HW⟩ := hrel
    have hsz := HW.out.size
    obtain ⟨lv, lc, hv⟩ := HL.out.shape
    subst hv
    have hrl := List.length_filter_le f (es.take k)
    rw [List.length_take] at hrl
    by_cases hlt : k < es.length
    · obtain ⟨b, off, e, x, cc, rfl, hb, he, c0, c1, c2, c3, hr⟩ := (HR.out.below HW.out).at hlt
      obtain ⟨b', off', e', x', cc', hbb, hb', he', d0, d1, d2, d3, hr'⟩ := HR.out.at hlt
      simp only [Option.some.injEq, Addr.mk.injEq, and_true] at hbb
      obtain ⟨rfl, rfl⟩ := hbb
      have : e' = e := Option.some.inj (he'.symm.trans he)
      subst this
      have d1' := (HW.out.cell (p := ⟨b, off + k * 4 + 1, none⟩) hb').trans d1
      rw [c1] at d1'
      simp only [Option.some.injEq, Value.slice.injEq, true_and] at d1'
      obtain ⟨rfl, rfl⟩ := d1'
      have hsm := HS.out e' (List.mem_of_getElem? he)
      have HX := hide he
      have HRc := hide hr'
      clear he hr hr' he' d0 d1 d2 d3
      have BA := hide (below_alloc wr (.cells #[.int .i64 e'.size, .slice x e'.chunks.length cc, .string (str e'.path), .int .i64 e'.kind] 88))
      have F4 := hide (Four.new wr (.int .i64 e'.size) (.slice x e'.chunks.length cc) (.string (str e'.path)) (.int .i64 e'.kind) 88)
      go_wp2_with fail
      refine (HF.out.2 e' x cc _ hsm.1 hsm.2 (HRc.out.below (below_next HW.out BA.out)) (below_next HW.out BA.out)).mono ?_
      rintro r w3 ⟨rfl, hb3⟩
      have BB5 := hide (below_next BA.out hb3)
      obtain ⟨f0, f1, f2, f3⟩ := F4.out.below hb3
      clear hb3 c0 c1 c2 c3
      cases hq : f e'
      · have HN := hide (filter_out HX.out hq)
        clear hq
        go_wp2_with fail
        go_roundw
        case rel => exact ⟨k + 1, by omega, by go_num, hide (by rw [HN.out]; exact HL.out.below BB5.out), hide (below_next HW.out BB5.out)⟩
        case measure => simp [intOf]; omega
      · have HN := hide (filter_in HX.out hq)
        clear hq
        obtain ⟨rs, g1, g2, g3⟩ := HL.out
        have G1 := hide g1
        have G2 := hide (ownsRow_below g2 BB5.out)
        have G3 := hide g3
        clear g1 g2 g3
        obtain ⟨L, hL⟩ : ∃ L, L = ((es.take k).filter f).length := ⟨_, rfl⟩
        rw [← hL] at hrl G2 ⊢
        have HLn := hide hL
        clear hL
        have hm1 : L + 1 ≤ maxLen := by unfold maxLen; omega
        have hm1' : (L + 1) * 56 ≤ 140737488355328 := by omega
        have hsz5 := BB5.out.size
        go_wp2_with (at_builtin; refine wpList_append_put rfl (.tmp 17) (.tmp 19) 116 rfl w.heap.size 88 i1 (.agg #[.int .i64 0, .slice none 0 0, .string ⟨#[]⟩, .int .i64 0]) 4 56 Tryz.underlying116 ki kz0 kz1 kz2 rfl (by decide) _ _ _ rfl G2.out _ rfl rfl rfl (by intro u hu; simp at hu; rcases hu with rfl | rfl | rfl | rfl <;> rfl) hm1 hm1' (by omega) ?_; intro av6 cv6 w6 hown6 hk6; have O6 := hide hown6; have K6 := hide hk6; clear hown6 hk6)
        go_roundw
        case rel =>
          refine ⟨k + 1, by omega, by go_num, hide ?_, hide ?_⟩
          · rw [HN.out]
            exact LI.push (e := e') (a := x) (c := cc) G1.out HLn.out G3.out HRc.out O6.out
          · exact (below_next HW.out BB5.out).trans (K6.out.below (by omega) (fun q hq hS => by have := (G2.out.lt q hS).1; omega))
        case measure => simp [intOf]; omega
    · have HE := hide (show es.take k = es from List.take_of_length_le (by omega))
      rw [HE.out] at HL ⊢
      clear HE
      go_wp2_with fail
      go_ret
      exact ⟨lv, lc, rfl, HL.out, HW.out⟩

set_option maxRecDepth 100000 in
set_option maxHeartbeats 800000 in
theorem isAtLit_any (p : Bs) (b : Nat) (e : En) (a : Option Addr) (c : Nat) (w : World) (h : w.cell? ⟨b, 0, none⟩ = some (.string (str p))) :
    Calls Tryz.prog 251 #[.agg #[.int .i64 e.size, .slice a e.chunks.length c, .string (str e.path), .int .i64 e.kind], .pointer (some ⟨b, 0, none⟩)] w fun r w' => r = .returned (.bool (decide (e.path = p))) ∧ Below w.heap.size w w' := by
  have hb := World.block_lt_of_cell? w ⟨b, 0, none⟩ h
  have hs := str_beq e.path p
  generalize decide (e.path = p) = Z at *
  have hbw : (w.alloc (.cells #[.int .i64 e.size, .slice a e.chunks.length c, .string (str e.path), .int .i64 e.kind] 88)).cell? ⟨b, 0, none⟩ = some (.string (str p)) := ((below_alloc w _).cell (p := ⟨b, 0, none⟩) hb).trans h
  go_enter Tryz.func251, Tryz.ntmps251
  go_wp2_with fail
  go_ret
  exact ⟨rfl, below_alloc _ _⟩
theorem isAt_any (p : Bs) (w : World) :
    Calls Tryz.prog 223 #[.string (str p)] w fun r w' => r = .returned (.func (.func 251) #[] #[.pointer (some ⟨w.heap.size, 0, none⟩)]) ∧ Below w.heap.size w w' ∧ Asks w' 251 #[.pointer (some ⟨w.heap.size, 0, none⟩)] (fun e => decide (e.path = p)) := by
  have hmf : ∀ (fn : Fn) (first cap : Array Value) (w : World), (Instr.makeFunc fn first cap).run Tryz.prog w = .ok (.func fn first cap) w := fun _ _ _ _ => rfl
  go_enter Tryz.func223, Tryz.ntmps223
  go_wp2_with fail
  go_ret
  refine ⟨rfl, below_alloc _ _, enters_of Tryz.func251 (by kernel_rfl) rfl, fun e a c w' he _ _ hb => ?_⟩
  exact isAtLit_any p w.heap.size e a c w' ((hb.cell (p := ⟨w.heap.size, 0, none⟩) (by simp)).trans (by simp))

set_option maxHeartbeats 800000 in
theorem isOfTree_any (p : ByteArray) (k z : Int) (a : Option Addr) (n c : Nat) (w : World) :
    Calls Tryz.prog 130 #[.agg #[.int .i64 z, .slice a n c, .string p, .int .i64 k]] w fun r w' => r = .returned (.bool (treeK k)) ∧ Below w.heap.size w w' := by
  by_cases h0 : k = 1
  · have e : treeK k = true := decide_eq_true (.inl h0)
    have hb : (k == 1) = true := by simp [h0]
    rw [e]
    clear e h0
    go_enter Tryz.func130, Tryz.ntmps130
    go_wp2
    go_ret
    exact ⟨rfl, below_alloc _ _⟩
  · have hb : (k == 1) = false := by simp [h0]
    by_cases h1 : k = 2
    · have e : treeK k = true := decide_eq_true (.inr h1)
      have hb1 : (k == 2) = true := by simp [h1]
      rw [e]
      clear e h0 h1
      go_enter Tryz.func130, Tryz.ntmps130
      go_wp2
      go_ret
      exact ⟨rfl, below_alloc _ _⟩
    · have e : treeK k = false := decide_eq_false (fun h => h.elim h0 h1)
      have hb1 : (k == 2) = false := by simp [h1]
      rw [e]
      clear e h0 h1
      go_enter Tryz.func130, Tryz.ntmps130
      go_wp2
      go_ret
      exact ⟨rfl, below_alloc _ _⟩

set_option maxRecDepth 100000 in
set_option maxHeartbeats 800000 in
theorem noTree_any (e : En) (a : Option Addr) (c : Nat) (w : World) :
    Calls Tryz.prog 129 #[.agg #[.int .i64 e.size, .slice a e.chunks.length c, .string (str e.path), .int .i64 e.kind]] w fun r w' => r = .returned (.bool (!treeK e.kind)) ∧ Below w.heap.size w w' := by
  have HC := hide (fun (u : World) => isOfTree_any (str e.path) e.kind e.size a e.chunks.length c u)
  generalize treeK e.kind = Z at *
  go_enter Tryz.func129, Tryz.ntmps129
  go_wp2_with fail
  refine (HC.out _).mono ?_
  rintro r w1 ⟨rfl, hb1⟩
  have B1 := hide (below_next (below_alloc w (.cells #[.int .i64 e.size, .slice a e.chunks.length c, .string (str e.path), .int .i64 e.kind] 88)) hb1)
  clear hb1
  go_wp2_with fail
  go_ret
  exact ⟨rfl, B1.out⟩
theorem noTree_asks (w : World) : Asks w 129 #[] (fun e => !treeK e.kind) :=
  ⟨enters_of Tryz.func129 (by kernel_rfl) rfl, fun e a c w' _ _ _ _ => noTree_any e a c w'⟩

set_option maxRecDepth 100000 in
set_option maxHeartbeats 800000 in
theorem withoutLit_any (b : Nat) (fn : FuncId) (cap : Array Value) (f : En → Bool) (W0 : World) (hf : Asks W0 fn cap f) (e : En) (a : Option Addr) (c : Nat) (w : World) (he : e.path.length ≤ 1048576) (hec : e.chunks.length ≤ 1048576) (hre : Reads .i64 w a e.chunks) (hw : Below W0.heap.size W0 w) (h : w.cell? ⟨b, 0, none⟩ = some (.func (.func fn) #[] cap)) :
    Calls Tryz.prog 181 #[.agg #[.int .i64 e.size, .slice a e.chunks.length c, .string (str e.path), .int .i64 e.kind], .pointer (some ⟨b, 0, none⟩)] w fun r w' => r = .returned (.bool (!f e)) ∧ Below w.heap.size w w' := by
  have eg := hf.1
  have B0 := hide (below_alloc w (.cells #[.int .i64 e.size, .slice a e.chunks.length c, .string (str e.path), .int .i64 e.kind] 88))
  have hb := World.block_lt_of_cell? w ⟨b, 0, none⟩ h
  have hc := (B0.out.cell (p := ⟨b, 0, none⟩) hb).trans h
  have HF := hide (hf.2 e a c _ he hec (hre.below B0.out) (below_next hw B0.out))
  generalize f e = Z at *
  clear h hf hre
  go_enter Tryz.func181, Tryz.ntmps181
  go_wp2_with fail
  refine HF.out.mono ?_
  rintro r w1 ⟨rfl, hb1⟩
  have B1 := hide (below_next B0.out hb1)
  clear hb1
  go_wp2_with fail
  go_ret
  exact ⟨rfl, B1.out⟩
set_option maxRecDepth 100000 in
set_option maxHeartbeats 800000 in
theorem without_any (a : Option Addr) (c n : Nat) (es : List En) (fn : FuncId) (cap : Array Value) (f : En → Bool) (w : World) (h : RdI w a es) (hn : n = es.length) (hl : es.length ≤ 1048576) (hs : SmallE es) (hf : Asks w fn cap f) :
    Calls Tryz.prog 131 #[.slice a n c, .func (.func fn) #[] cap] w fun r w' => ∃ av cv w1, r = .returned (.slice av (es.filter fun e => !f e).length cv) ∧ LI w1 w' (.slice av (es.filter fun e => !f e).length cv) (es.filter fun e => !f e) ∧ Below w.heap.size w w1 ∧ Below w1.heap.size w1 w' := by
  have hmf : ∀ (fn : Fn) (first cap : Array Value) (w : World), (Instr.makeFunc fn first cap).run Tryz.prog w = .ok (.func fn first cap) w := fun _ _ _ _ => rfl
  subst hn
  have B0 := hide (below_alloc w (.cells #[.func (.func fn) #[] cap] 90))
  have HA : Hid (Asks (w.alloc (.cells #[.func (.func fn) #[] cap] 90)) 181 #[.pointer (some ⟨w.heap.size, 0, none⟩)] (fun e => !f e)) := hide ⟨enters_of Tryz.func181 (by kernel_rfl) rfl, fun e a c w' he hec hre hb =>
    withoutLit_any w.heap.size fn cap f w hf e a c w' he hec hre (below_next B0.out hb) ((hb.cell (p := ⟨w.heap.size, 0, none⟩) (by simp)).trans (by simp))⟩
  have HC := hide (those_any a c es.length es _ _ (fun e => !f e) _ (h.below B0.out) rfl hl hs HA.out)
  clear h hf hs HA
  go_enter Tryz.func131, Tryz.ntmps131
  go_wp2_with fail
  generalize w.alloc (.cells #[.func (.func fn) #[] cap] 90) = W0 at *
  refine HC.out.mono ?_
  rintro r w1 ⟨av, cv, rfl, hL, hb1⟩
  have HL := hide hL
  have B1 := hide hb1
  clear hL hb1 HC
  go_wp2_with fail
  go_ret
  exact ⟨av, cv, W0, rfl, HL.out, B0.out, B1.out⟩
end Go.Proofs.YtolnlfnndnpiiaaGreat

namespace Go.Proofs.YtolnlfnndnpiiaaGreat
open Go.RowKit Go.Maps
set_option linter.unusedVariables false
attribute [local go_sem ↓] Go.wp_at_zero Go.wp_at_succ

theorem find_at {es : List En} {q : Bs} {k : Nat} {e : En} (ha : atE es q = some k) (he : es[k]? = some e) : findE es q = some e := by rw [atE_find, ha]; exact he
end Go.Proofs.YtolnlfnndnpiiaaGreat

namespace Go.Proofs.YtolnlfnndnpiiaaGreat
open Go.RowKit Go.Maps
set_option linter.unusedVariables false

def Box3 (w : World) (b : Nat) (u0 u1 u2 : Value) : Prop := (w.cell? ⟨b, 0, none⟩ = some u0 ∧ w.cell? ⟨b, 1, none⟩ = some u1 ∧ w.cell? ⟨b, 2, none⟩ = some u2) ∧ w.frozen? ⟨b, 0, none⟩ = false ∧ w.frozen? ⟨b, 1, none⟩ = false ∧ w.frozen? ⟨b, 2, none⟩ = false
theorem Box3.new (w : World) (u0 u1 u2 : Value) (t : TypeId) : Box3 (w.alloc (.cells #[u0, u1, u2] t)) w.heap.size u0 u1 u2 := ⟨⟨by simp, by simp, by simp⟩, by simp, by simp, by simp⟩
theorem Box3.lt {w : World} {b : Nat} {u0 u1 u2 : Value} (h : Box3 w b u0 u1 u2) : b < w.heap.size := World.block_lt_of_cell? w ⟨b, 0, none⟩ h.1.1
theorem Box3.kept {S : Nat → Prop} {w w' : World} {b : Nat} {u0 u1 u2 : Value} (h : Box3 w b u0 u1 u2) (hk : Kept S w w') (hn : ¬ S b) : Box3 w' b u0 u1 u2 :=
  ⟨⟨(hk.cell (p := ⟨b, 0, none⟩) h.lt hn).trans h.1.1, (hk.cell (p := ⟨b, 1, none⟩) h.lt hn).trans h.1.2.1, (hk.cell (p := ⟨b, 2, none⟩) h.lt hn).trans h.1.2.2⟩, (hk.frozen (p := ⟨b, 0, none⟩) h.lt hn).trans h.2.1, (hk.frozen (p := ⟨b, 1, none⟩) h.lt hn).trans h.2.2.1, (hk.frozen (p := ⟨b, 2, none⟩) h.lt hn).trans h.2.2.2⟩
theorem Box3.below {w w' : World} {b : Nat} {u0 u1 u2 : Value} (h : Box3 w b u0 u1 u2) (hk : Below w.heap.size w w') : Box3 w' b u0 u1 u2 := h.kept (S := fun _ => False) (Kept.of_below hk) id
theorem Kept.three (w : World) (b : Nat) (u0 u1 u2 : Value) : Kept (fun x => x = b) w (((w.setCell ⟨b, 0, none⟩ u0).setCell ⟨b, 1, none⟩ u1).setCell ⟨b, 2, none⟩ u2) :=
  Kept.setCell (S := fun x => x = b) (p := ⟨b, 2, none⟩) (Kept.two w b 0 1 u0 u1) (fun _ => rfl) u2
def ResT (q rep : Int) (es : List En) (w : World) (r : Ending) (w' : World) : Prop :=
  ∃ av cv, r = .returned (.agg #[.int .i64 q, .int .i64 rep, .slice av es.length cv]) ∧ GE w.heap.size w'.heap.size w' (.slice av es.length cv) es ∧ Below w.heap.size w w'
theorem ResT.of {q rep : Int} {es : List En} {w w3 : World} {B b n : Nat} {av : Option Addr} {cv : Nat} {u0 u1 u2 : Value} (hB : b < B) (hw : w.heap.size ≤ b) (hn : n = es.length) (hG : GE B w3.heap.size w3 (.slice av n cv) es) (hb : Below w.heap.size w w3) :
    ResT q rep es w (.returned (.agg #[.int .i64 q, .int .i64 rep, .slice av n cv])) (((w3.setCell ⟨b, 0, none⟩ u0).setCell ⟨b, 1, none⟩ u1).setCell ⟨b, 2, none⟩ u2) := by
  subst hn
  refine ⟨av, cv, rfl, ?_, ((hb.setCell hw _).setCell hw _).setCell hw _⟩
  have hs : (((w3.setCell ⟨b, 0, none⟩ u0).setCell ⟨b, 1, none⟩ u1).setCell ⟨b, 2, none⟩ u2).heap.size = w3.heap.size := by simp [World.setCell]
  rw [hs]
  exact (hG.kept (Kept.three w3 b u0 u1 u2) (fun x h1 _ h2 => by omega)).mono (by omega)
theorem ResT.bad {q rep : Int} {w w3 : World} {b : Nat} {u0 u1 u2 : Value} (hw : w.heap.size ≤ b) (hb : Below w.heap.size w w3) :
    ResT q rep [] w (.returned (.agg #[.int .i64 q, .int .i64 rep, .slice none 0 0])) (((w3.setCell ⟨b, 0, none⟩ u0).setCell ⟨b, 1, none⟩ u1).setCell ⟨b, 2, none⟩ u2) :=
  ⟨none, 0, rfl, GE.nil _ _ _, ((hb.setCell hw _).setCell hw _).setCell hw _⟩
end Go.Proofs.YtolnlfnndnpiiaaGreat

namespace Go.Proofs.YtolnlfnndnpiiaaGreat
open Go.RowKit Go.Maps
set_option linter.unusedVariables false

theorem entFault_chunks {e : En} (h : entFault e = 0) : e.chunks.length ≤ 3 := by
  have hp := entFault_zero h
  cases h1 : formE e
  · rw [entFault_form hp h1] at h; omega
  · cases h2 : sizeE e
    · rw [entFault_size hp h1 h2] at h; omega
    · cases h3 : manyE e
      · rw [entFault_many hp h1 h2 h3] at h; omega
      · have h2' : 0 ≤ e.size ∧ e.size ≤ 24 := by simpa [sizeE] using h2
        have h3' : (e.chunks.length : Int) = (e.size + 7) / 8 := by simpa [manyE] using h3
        omega
end Go.Proofs.YtolnlfnndnpiiaaGreat

namespace Go.Proofs.YtolnlfnndnpiiaaGreat
open Go.RowKit Go.Maps
set_option linter.unusedVariables false
attribute [local go_sem ↓] Go.wp_at_zero Go.wp_at_succ

def lastP (p : Bs) : Bs := lastN (cutB p.tail)
def namesE (es : List En) (q : Bs) : List Bs := (kidsE es q).map fun e => lastP e.path
end Go.Proofs.YtolnlfnndnpiiaaGreat

namespace Go.Proofs.YtolnlfnndnpiiaaGreat
open Go.RowKit Go.Maps
set_option linter.unusedVariables false
attribute [local go_sem ↓] Go.wp_at_zero Go.wp_at_succ

theorem treP_many {es : List En} (h : 40 < es.length) : treFaultP es = 2 := by simp [treFaultP, h]
theorem treP_kind {es : List En} (h : ¬ 40 < es.length) (hk : (es.any fun e => !treeK e.kind) = true) : treFaultP es = 1 := by
  have : es.all (fun e => treeK e.kind) = false := by
    rw [List.all_eq_false]
    obtain ⟨e, he, h1⟩ := List.any_eq_true.1 hk
    exact ⟨e, he, by simpa using h1⟩
  simp [treFaultP, h, this]
theorem treP_few {es : List En} (h : ¬ 40 < es.length) (hk : (es.any fun e => !treeK e.kind) = false) : treFaultP es = layFromH (homeP es) none es := by
  have : es.all (fun e => treeK e.kind) = true := by
    rw [List.all_eq_true]
    intro e he
    have := List.any_eq_false.1 hk e he
    simpa using this
  rw [treFaultP, if_neg h, this, if_pos rfl]
set_option maxRecDepth 100000 in
set_option maxHeartbeats 800000 in
theorem implTreeFault_any (a : Option Addr) (c n : Nat) (es : List En) (w : World) (h : RdE w a es) (hn : n = es.length) (hl : es.length ≤ 1048576) (hs : SmallE es) :
    Calls Tryz.prog 87 #[.slice a n c] w fun r w' => r = .returned (.int .i64 (treFaultP es)) ∧ Below w.heap.size w w' := by
  subst hn
  by_cases hm : 40 < es.length
  · have HE := hide (treP_many hm)
    have hm2 : (40 : Int) < (es.length : Int) := by omega
    go_enter Tryz.func87, Tryz.ntmps87
    go_wp2_with fail
    go_ret
    exact ⟨ret_int HE.out.symm, Below.refl _ _⟩
  · have hm2 : ¬ (40 : Int) < (es.length : Int) := by omega
    have HK := hide (treP_kind (es := es) hm)
    have HE := hide (treP_few (es := es) hm)
    have HR := hide h
    have HS := hide hs
    clear h hs
    generalize treFaultP es = F at *
    go_enter Tryz.func87, Tryz.ntmps87
    go_wp2_with fail
    refine (treeOf_any a c es.length es _ HR.out rfl hl).mono ?_
    rintro r w1 ⟨av, cv, rfl, hL, hb1⟩
    have RI := hide (hL.rd hb1)
    have B1 := hide hb1
    clear hL hb1
    go_wp2_with fail
    refine (hasI_any av cv es.length es _ _ _ _ RI.out rfl hl HS.out (noTree_asks w1)).mono ?_
    rintro r w2 ⟨rfl, hb2⟩
    have B2 := hide (below_next B1.out hb2)
    clear hb2
    cases hk : es.any fun e => !treeK e.kind
    · have HF := hide (HE.out hk)
      clear hk
      go_wp2_with fail
      refine (entriesFault_any a c es.length es _ (HR.out.below B2.out) rfl hl HS.out).mono ?_
      rintro r w3 ⟨rfl, hb3⟩
      rw [← HF.out]
      have B3 := hide (below_next B2.out hb3)
      clear hb3
      go_wp2_with fail
      go_ret
      exact ⟨rfl, B3.out⟩
    · have HF := hide (HK.out hk)
      clear hk
      go_wp2_with fail
      go_ret
      exact ⟨ret_int HF.out.symm, B2.out⟩

end Go.Proofs.YtolnlfnndnpiiaaGreat

namespace Go.Proofs.YtolnlfnndnpiiaaGreat
open Go.RowKit Go.Maps
set_option linter.unusedVariables false



theorem rowR_set3 : ∀ (rs : List Rw) (j : Nat) (r : Rw) (e' : En), rs[j]? = some r → e'.chunks.length = r.e.chunks.length →
    (((rowR rs).set (j * 4) (.string (str e'.path))).set (j * 4 + 1) (.int .i64 e'.kind)).set (j * 4 + 2) (.int .i64 e'.size) = rowR (rs.set j ⟨e', r.a, r.c⟩)
  | [], j, r, e', h, _ => by simp at h
  | x :: rs, 0, r, e', h, hl => by
    simp only [List.getElem?_cons_zero, Option.some.injEq] at h
    subst h
    simp [rowR, cellsR, hl]
  | x :: rs, j + 1, r, e', h, hl => by
    have ih := rowR_set3 rs j r e' (by simpa using h) hl
    have e1 : rowR (x :: rs) = cellsR x ++ rowR rs := rfl
    have e2 : rowR ((x :: rs).set (j + 1) ⟨e', r.a, r.c⟩) = cellsR x ++ rowR (rs.set j ⟨e', r.a, r.c⟩) := rfl
    have hx : (cellsR x).length = 4 := rfl
    rw [e1, e2, ← ih, List.set_append_right _ _ (by omega), List.set_append_right _ _ (by omega), List.set_append_right _ _ (by omega), hx]
    rw [show (j + 1) * 4 - 4 = j * 4 by omega, show (j + 1) * 4 + 1 - 4 = j * 4 + 1 by omega, show (j + 1) * 4 + 2 - 4 = j * 4 + 2 by omega]

theorem GE.open {B T : Nat} {w : World} {a : Option Addr} {n c : Nat} {es : List En} {j : Nat} {e : En} (h : GE B T w (.slice a n c) es) (he : es[j]? = some e) :
    ∃ (G : Nat) (x : Option Addr) (y : Nat), a = some ⟨G, 0, none⟩ ∧ B ≤ G ∧ G < T ∧ w.cell? ⟨G, j * 4, none⟩ = some (.string (str e.path)) ∧ w.cell? ⟨G, j * 4 + 1, none⟩ = some (.int .i64 e.kind) ∧ w.cell? ⟨G, j * 4 + 2, none⟩ = some (.int .i64 e.size) ∧ w.cell? ⟨G, j * 4 + 3, none⟩ = some (.slice x e.chunks.length y) ∧
      (∀ i, w.frozen? ⟨G, i, none⟩ = false) ∧ Own .i64 w x e.chunks ∧ (∀ b, blkOf x b → B ≤ b ∧ b < T ∧ b ≠ G) ∧
      ∀ (e' : En) (w2 : World), e'.chunks.length = e.chunks.length → Own .i64 w2 x e'.chunks → Kept (blkOf x) (((w.setCell ⟨G, j * 4, none⟩ (.string (str e'.path))).setCell ⟨G, j * 4 + 1, none⟩ (.int .i64 e'.kind)).setCell ⟨G, j * 4 + 2, none⟩ (.int .i64 e'.size)) w2 →
        SameShape (((w.setCell ⟨G, j * 4, none⟩ (.string (str e'.path))).setCell ⟨G, j * 4 + 1, none⟩ (.int .i64 e'.kind)).setCell ⟨G, j * 4 + 2, none⟩ (.int .i64 e'.size)) w2 →
        GE B T w2 (.slice a n c) (es.set j e') := by
  obtain ⟨rs, hrs, h1, h2, h3, h4, h5⟩ := h
  have hj := (List.getElem?_eq_some_iff.1 he).1
  have hl : rs.length = es.length := by rw [← hrs, List.length_map]
  obtain ⟨r, hr⟩ : ∃ r, rs[j]? = some r := ⟨rs[j]'(by omega), List.getElem?_eq_getElem (by omega)⟩
  have hre : r.e = e := by
    have : (rs.map Rw.e)[j]? = some r.e := by rw [List.getElem?_map, hr]; rfl
    rw [hrs, he] at this
    exact (Option.some.inj this).symm
  rcases h1.2 with ⟨_, h0⟩ | ⟨G, cap, cur, h', hb, hh, hnc, hcm, hcs, htake⟩
  · omega
  · simp only [Value.slice.injEq] at h'
    obtain ⟨rfl, rfl, rfl⟩ := h'
    have hc := fun q hq => (h1.cellAt (j * 4 + q) (by omega)).trans (rowR_get rs j q r hr hq)
    have hm := List.mem_of_getElem? hr
    have hne : ∀ b, blkOf r.a b → b ≠ G := fun b hb e => ownsRow_apart h1 (h2 r hm) (by decide) (by subst e; rfl) (block_own hb)
    refine ⟨G, r.a, r.c, rfl, hb, h5 G rfl, ?_, ?_, ?_, ?_, fun i => h1.frozenAt i, ?_, fun b hb => ⟨((h2 r hm).lt b (block_own hb)).1, h4 r hm b hb, hne b hb⟩, ?_⟩
    · have := hc 0 (by decide); rw [← hre]; first | (simp [cellsR]; done) | (simpa [cellsR] using this)
    · have := hc 1 (by decide); rw [← hre]; first | (simp [cellsR]; done) | (simpa [cellsR] using this)
    · have := hc 2 (by decide); rw [← hre]; first | (simp [cellsR]; done) | (simpa [cellsR] using this)
    · have := hc 3 (by decide); rw [← hre]; first | (simp [cellsR]; done) | (simpa [cellsR] using this)
    · rw [← hre]; exact ownsRow_own (h2 r hm) rfl
    · intro e' w2 hlen ho hk hs
      have hlen' : e'.chunks.length = r.e.chunks.length := by rw [hre]; exact hlen
      have s1 := (((h1.stored (j * 4) (.string (str e'.path))).1.stored (j * 4 + 1) (.int .i64 e'.kind)).1.stored (j * 4 + 2) (.int .i64 e'.size)).1
      rw [rowR_set3 rs j r e' hr hlen'] at s1
      have hmapa : (rs.set j ⟨e', r.a, r.c⟩).map Rw.a = rs.map Rw.a := by
        rw [List.map_set]
        apply List.ext_getElem?
        intro i
        by_cases hi : i = j
        · subst hi; rw [List.getElem?_set_self (by simp; omega), List.getElem?_map, hr]; rfl
        · rw [List.getElem?_set_ne (fun e => hi e.symm)]
      have hk1 : Kept (fun b => b = G) w (((w.setCell ⟨G, j * 4, none⟩ (.string (str e'.path))).setCell ⟨G, j * 4 + 1, none⟩ (.int .i64 e'.kind)).setCell ⟨G, j * 4 + 2, none⟩ (.int .i64 e'.size)) :=
        Kept.setCell (S := fun b => b = G) (p := ⟨G, j * 4 + 2, none⟩) (Kept.two _ _ _ _ _ _) (fun _ => rfl) _
      refine ⟨rs.set j ⟨e', r.a, r.c⟩, by rw [List.map_set, hrs], ?_, ?_, ?_, ?_, h5⟩
      · rw [List.length_set]
        exact ownsRow_kept s1 hk (fun b hb hS => hne b hS (by simpa [Value.ownBlock, eq_comm] using hb))
      · intro r0 hr0
        obtain ⟨i, hi⟩ := List.mem_iff_getElem?.1 hr0
        by_cases e : i = j
        · subst e
          rw [List.getElem?_set_self (by omega)] at hi
          simp only [Option.some.injEq] at hi
          subst hi
          have r1 : (((w.setCell ⟨G, i * 4, none⟩ (.string (str e'.path))).setCell ⟨G, i * 4 + 1, none⟩ (.int .i64 e'.kind)).setCell ⟨G, i * 4 + 2, none⟩ (.int .i64 e'.size)).ownsRow B 2 1 (.slice r.a r.e.chunks.length r.c) r.e.chunks.length (r.e.chunks.map (Value.int .i64)) :=
            ownsRow_kept (h2 r hm) hk1 (fun b hb e => ownsRow_apart h1 (h2 r hm) (by decide) (by subst e; rfl) hb)
          show w2.ownsRow B 2 1 (.slice r.a e'.chunks.length r.c) e'.chunks.length (e'.chunks.map (Value.int .i64))
          rw [hlen']
          rcases (h2 r hm).2 with ⟨h', h0⟩ | ⟨g, cap', cur', h', _⟩
          · simp only [Value.slice.injEq] at h'
            have e1 : e'.chunks = [] := List.eq_nil_of_length_eq_zero (by omega)
            rw [h'.1, h'.2.2, h0, e1]
            exact World.ownsRow_nil _ _ _ _
          · simp only [Value.slice.injEq, true_and] at h'
            obtain ⟨hA, hC⟩ := h'
            rw [hA] at r1 ho ⊢
            refine own_back r1 hs (by simp [hlen']) (fun t ht => ?_)
            obtain ⟨b, off, e1, hb, hc⟩ := ho (by intro e; rw [e] at hlen'; simp at hlen'; omega)
            simp only [Option.some.injEq, Addr.mk.injEq, and_true] at e1
            obtain ⟨rfl, rfl⟩ := e1
            have := (hc t (by omega)).1
            rw [Nat.zero_add] at this
            rw [this]
            have ht2 : t < e'.chunks.length := by omega
            simp [List.getD_eq_getElem?_getD, ht2]
        · rw [List.getElem?_set_ne (fun x => e x.symm)] at hi
          have hm0 := List.mem_of_getElem? hi
          have r1 := ownsRow_kept (h2 r0 hm0) hk1 (fun b hb e => ownsRow_apart h1 (h2 r0 hm0) (by decide) (by subst e; rfl) hb)
          refine ownsRow_kept r1 hk (fun b hb hS => ?_)
          have hi' := (List.getElem?_eq_some_iff.1 hi)
          have hj' := (List.getElem?_eq_some_iff.1 hr)
          have hb0 := own_block hb
          rcases Nat.lt_or_gt_of_ne e with hlt | hlt
          · have := List.pairwise_iff_getElem.1 h3 i j hi'.1 hj'.1 hlt b (by rw [hi'.2]; exact hb0)
            rw [hj'.2] at this
            exact this hS
          · have := List.pairwise_iff_getElem.1 h3 j i hj'.1 hi'.1 hlt b (by rw [hj'.2]; exact hS)
            rw [hi'.2] at this
            exact this hb0
      · have : (rs.map Rw.a).Pairwise (fun x y => ∀ g, x.map Addr.block = some g → y.map Addr.block ≠ some g) := List.pairwise_map.2 h3
        rw [← hmapa] at this
        exact List.pairwise_map.1 this
      · intro r0 hr0 g hg
        have : r0.a ∈ (rs.set j ⟨e', r.a, r.c⟩).map Rw.a := List.mem_map_of_mem hr0
        rw [hmapa] at this
        obtain ⟨r2, hr2, e2⟩ := List.mem_map.1 this
        exact h4 r2 hr2 g (by rw [e2]; exact hg)

end Go.Proofs.YtolnlfnndnpiiaaGreat

namespace Go.Proofs.YtolnlfnndnpiiaaGreat
open Go.ChangeShapes Go.WideShapes Go.ChangeAt Go.RowKit
set_option linter.unusedVariables false

def zEn : En := ⟨[], 0, 0, []⟩
theorem rowR_set4 : ∀ (rs : List Rw) (j : Nat) (r : Rw), j < rs.length →
    ((((rowR rs).set (j * 4) (.string (str r.e.path))).set (j * 4 + 1) (.int .i64 r.e.kind)).set (j * 4 + 2) (.int .i64 r.e.size)).set (j * 4 + 3) (.slice r.a r.e.chunks.length r.c) = rowR (rs.set j r)
  | [], j, r, h => by simp at h
  | x :: rs, 0, r, h => by simp [rowR, cellsR]
  | x :: rs, j + 1, r, h => by
    have ih := rowR_set4 rs j r (by simpa using h)
    have e1 : rowR (x :: rs) = cellsR x ++ rowR rs := rfl
    have e2 : rowR ((x :: rs).set (j + 1) r) = cellsR x ++ rowR (rs.set j r) := rfl
    have hx : (cellsR x).length = 4 := rfl
    rw [e1, e2, ← ih, List.set_append_right _ _ (by omega), List.set_append_right _ _ (by omega), List.set_append_right _ _ (by omega), List.set_append_right _ _ (by omega), hx]
    rw [show (j + 1) * 4 - 4 = j * 4 by omega, show (j + 1) * 4 + 1 - 4 = j * 4 + 1 by omega, show (j + 1) * 4 + 2 - 4 = j * 4 + 2 by omega, show (j + 1) * 4 + 3 - 4 = j * 4 + 3 by omega]

theorem zeros_row (n : Nat) : (madeCells (Value.agg #[.string ⟨#[]⟩, .int .i64 0, .int .i64 0, .slice none 0 0]).cells (n * 4)).toList = rowR (List.replicate n ⟨zEn, none, 0⟩) := by
  have hl := rowR_length (List.replicate n ⟨zEn, none, 0⟩)
  rw [List.length_replicate] at hl
  apply List.ext_getElem?
  intro p
  by_cases hp : p < n * 4
  · have e : p = p / 4 * 4 + p % 4 := by omega
    have h1 : p / 4 < n := by omega
    have h2 : p % 4 < 4 := by omega
    rw [e, rowR_get _ (p / 4) (p % 4) ⟨zEn, none, 0⟩ (by simp [h1]) h2, ← e]
    have hm : p % 4 = 0 ∨ p % 4 = 1 ∨ p % 4 = 2 ∨ p % 4 = 3 := by omega
    rcases hm with hm | hm | hm | hm <;> simp [madeCells, hp, hm, cellsR, zEn, Value.cells, str]
  · rw [List.getElem?_eq_none (by simp [madeCells]; omega), List.getElem?_eq_none (by omega)]
theorem GE.zeros {B n T : Nat} {w : World} {v : Value} (h : w.ownsRow B 50 4 v n (madeCells (Value.agg #[.string ⟨#[]⟩, .int .i64 0, .int .i64 0, .slice none 0 0]).cells (n * 4)).toList) (hT : ∀ b, v.ownBlock = some b → b < T) : GE B T w v (List.replicate n zEn) := by
  refine ⟨List.replicate n ⟨zEn, none, 0⟩, by simp, by rw [List.length_replicate, ← zeros_row]; exact h, fun r hr => ?_, ?_, fun r hr g hg => ?_, hT⟩
  · rw [(List.mem_replicate.1 hr).2]; exact World.ownsRow_nil _ _ _ _
  · rw [List.pairwise_iff_getElem]
    intro i i' hi hi' hlt g hg
    simp at hg
  · rw [(List.mem_replicate.1 hr).2] at hg
    simp at hg



end Go.Proofs.YtolnlfnndnpiiaaGreat

namespace Go.Proofs.YtolnlfnndnpiiaaGreat
open Go.RowKit
set_option linter.unusedVariables false

def Src (w : World) (p : Nat) (zs : List Int) (t : Int) : Prop :=
  ∃ a c, w.cell? ⟨p, 0, none⟩ = some (.slice a zs.length c) ∧ w.cell? ⟨p, 1, none⟩ = some (.int .i64 t) ∧ w.frozen? ⟨p, 1, none⟩ = false ∧ Reads .u8 w a zs ∧ (zs ≠ [] → ∀ x, a = some x → x.block < p)

theorem Src.step {w : World} {p : Nat} {zs : List Int} {t : Int} (h : Src w p zs t) (s : Int) : Src (w.setCell ⟨p, 1, none⟩ (.int .i64 s)) p zs s ∧ Kept (fun b => b = p) w (w.setCell ⟨p, 1, none⟩ (.int .i64 s)) := by
  obtain ⟨a, c, q0, q1, q2, hr, hap⟩ := h
  have hk : Kept (fun b => b = p) w (w.setCell ⟨p, 1, none⟩ (.int .i64 s)) := Kept.setCell (S := fun b => b = p) (p := ⟨p, 1, none⟩) (Kept.refl _ w) (fun _ => rfl) _
  refine ⟨⟨a, c, ?_, cell_set_same q1, by rw [World.frozen?_setCell]; exact q2, hr.kept hk (fun hz x hx e => by have := hap hz x hx; omega), hap⟩, hk⟩
  rw [cell_set_other (by intro e; have := congrArg Addr.off e; simp at this)]; exact q0

theorem Src.drewN {w : World} {p : Nat} {zs : List Int} {t : Int} (h : Src w p zs t) (n : Nat) : Src (w.drewN n) p zs t := h

theorem Src.kept {S : Nat → Prop} {w w' : World} {p : Nat} {zs : List Int} {t : Int} (h : Src w p zs t) (hk : Kept S w w') (hS : ∀ b, b ≤ p → ¬ S b) : Src w' p zs t := by
  obtain ⟨a, c, q0, q1, q2, hr, hap⟩ := h
  have hlt := World.block_lt_of_cell? w ⟨p, 0, none⟩ q0
  have hp := hS p (Nat.le_refl _)
  exact ⟨a, c, (hk.cell (p := ⟨p, 0, none⟩) hlt hp).trans q0, (hk.cell (p := ⟨p, 1, none⟩) hlt hp).trans q1, (hk.frozen (p := ⟨p, 1, none⟩) hlt hp).trans q2, hr.kept hk (fun hz x hx => hS _ (Nat.le_of_lt (hap hz x hx))), hap⟩

theorem Src.below {w w' : World} {p : Nat} {zs : List Int} {t : Int} (h : Src w p zs t) (hk : Below w.heap.size w w') : Src w' p zs t :=
  Src.kept (S := fun _ => False) h (Kept.of_below hk) (fun _ _ => id)
theorem Src.lt {w : World} {p : Nat} {zs : List Int} {t : Int} (h : Src w p zs t) : p < w.heap.size := by
  obtain ⟨a, c, q0, _⟩ := h
  exact World.block_lt_of_cell? w ⟨p, 0, none⟩ q0

theorem rem_bd (v n : Int) (hn : 1 ≤ n) : 0 ≤ v % n ∧ v % n < n := ⟨Int.emod_nonneg _ (by omega), Int.emod_lt_of_pos _ (by omega)⟩
theorem mod_bd (t : Int) (k : Nat) (hk : 0 < k) : 0 ≤ t % (k : Int) ∧ t % (k : Int) < (k : Int) := ⟨Int.emod_nonneg _ (by omega), Int.emod_lt_of_pos _ (by omega)⟩
theorem div_bd (t : Int) (k : Nat) (h0 : 0 ≤ t) : 0 ≤ t / (k : Int) ∧ t / (k : Int) ≤ t := ⟨Int.ediv_nonneg h0 (by omega), Int.ediv_le_self _ h0⟩

set_option maxHeartbeats 1600000 in
theorem l1Next_big (p : Nat) (zs : List Int) (t n : Int) (w : World) (h : Src w p zs t) (hu : U8 zs) (ht0 : 0 ≤ t) (ht1 : t ≤ 1099511627776) (hn0 : 1 ≤ n) (hn1 : n ≤ 2147483648) (hl : zs.length ≤ 2097152) :
    Calls Tryz.prog 26 #[.pointer (some ⟨p, 0, none⟩), .int .i64 n] w fun e w' => ∃ r, e = .returned (.int .i64 r) ∧ 0 ≤ r ∧ r < n ∧ Src w' p zs (t + 1) ∧ Kept (fun b => b = p) w w' := by
  have HS := hide (h.step (t + 1))
  obtain ⟨a, c, q0, q1, q2, hr, hap⟩ := h
  by_cases hz : zs = []
  · have hn : zs.length = 0 := by rw [hz]; rfl
    rw [hn] at q0
    have hmod : 0 ≤ t * 7 % n ∧ t * 7 % n < n := ⟨Int.emod_nonneg _ (by omega), Int.emod_lt_of_pos _ (by omega)⟩
    have HM := hide hmod
    clear hmod hr hap hz hn
    go_enter Tryz.func26, Tryz.ntmps26
    go_wp2
    go_ret
    exact ⟨_, rfl, HM.out.1, HM.out.2, HS.out.1, HS.out.2⟩
  · obtain ⟨b, off, rfl, hb, hc⟩ := hr hz
    have hlen : 0 < zs.length := List.length_pos_iff.2 hz
    have hne : ((zs.length : Int) == 0) = false := by simp; omega
    have hbp : b ≠ p := by have := hap hz _ rfl; simp at this; omega
    obtain ⟨m0, m1⟩ := mod_bd t zs.length hlen
    obtain ⟨m2, m3⟩ := mod_bd (t + 1) zs.length hlen
    obtain ⟨d0, d1⟩ := div_bd t zs.length ht0
    have hz1 := hu.get (t % (zs.length : Int)).toNat
    have hz2 := hu.get ((t + 1) % (zs.length : Int)).toNat
    have c1 := hc (t % (zs.length : Int)).toNat (by omega)
    have c2 := hc ((t + 1) % (zs.length : Int)).toNat (by omega)
    generalize zs.getD (t % (zs.length : Int)).toNat 0 = z1 at hz1 c1
    generalize zs.getD ((t + 1) % (zs.length : Int)).toNat 0 = z2 at hz2 c2
    generalize hW : w.setCell ⟨p, 1, none⟩ (.int .i64 (t + 1)) = W at HS
    have k0 : W.cell? ⟨p, 0, none⟩ = some (.slice (some ⟨b, off, none⟩) zs.length c) := by rw [← hW, cell_set_other (by intro e; have := congrArg Addr.off e; simp at this)]; exact q0
    have k1 : W.cell? ⟨p, 1, none⟩ = some (.int .i64 (t + 1)) := by rw [← hW]; exact cell_set_same q1
    have k2 : W.cell? ⟨b, off + (t % (zs.length : Int)).toNat, none⟩ = some (.int .u8 z1) := by rw [← hW]; exact cell_set_far (fun e => hbp e.symm) c1
    have k3 : W.cell? ⟨b, off + ((t + 1) % (zs.length : Int)).toNat, none⟩ = some (.int .u8 z2) := by rw [← hW]; exact cell_set_far (fun e => hbp e.symm) c2
    have HW := hide hW
    clear hW c1 c2 hc hr hap hz
    by_cases h200 : 200 < n
    · go_enter Tryz.func26, Tryz.ntmps26
      go_wp2
      rw [HW.out]
      go_quiet (fail)
      go_wp2
      go_quiet (fail)
      go_wp2
      go_ret
      exact ⟨_, rfl, (rem_bd _ n hn0).1, (rem_bd _ n hn0).2, HS.out.1.drewN _, HS.out.2.drewN _⟩
    · go_enter Tryz.func26, Tryz.ntmps26
      go_wp2
      rw [HW.out]
      go_quiet (fail)
      go_wp2
      go_ret
      exact ⟨_, rfl, (rem_bd _ n hn0).1, (rem_bd _ n hn0).2, HS.out.1.drewN _, HS.out.2.drewN _⟩
set_option maxHeartbeats 400000 in
theorem l1Source_any (a : Option Addr) (cap : Nat) (zs : List Int) (w : World) (h : Reads .u8 w a zs) :
    Calls Tryz.prog 21 #[.slice a zs.length cap] w fun e w' => e = .returned (.pointer (some ⟨w.heap.size, 0, none⟩)) ∧ Src w' w.heap.size zs 0 ∧ w'.heap.size = w.heap.size + 1 ∧ Below w.heap.size w w' := by
  have HR := hide h
  clear h
  go_enter Tryz.func21, Tryz.ntmps21
  go_wp2
  go_ret
  refine ⟨rfl, ⟨a, cap, by simp, by simp, by simp, HR.out.below (below_alloc _ _), fun hz x hx => ?_⟩, by simp, below_alloc _ _⟩
  obtain ⟨b, off, rfl, hb, _⟩ := HR.out hz
  simp at hx
  subst hx
  exact hb

set_option maxHeartbeats 800000 in
theorem l1Pick_big (p g c m : Nat) (vs : List Int) (zs : List Int) (t : Int) (w : World) (h : Src w p zs t) (hu : U8 zs) (ht0 : 0 ≤ t) (ht1 : t ≤ 1099511627776) (hl : zs.length ≤ 2097152)
    (hm0 : 0 < m) (hm1 : m ≤ 1000) (hm : m = vs.length) (hg : g ≠ p) (hgl : g < w.heap.size) (hc : ∀ i, i < m → w.cell? ⟨g, i, none⟩ = some (.int .i64 (vs.getD i 0))) :
    Calls Tryz.prog 25 #[.pointer (some ⟨p, 0, none⟩), .slice (some ⟨g, 0, none⟩) m c] w fun e w' => ∃ v, v ∈ vs ∧ e = .returned (.int .i64 v) ∧ Src w' p zs (t + 1) ∧ Kept (fun b => b = p) w w' := by
  have HS := hide h
  have HU := hide hu
  have HC := hide hc
  have HM := hide hm
  clear h hu hc hm
  go_enter Tryz.func25, Tryz.ntmps25
  go_wp2_with fail
  refine (l1Next_big p zs t _ _ HS.out HU.out ht0 ht1 (by omega) (by omega) hl).mono ?_
  rintro e w1 ⟨r, rfl, r0, r1, s1, k1⟩
  obtain ⟨j, rfl⟩ := Int.eq_ofNat_of_zero_le r0
  have hj : j < m := by omega
  have hcj := HC.out j hj
  have hmem : vs.getD j 0 ∈ vs := by
    have hj2 : j < vs.length := by have := HM.out; omega
    have e : vs.getD j 0 = vs[j] := by simp [List.getD_eq_getElem?_getD, hj2]
    rw [e]; exact List.getElem_mem hj2
  generalize vs.getD j 0 = v at hcj hmem
  have hc1 : w1.cell? ⟨g, j, none⟩ = some (.int .i64 v) := (k1.cell (p := ⟨g, j, none⟩) hgl hg).trans hcj
  have S1 := hide s1
  have K1 := hide k1
  have M1 := hide hmem
  clear s1 k1 hcj hmem
  go_wp2_with fail
  go_ret
  exact ⟨v, M1.out, rfl, S1.out, K1.out⟩
set_option maxHeartbeats 800000 in
theorem l1Some_big (p : Nat) (n : Nat) (zs : List Int) (t : Int) (w : World) (h : Src w p zs t) (hu : U8 zs) (ht0 : 0 ≤ t) (ht1 : t ≤ 549755813888) (hl : zs.length ≤ 2097152) (hn : n ≤ 1048576) (hp : p < w.heap.size) :
    Calls Tryz.prog 24 #[.pointer (some ⟨p, 0, none⟩), .int .i64 n] w fun e w' => ∃ a c ds, e = .returned (.slice a n c) ∧ ds.length = n ∧ U8 ds ∧ w'.ownsRow w.heap.size 5 1 (.slice a n c) n (ds.map (Value.int .u8)) ∧ Src w' p zs (t + n) ∧ Kept (fun b => b = p) w w' := by
  obtain ⟨i0, hi, hz0, hz1, hz2⟩ := info_parts Tryz.infoU8
  have HS := hide (h.below (below_alloc w (.cells #[] 5)))
  have HU := hide hu
  clear h hu
  go_enter Tryz.func24, Tryz.ntmps24
  go_wp2
  go_loopw [1, 5] (fun q v wr => ∃ j : Nat, ∃ ds : List Int, j ≤ n ∧ q = .int .i64 ((n : Int) - j) ∧ ds.length = j ∧ U8 ds ∧ wr.ownsRow w.heap.size 5 1 v j (ds.map (Value.int .u8)) ∧ Src wr p zs (t + j) ∧ Kept (fun b => b = p) w wr) (fun q _ _ => (intOf q).toNat)
  case atStart => exact ⟨0, [], Nat.zero_le _, by simp, rfl, fun z hz => by simp at hz, World.ownsRow_made w #[] 0 (Nat.le_refl _) (Nat.zero_le _) rfl, by simpa using HS.out, (Kept.refl _ _).alloc _⟩
  case round =>
    obtain ⟨j, ds, hj, rfl, hds, hU, hown, hsrc, hkept⟩ := hrel
    by_cases hlt : j < n
    · have hgt : (0 : Int) < (n : Int) - j := by omega
      have hsz := hkept.size
      have hm1 : j + 1 ≤ maxLen := by unfold maxLen; omega
      have hm2 : (j + 1) * 1 ≤ 140737488355328 := by omega
      have H1 := hide hds
      have H2 := hide hU
      have H3 := hide hown
      have H4 := hide hsrc
      have H5 := hide hkept
      clear hds hU hown hsrc hkept
      go_wp2_with (first | (go_at_call 26; refine (l1Next_big p zs _ _ _ H4.out HU.out (by omega) (by omega) (by omega) (by omega) hl).mono ?_; rintro e w1 ⟨r, rfl, r0, r1, s1, k1⟩; have S1 := hide s1; have K1 := hide k1; have O1 := hide (ownsRow_kept H3.out k1 (fun b hb e => by have := (H3.out.lt b hb).1; omega)); have hsz1 : w.heap.size ≤ w1.heap.size := Nat.le_trans hsz k1.size; clear s1 k1) | (at_builtin; refine wpList_append_one rfl (.tmp 11) (.tmp 16) 22 rfl w.heap.size 5 i0 (.int .u8 0) 1 1 Tryz.underlying22 hi hz0 hz1 hz2 rfl (by decide) _ _ _ rfl O1.out rfl rfl (by intro u hu; simp at hu; subst hu; rfl) hm1 hm2 hsz1 ?_; intro v' w2 hown2 hkept2; have O2 := hide hown2; have K2 := hide hkept2; clear hown2 hkept2))
      have hp1 : ∀ b, b ≤ p → ¬ (u5.ownBlock = some b) := fun b hb e => by have := (H3.out.lt b e).1; omega
      go_roundw
      case rel =>
        refine ⟨j + 1, ds ++ [97 + r], by omega, by go_num, by simp [H1.out], fun z hz => ?_, by simpa using O2.out, ?_, ?_⟩
        · rcases List.mem_append.1 hz with hz | hz
          · exact H2.out z hz
          · simp at hz; omega
        · have := S1.out.kept K2.out hp1
          rwa [show t + (j : Int) + 1 = t + ((j + 1 : Nat) : Int) from by omega] at this
        · exact (H5.out.trans K1.out).trans_own K2.out (fun b hb e => by have := (O1.out.lt b e).1; omega)
      case measure => simp [intOf]; omega
    · have hje : j = n := by omega
      subst hje
      obtain ⟨av, cv, rfl⟩ := ownsRow_shape hown
      have hz : ¬ (0 : Int) < (j : Int) - j := by omega
      go_wp2
      go_ret
      exact ⟨av, cv, rfl, ds, hds, hU, hown, hsrc, hkept⟩
end Go.Proofs.YtolnlfnndnpiiaaGreat

namespace Go.Proofs.YtolnlfnndnpiiaaGreat
open Go.RowKit
set_option linter.unusedVariables false

theorem cells5' (w : World) (a b c d e : Int) (t : TypeId) : ∀ i, i < 5 → (w.alloc (.cells #[.int .i64 a, .int .i64 b, .int .i64 c, .int .i64 d, .int .i64 e] t)).cell? ⟨w.heap.size, i, none⟩ = some (.int .i64 ([a, b, c, d, e].getD i 0)) := by
  intro i hi
  match i, hi with
  | 0, _ | 1, _ | 2, _ | 3, _ | 4, _ => simp
theorem join_small : ∀ (ns : List Bs), (∀ n ∈ ns, n.length ≤ 2) → (joinB ns).length ≤ 3 * ns.length
  | [], _ => by simp [joinB]
  | n :: ns, h => by
    have := join_small ns (fun m hm => h m (by simp [hm]))
    have := h n (by simp)
    simp [joinB]; omega

end Go.Proofs.YtolnlfnndnpiiaaGreat

namespace Go.Proofs.YtolnlfnndnpiiaaGreat
open Go.RowKit Go.Maps
set_option linter.unusedVariables false

def SrcX (w : World) (p : Nat) (zs : List Int) (T : Int) : Prop := ∃ t, 0 ≤ t ∧ t ≤ T ∧ Src w p zs t
theorem SrcX.kept {S : Nat → Prop} {w w' : World} {p : Nat} {zs : List Int} {T : Int} (h : SrcX w p zs T) (hk : Kept S w w') (hS : ∀ b, b ≤ p → ¬ S b) : SrcX w' p zs T := by
  obtain ⟨t, h0, h1, hs⟩ := h
  exact ⟨t, h0, h1, hs.kept hk hS⟩
theorem SrcX.below {w w' : World} {p : Nat} {zs : List Int} {T : Int} (h : SrcX w p zs T) (hk : Below w.heap.size w w') : SrcX w' p zs T := by
  obtain ⟨t, h0, h1, hs⟩ := h
  exact ⟨t, h0, h1, hs.below hk⟩
theorem SrcX.lt {w : World} {p : Nat} {zs : List Int} {T : Int} (h : SrcX w p zs T) : p < w.heap.size := by
  obtain ⟨t, _, _, hs⟩ := h
  exact hs.lt
theorem SrcX.mono {w : World} {p : Nat} {zs : List Int} {T T' : Int} (h : SrcX w p zs T) (hT : T ≤ T') : SrcX w p zs T' := by
  obtain ⟨t, h0, h1, hs⟩ := h
  exact ⟨t, h0, by omega, hs⟩
theorem next_e (p : Nat) (zs : List Int) (T n : Int) (w : World) (h : SrcX w p zs T) (hu : U8 zs) (hT : T ≤ 1000000) (hn0 : 1 ≤ n) (hn1 : n ≤ 1000) (hl : zs.length ≤ 2097152) :
    Calls Tryz.prog 26 #[.pointer (some ⟨p, 0, none⟩), .int .i64 n] w fun e w' => ∃ r : Nat, e = .returned (.int .i64 r) ∧ (r : Int) < n ∧ SrcX w' p zs (T + 1) ∧ Kept (fun b => b = p) w w' := by
  obtain ⟨t, h0, h1, hs⟩ := h
  refine (l1Next_big p zs t n w hs hu h0 (by omega) hn0 (by omega) hl).mono ?_
  rintro e w' ⟨r, rfl, r0, r1, s1, k1⟩
  exact ⟨r.toNat, by rw [Int.toNat_of_nonneg r0], by omega, ⟨t + 1, by omega, by omega, s1⟩, k1⟩
theorem pick_e (p g c m : Nat) (vs : List Int) (zs : List Int) (T : Int) (w : World) (h : SrcX w p zs T) (hu : U8 zs) (hT : T ≤ 1000000) (hl : zs.length ≤ 2097152)
    (hm0 : 0 < m) (hm1 : m ≤ 1000) (hm : m = vs.length) (hg : g ≠ p) (hgl : g < w.heap.size) (hc : ∀ i, i < m → w.cell? ⟨g, i, none⟩ = some (.int .i64 (vs.getD i 0))) :
    Calls Tryz.prog 25 #[.pointer (some ⟨p, 0, none⟩), .slice (some ⟨g, 0, none⟩) m c] w fun e w' => ∃ v, v ∈ vs ∧ e = .returned (.int .i64 v) ∧ SrcX w' p zs (T + 1) ∧ Kept (fun b => b = p) w w' := by
  obtain ⟨t, h0, h1, hs⟩ := h
  refine (l1Pick_big p g c m vs zs t w hs hu h0 (by omega) hl hm0 hm1 hm hg hgl hc).mono ?_
  rintro e w' ⟨v, hv, rfl, s1, k1⟩
  exact ⟨v, hv, rfl, ⟨t + 1, by omega, by omega, s1⟩, k1⟩
theorem some_e (p : Nat) (n : Nat) (zs : List Int) (T : Int) (w : World) (h : SrcX w p zs T) (hu : U8 zs) (hT : T ≤ 1000000) (hl : zs.length ≤ 2097152) (hn : n ≤ 1000) :
    Calls Tryz.prog 24 #[.pointer (some ⟨p, 0, none⟩), .int .i64 n] w fun e w' => ∃ a c ds, e = .returned (.slice a n c) ∧ ds.length = n ∧ U8 ds ∧ w'.ownsRow w.heap.size 5 1 (.slice a n c) n (ds.map (Value.int .u8)) ∧ SrcX w' p zs (T + n) ∧ Kept (fun b => b = p) w w' := by
  have hp := h.lt
  obtain ⟨t, h0, h1, hs⟩ := h
  refine (l1Some_big p n zs t w hs hu h0 (by omega) hl (by omega) hp).mono ?_
  rintro e w' ⟨a, c, ds, rfl, hd, hu, ho, s1, k1⟩
  exact ⟨a, c, ds, rfl, hd, hu, ho, ⟨t + n, by omega, by omega, s1⟩, k1⟩
set_option maxHeartbeats 800000 in
theorem chance_e (p : Nat) (zs : List Int) (T n : Int) (w : World) (h : SrcX w p zs T) (hu : U8 zs) (hT : T ≤ 1000000) (hn0 : 1 ≤ n) (hn1 : n ≤ 1000) (hl : zs.length ≤ 2097152) :
    Calls Tryz.prog 22 #[.pointer (some ⟨p, 0, none⟩), .int .i64 n] w fun e w' => ∃ r : Bool, e = .returned (.bool r) ∧ SrcX w' p zs (T + 1) ∧ Kept (fun b => b = p) w w' := by
  have HS := hide h
  have HU := hide hu
  clear h hu
  go_enter Tryz.func22, Tryz.ntmps22
  go_wp2_with fail
  refine (next_e p zs T n _ HS.out HU.out hT hn0 hn1 hl).mono ?_
  rintro e w1 ⟨r, rfl, r1, s1, k1⟩
  have S1 := hide s1
  have K1 := hide k1
  clear s1 k1
  go_wp2_with fail
  go_ret
  exact ⟨_, rfl, S1.out, K1.out⟩

def TextsQ (Q : Bs → Prop) (w : World) (g n : Nat) : Prop := g < w.heap.size ∧ ∀ i, i < n → ∃ x : Bs, w.cell? ⟨g, i, none⟩ = some (.string (str x)) ∧ Q x
theorem TextsQ.new {Q : Bs → Prop} {w : World} {t : TypeId} {vs : List Bs} (h : ∀ x ∈ vs, Q x) : TextsQ Q (w.alloc (.cells (vs.map vS).toArray t)) w.heap.size vs.length := by
  refine ⟨by simp, fun i hi => ⟨vs[i], ?_, h _ (List.getElem_mem hi)⟩⟩
  rw [cell_of_row _ w.heap.size i (vs.map vS).toArray t (0, 0) (heap_alloc_new w _)]
  simp [hi, vS]
theorem TextsQ.kept {Q : Bs → Prop} {S : Nat → Prop} {w w' : World} {g n : Nat} (h : TextsQ Q w g n) (hk : Kept S w w') (hn : ¬ S g) : TextsQ Q w' g n :=
  ⟨Nat.lt_of_lt_of_le h.1 hk.size, fun i hi => by obtain ⟨x, hx, hl⟩ := h.2 i hi; exact ⟨x, (hk.cell (p := ⟨g, i, none⟩) h.1 hn).trans hx, hl⟩⟩

set_option maxRecDepth 100000 in
set_option maxHeartbeats 800000 in
theorem name_e (p : Nat) (zs : List Int) (T : Int) (w : World) (h : SrcX w p zs T) (hu : U8 zs) (hT : T ≤ 1000000) (hl : zs.length ≤ 2097152) :
    Calls Tryz.prog 100 #[.pointer (some ⟨p, 0, none⟩)] w fun e w' => ∃ x : Bs, e = .returned (.string (str x)) ∧ (plain x = true ∧ x.length ≤ 2) ∧ SrcX w' p zs (T + 1) ∧ Kept (fun b => b = p) w w' := by
  have hp := h.lt
  have T0 := hide (TextsQ.new (Q := fun x => plain x = true ∧ x.length ≤ 2) (w := w) (t := 9) (vs := [[97], [98], [99], [97, 98]]) (by decide))
  have HS := hide (h.below (below_alloc w (.cells ([[97], [98], [99], [97, 98]].map vS).toArray 9)))
  have HU := hide hu
  clear h hu
  go_enter Tryz.func100, Tryz.ntmps100
  go_wp2_with fail
  refine (next_e p zs T 4 _ HS.out HU.out hT (by decide) (by decide) hl).mono ?_
  rintro e w1 ⟨i, rfl, r1, s1, k1⟩
  have T1 := hide (T0.out.kept k1 (by omega))
  have S1 := hide s1
  have K1 := hide (((Kept.refl (fun b => b = p) w).alloc (.cells ([[97], [98], [99], [97, 98]].map vS).toArray 9)).trans k1)
  clear s1 k1 T0 HS
  obtain ⟨x, hx, hxl⟩ := T1.out.2 i (by simp; omega)
  have hb := T1.out.1
  have HX := hide hxl
  clear hxl
  go_wp2_with fail
  go_ret
  exact ⟨x, rfl, HX.out, S1.out, K1.out⟩

end Go.Proofs.YtolnlfnndnpiiaaGreat

namespace Go.Proofs.YtolnlfnndnpiiaaGreat
open Go.RowKit Go.Maps
set_option linter.unusedVariables false
attribute [local go_sem ↓] Go.wp_at_zero Go.wp_at_succ

set_option maxRecDepth 100000 in
set_option maxHeartbeats 1600000 in
theorem path_e (p : Nat) (zs : List Int) (T : Int) (w : World) (h : SrcX w p zs T) (hu : U8 zs) (hT : T ≤ 900000) (hl : zs.length ≤ 2097152) :
    Calls Tryz.prog 62 #[.pointer (some ⟨p, 0, none⟩)] w fun e w' => ∃ x : Bs, e = .returned (.string (str x)) ∧ faultP x = 0 ∧ x.length ≤ 9 ∧ SrcX w' p zs (T + 4) ∧ Kept (fun b => b = p) w w' := by
  obtain ⟨i1, ki, kz0, kz1, kz2⟩ := info_parts infoS
  have hp := h.lt
  have HS := hide ((h.below (below_alloc w (.cells #[] 9))).below (below_alloc _ (.cells #[.int .i64 1, .int .i64 1, .int .i64 2, .int .i64 2, .int .i64 3] 2)))
  have O0 := hide (OwnS.below (w' := (w.alloc (.cells #[] 9)).alloc (.cells #[.int .i64 1, .int .i64 1, .int .i64 2, .int .i64 2, .int .i64 3] 2)) (ps := []) (World.ownsRow_made (base := w.heap.size) (e := 9) (size := 1) w #[] 0 (Nat.le_refl _) (Nat.zero_le _) rfl) (below_alloc _ _))
  have HU := hide hu
  have K0 := hide (((Kept.refl (fun b => b = p) w).alloc (.cells #[] 9)).alloc (.cells #[.int .i64 1, .int .i64 1, .int .i64 2, .int .i64 2, .int .i64 3] 2))
  have C5 := hide (cells5' (w.alloc (.cells #[] 9)) 1 1 2 2 3 2)
  clear h hu
  go_enter Tryz.func62, Tryz.ntmps62
  go_wp2_with fail
  refine (pick_e p (w.heap.size + 1) 5 5 [1, 1, 2, 2, 3] zs T _ HS.out HU.out (by omega) hl (by decide) (by decide) rfl (by omega) (by simp) (by simpa using C5.out)).mono ?_
  rintro e w1 ⟨v, hv, rfl, s1, k1⟩
  have hv2 : 1 ≤ v ∧ v ≤ 3 := by simp at hv; omega
  obtain ⟨m0, rfl⟩ : ∃ m : Nat, v = m := ⟨v.toNat, by omega⟩
  have S1 := hide s1
  have O1 := hide (O0.out.kept k1 (fun b hb e => by have := (O0.out.lt b hb).1; omega))
  have K1 := hide (K0.out.trans k1)
  clear s1 k1 O0 K0 C5 HS hv
  go_wp2_with fail
  go_loopw [3, 4] (fun v k wr => ∃ (q : List Bs) (m : Nat), k = .int .i64 m ∧ q.length + m = m0 ∧ Hid (∀ n ∈ q, plain n = true ∧ n.length ≤ 2) ∧ Hid (OwnS w.heap.size wr v q) ∧ Hid (SrcX wr p zs (T + 1 + q.length)) ∧ Hid (Kept (fun b => b = p) w wr)) (fun _ k _ => (intOf k).toNat)
  case atStart => exact ⟨[], m0, rfl, by simp, hide (by simp), O1, hide (by simpa using S1.out), K1⟩
  case round =>
    obtain ⟨q, m, rfl, hqm, HN, HO, HSr, HK⟩ := hrel
    obtain ⟨va, vc, rfl⟩ := HO.out.shape
    by_cases hm : 0 < m
    · have hm' : (0 : Int) < (m : Int) := by omega
      have hm1 : q.length + 1 ≤ maxLen := by unfold maxLen; omega
      have hm2 : (q.length + 1) * 16 ≤ 140737488355328 := by omega
      go_wp2_with fail
      refine (name_e p zs _ _ HSr.out HU.out (by omega) hl).mono ?_
      rintro e w2 ⟨x, rfl, hxl, s2, k2⟩
      have S2 := hide s2
      have HX := hide hxl
      have O2 := hide (HO.out.kept k2 (fun b hb e => by have := (HO.out.lt b hb).1; omega))
      have K2 := hide (HK.out.trans k2)
      have hsz : w.heap.size ≤ w2.heap.size := K2.out.size
      clear s2 k2 hxl
      go_wp2_with (at_builtin; refine wpList_append_one rfl (.tmp 13) (.tmp 16) 100 rfl w.heap.size 9 i1 (.string ⟨#[]⟩) 1 16 Tryz.underlying100 ki kz0 kz1 kz2 rfl (by decide) _ _ _ rfl O2.out rfl rfl (by intro u hu; simp at hu; subst hu; rfl) hm1 hm2 hsz ?_; intro v' w3 hown3 hkept; have O3 := hide (OwnS.snoc hown3 rfl); have K3 := hide hkept; clear hown3 hkept)
      go_roundw
      case rel => exact ⟨q ++ [x], m - 1, by go_num, by simp; omega, hide (fun n hn => by rcases List.mem_append.1 hn with h | h; exact HN.out n h; simp at h; rw [h]; exact HX.out), O3, hide ((S2.out.kept K3.out (fun b hb e => by have := (O2.out.lt b e).1; omega)).mono (by simp; omega)), hide (K2.out.trans_own K3.out (fun b hb e => by have := (O2.out.lt b e).1; omega))⟩
      case measure => simp [intOf]; omega
    · have hm' : ¬ (0 : Int) < (m : Int) := by omega
      have hjl := join_small q (fun n hn => (HN.out n hn).2)
      have HFP := hide (show faultP (joinB q) = 0 from faultP_of ⟨by intro e; rw [e] at hqm; simp at hqm; omega, fun n hn => (HN.out n hn).1, fun n hn => by have := (HN.out n hn).2; omega, by omega⟩)
      go_wp2_with fail
      refine (l3Join_any _ _ q _ HO.out.reads (by omega) (by omega) _ rfl).mono ?_
      rintro e w2 ⟨rfl, rfl⟩
      go_wp2_with fail
      go_ret
      exact ⟨joinB q, rfl, HFP.out, by omega, HSr.out.mono (by omega), HK.out⟩

set_option maxRecDepth 100000 in
set_option maxHeartbeats 1600000 in
theorem bent_e (p : Nat) (zs : List Int) (T : Int) (w : World) (h : SrcX w p zs T) (hu : U8 zs) (hT : T ≤ 800000) (hl : zs.length ≤ 2097152) :
    Calls Tryz.prog 23 #[.pointer (some ⟨p, 0, none⟩)] w fun e w' => ∃ x : Bs, e = .returned (.string (str x)) ∧ x.length ≤ 9 ∧ SrcX w' p zs (T + 5) ∧ Kept (fun b => b = p) w w' := by
  have hp := h.lt
  have HS := hide h
  have HU := hide hu
  clear h hu
  go_enter Tryz.func23, Tryz.ntmps23
  go_wp2_with fail
  refine (chance_e p zs T 5 _ HS.out HU.out (by omega) (by decide) (by decide) hl).mono ?_
  rintro e w1 ⟨r, rfl, s1, k1⟩
  have S1 := hide s1
  have K1 := hide k1
  have hp1 := s1.lt
  clear s1 k1 HS
  cases r
  · go_wp2_with fail
    refine (path_e p zs _ _ S1.out HU.out (by omega) hl).mono ?_
    rintro e w2 ⟨x, rfl, -, hxl, s2, k2⟩
    have S2 := hide s2
    have K2 := hide (K1.out.trans k2)
    clear k2 s2
    go_wp2_with fail
    go_ret
    exact ⟨x, rfl, hxl, S2.out.mono (by omega), K2.out⟩
  · have T0 := hide (TextsQ.new (Q := fun x => x.length ≤ 9) (w := w1) (t := 9) (vs := [[], [97], [47, 97, 47], [47, 47], [47, 65], [47, 97, 98, 99, 100, 101], [47, 97, 47, 98, 47, 99, 47, 100], [47], [47, 97, 32, 98]]) (by decide))
    have S2 := hide (S1.out.below (below_alloc w1 (.cells ([[], [97], [47, 97, 47], [47, 47], [47, 65], [47, 97, 98, 99, 100, 101], [47, 97, 47, 98, 47, 99, 47, 100], [47], [47, 97, 32, 98]].map vS).toArray 9)))
    go_wp2_with fail
    refine (next_e p zs _ 9 _ S2.out HU.out (by omega) (by decide) (by decide) hl).mono ?_
    rintro e w2 ⟨i, rfl, r1, s2, k2⟩
    have T1 := hide (T0.out.kept k2 (by omega))
    have K2 := hide ((K1.out.alloc (.cells ([[], [97], [47, 97, 47], [47, 47], [47, 65], [47, 97, 98, 99, 100, 101], [47, 97, 47, 98, 47, 99, 47, 100], [47], [47, 97, 32, 98]].map vS).toArray 9)).trans k2)
    have S3 := hide s2
    clear s2 k2 T0 S2
    obtain ⟨x, hx, hxl⟩ := T1.out.2 i (by simp; omega)
    have hb := T1.out.1
    go_wp2_with fail
    go_ret
    exact ⟨x, rfl, hxl, S3.out.mono (by omega), K2.out⟩

theorem bare_right {p : Bs} {k : Int} (hp : faultP p = 0) (hk : 2 ≤ k ∧ k ≤ 4) : entFault ⟨p, k, 0, []⟩ = 0 := by
  rw [entFault_digs (e := ⟨p, k, 0, []⟩) hp (decide_eq_true ⟨⟨by show (1 : Int) ≤ k; omega, by show k ≤ 4; omega⟩, .inr ⟨rfl, rfl⟩⟩) (decide_eq_true (show (0 : Int) ≤ 0 ∧ (0 : Int) ≤ 24 by decide)) (decide_eq_true (show ((0 : Nat) : Int) = ((0 : Int) + 7) / 8 by decide))]
  rfl
theorem file_right {p : Bs} {zs : List Int} (hp : faultP p = 0) (hl : zs.length ≤ 24) : entFault (fileE p zs) = 0 := by
  have h1 : formE (fileE p zs) = true := decide_eq_true ⟨by simp [fileE], .inl rfl⟩
  have h2 : sizeE (fileE p zs) = true := decide_eq_true (by simp [fileE]; omega)
  have h3 : manyE (fileE p zs) = true := decide_eq_true (by show ((digs zs (cut zs).length).length : Int) = ((zs.length : Int) + 7) / 8; rw [digs_len, cut_length]; omega)
  rw [entFault_digs hp h1 h2 h3, if_pos]
  rw [List.all_eq_true]
  intro z hz
  simp only [fileE, digs, List.mem_map] at hz
  obtain ⟨i, _, rfl⟩ := hz
  exact decide_eq_true (digest_range _)
def DrawnE (w : World) (p : Nat) (zs : List Int) (T : Int) (Q : En → Prop) (r : Ending) (w' : World) : Prop :=
  ∃ (e : En) (a : Option Addr) (c : Nat), r = .returned (.agg #[.string (str e.path), .int .i64 e.kind, .int .i64 e.size, .slice a e.chunks.length c]) ∧ Q e ∧ w'.ownsRow w.heap.size 2 1 (.slice a e.chunks.length c) e.chunks.length (e.chunks.map (Value.int .i64)) ∧ SrcX w' p zs T ∧ Kept (fun b => b = p) w w'

end Go.Proofs.YtolnlfnndnpiiaaGreat

