/-
  The program's seen: a copy of the map, less what is not seen.
-/
import Derived.Test.YtjkmbicedbdifaaGreatJ3
import Derived.Shelf.SlMaps.Clone
import Derived.Lib.SlMapFilter
namespace Go.Proofs.YtjkmbicedbdifaaGreat
open Go.RowKit Go.Maps
set_option linter.unusedVariables false
attribute [local go_sem ↓] Go.wp_at_zero Go.wp_at_succ

set_option maxRecDepth 100000 in
set_option maxHeartbeats 1600000 in
theorem cloneMap_any (b : Nat) (es : Array MapEntry) (clock : Nat) (w : World) (hb : w.heap[b]? = some (.map es clock)) :
    Calls Tryz.prog 60 #[.map (some b)] w fun e w' => e = .returned (.map (some w.heap.size)) ∧ w' = w.alloc (.map es clock) := by
  have hq := fun w => run_eql_map_nil_sl (P := Tryz.prog) w 57 _ _ (some b) Tryz.underlying57
  go_enter Tryz.func60, Tryz.ntmps60
  go_wp2
  rw [run_callFunc_extern Tryz.func97 (by kernel_rfl) (by kernel_rfl) (by kernel_rfl) (e := Extern.MapsClone.clone) (by kernel_rfl), run_maps_clone_sl w 57 hb]
  simp only [Result.andThen]
  rw [Oper.upon_value]
  go_wp2
  rw [run_typeAssert_map_sl _ 57 _ _ _ _ Tryz.underlying57]
  simp only [Result.andThen]
  rw [Oper.upon_value]
  go_wp2
  go_ret
  exact ⟨rfl, rfl⟩
theorem cloneSee_any (b N : Nat) (S : Nat → Bs → Option En) (w0 w : World) (h : SeeM w0 w b N S) :
    Calls Tryz.prog 60 #[.map (some b)] w fun r w' => r = .returned (.map (some w.heap.size)) ∧ SeeM w0 w' w.heap.size N S ∧ Below w.heap.size w w' := by
  obtain ⟨Dt, A, C, h1, h2⟩ := h
  obtain ⟨es, clock, hb, F, hs, hD⟩ := h1
  refine (cloneMap_any b es clock w hb).mono fun e w' ⟨he, hw⟩ => ?_
  subst hw
  exact ⟨he, ⟨Dt, A, C, ⟨es, clock, (MapKept.heap_alloc w _).1, F, hs, hD⟩, h2⟩, below_alloc _ _⟩
/-- Is an entry not seen, of what S has? -/
def goneS (S : Nat → Bs → Option En) (i : Nat) (p : Bs) : Bool := !decide (seenG S p 4 = some i)
set_option maxRecDepth 100000 in
set_option maxHeartbeats 3200000 in
theorem seenLit_any (b N i bx : Nat) (p : Bs) (S : Nat → Bs → Option En) (e : En) (x : Option Addr) (cc : Nat) (w0 w : World) (h : SeeM w0 w b N S) (hp : p.length ≤ 1048576) (hx : w.cell? ⟨bx, 0, none⟩ = some (.map (some b))) :
    Calls Tryz.prog 62 (#[spotV i p, itV e x cc] ++ #[.pointer (some ⟨bx, 0, none⟩)]) w fun r w' => r = .returned (.bool (goneS S i p)) ∧ Below w.heap.size w w' := by
  have hbx : bx < w.heap.size := World.block_lt_of_cell? w ⟨bx, 0, none⟩ hx
  have BA := hide (below_alloc w (.cells #[.int .i64 i, .string (str p)] 73))
  have YA := hide (Box.new w (.int .i64 i) (.string (str p)) 73)
  have BB := hide (below_alloc (w.alloc (.cells #[.int .i64 i, .string (str p)] 73)) (.cells #[.int .i64 e.size, .slice x e.chunks.length cc, .string (str e.path), .int .i64 e.kind] 64))
  have B2 := hide (below_next BA.out BB.out)
  have Y2 := hide (YA.out.below BB.out)
  have HS := hide (seenAt_any b N p S w0 _ ((h.below BA.out).below BB.out) hp)
  have hx2 := (B2.out.cell (p := ⟨bx, 0, none⟩) hbx).trans hx
  obtain ⟨⟨y0, y1⟩, y2, y3⟩ := Y2.out
  clear BA YA BB h hx
  unfold spotV itV
  unfold ResW at HS
  cases hs : seenG S p 4 with
  | none =>
    have HG := hide (show goneS S i p = true by simp [goneS, hs])
    rw [hs] at HS
    clear hs
    go_enter Tryz.func62, Tryz.ntmps62
    go_wp2_with fail
    refine HS.out.mono ?_
    rintro r w3 ⟨⟨v, s, rfl⟩, hb3⟩
    have B3 := hide (below_next B2.out (below_next hb3 (below_alloc _ (.cells #[.int .i64 v, .string s] 73))))
    clear hb3 y0 y1 y2 y3
    go_wp2_with fail
    go_ret
    exact ⟨by rw [HG.out]; rfl, B3.out⟩
  | some k =>
    rw [hs] at HS
    have HG := hide (show goneS S i p = !decide (k = i) by simp [goneS, hs])
    clear hs
    unfold spotV at HS
    go_enter Tryz.func62, Tryz.ntmps62
    go_wp2_with fail
    refine HS.out.mono ?_
    rintro r w3 ⟨rfl, hb3⟩
    have BC := hide (below_next hb3 (below_alloc _ (.cells #[.int .i64 k, .string (str p)] 73)))
    have B3 := hide (below_next B2.out BC.out)
    clear y0 y1 y2 y3
    obtain ⟨⟨y0, y1⟩, y2, y3⟩ := Y2.out.below BC.out
    clear hb3
    by_cases hk : k = i
    · subst hk
      have HG2 := hide (show goneS S k p = false by rw [HG.out]; simp)
      go_wp2_with fail
      go_ret
      exact ⟨by rw [HG2.out]; rfl, B3.out⟩
    · have HG2 := hide (show goneS S i p = true by rw [HG.out]; simp [hk])
      have hk2 : ¬ (k : Int) = (i : Int) := by omega
      go_wp2_with fail
      go_ret
      exact ⟨by rw [HG2.out]; rfl, B3.out⟩
/-- A closure that answers f of a spot, in worlds that came of W0, the map at b apart. -/
def AsksM (W0 : World) (b : Nat) (S : Nat → Bs → Option En) (fn : FuncId) (cap : Array Value) (f : Nat → Bs → Bool) : Prop :=
  (∀ args w, (callFunc fn args).run Tryz.prog w = .ok (.enter fn args) w) ∧ ∀ (i : Nat) (p : Bs) (e : En) (x : Option Addr) (cc : Nat) (w : World), i ≤ 100 → p.length ≤ 1048576 → Kept (fun y => y = b) W0 w →
    Calls Tryz.prog fn (#[spotV i p, itV e x cc] ++ cap) w fun r w' => r = .returned (.bool (f i p)) ∧ Below w.heap.size w w'
/-- A predicate on spots, said of keys. -/
theorem key_pred (f : Nat → Bs → Bool) : ∃ pk : Lit → Bool, ∀ i p, i ≤ 100 → p.length ≤ 1048576 → pk (spotK i p) = f i p := by
  refine ⟨fun kl => @decide (∃ i p, i ≤ 100 ∧ p.length ≤ 1048576 ∧ kl = spotK i p ∧ f i p = true) (Classical.propDecidable _), fun i p hi hp => ?_⟩
  rw [Bool.eq_iff_iff, @decide_eq_true_iff _ (Classical.propDecidable _)]
  constructor
  · rintro ⟨j, q, hj, hq, he, hf⟩
    obtain ⟨rfl, rfl⟩ := spotK_inj hi hj hp hq he
    exact hf
  · intro hf; exact ⟨i, p, hi, hp, rfl, hf⟩
theorem drop_has {f : Lit → Bool} {es : List (Lit × DataW Value)} {kl : Lit} : has (Lib.deleteFuncD (fun k _ => f k) (.map es)) kl = (has (.map es) kl && !f kl) := by
  show (es.filter fun p => !f p.1).any (fun p => p.1.sameKey kl) = (es.any (fun p => p.1.sameKey kl) && !f kl)
  induction es with
  | nil => simp
  | cons x r ih =>
    cases hs : x.1.sameKey kl
    · cases hx : f x.1
      · rw [List.filter_cons_of_pos (by simp [hx]), List.any_cons, List.any_cons, hs, ih]; simp
      · rw [List.filter_cons_of_neg (by simp [hx]), List.any_cons, hs, ih]; simp
    · have e := WideAt.sameKey_eq hs
      cases hx : f x.1
      · have h0 : f kl = false := by rw [← e]; exact hx
        rw [List.filter_cons_of_pos (by simp [hx]), List.any_cons, List.any_cons, hs, h0]; simp
      · have h0 : f kl = true := by rw [← e]; exact hx
        rw [List.filter_cons_of_neg (by simp [hx]), ih, List.any_cons, hs, h0]; simp
theorem dropK_at {f : Lit → Bool} {es : List (Lit × DataW Value)} {kl : Lit} (hk : f kl = false) (z : DataW Value) : (Lib.deleteFuncD (fun k _ => f k) (.map es)).atKey kl z = (DataW.map es).atKey kl z := by
  have hfind : (es.filter fun p => !f p.1).find? (fun p => p.1.sameKey kl) = es.find? (fun p => p.1.sameKey kl) := by
    induction es with
    | nil => rfl
    | cons x r ih =>
      cases hs : x.1.sameKey kl
      · cases hx : f x.1
        · rw [List.filter_cons_of_pos (by simp [hx]), List.find?_cons_of_neg (by simp [hs]), List.find?_cons_of_neg (by simp [hs]), ih]
        · rw [List.filter_cons_of_neg (by simp [hx]), List.find?_cons_of_neg (by simp [hs]), ih]
      · have e := WideAt.sameKey_eq hs
        have hx : f x.1 = false := by rw [e]; exact hk
        rw [List.filter_cons_of_pos (by simp [hx]), List.find?_cons_of_pos (by simp [hs]), List.find?_cons_of_pos (by simp [hs])]
  simp only [Lib.deleteFuncD, DataW.atKey, hfind]
theorem at_has {es : List (Lit × DataW Value)} {kl : Lit} {d : DataW Value} (h : ∀ z, (DataW.map es).atKey kl z = d) : ∃ q ∈ es, q.1 = kl := by
  cases hf : es.find? (fun p => p.1.sameKey kl) with
  | some q => exact ⟨q, List.mem_of_find?_eq_some hf, WideAt.sameKey_eq (by simpa using List.find?_some hf)⟩
  | none =>
    have h1 := h .nil
    have h2 := h (.map [])
    simp only [DataW.atKey, hf] at h1 h2
    rw [← h1] at h2; cases h2
theorem grown_below {w w' : World} (h : Below w.heap.size w w') : w.grownBy w' none := ⟨h.os, h.tape, h.output, h.size, fun k hk _ => h.block k hk⟩
/-- What an entry is that has come in a range over the map. -/
theorem see_came {S : Nat → Bs → Option En} {w0 : World} {A : Nat → Bs → Option Addr} {C : Nat → Bs → Nat} {es0 : List (Lit × DataW Value)} {pd : Lit → DataW Value → Bool} {left : Lit → Bool} {x c : Value} {kl : Lit} {yd : DataW Value} {yp : List MemPlace}
    (hap : es0.Pairwise (fun p q => p.1 ≠ q.1)) (h2 : ∀ i p, i ≤ 100 → p.length ≤ 1048576 → has (.map es0) (spotK i p) = (S i p).isSome)
    (h3 : ∀ i p e, i ≤ 100 → p.length ≤ 1048576 → S i p = some e → (∀ z, (DataW.map es0).atKey (spotK i p) z = .held (itV e (A i p) (C i p))) ∧ Reads .i64 w0 (A i p) e.chunks)
    (h4 : ∀ kl, has (.map es0) kl = true → ∃ i p, i ≤ 100 ∧ p.length ≤ 1048576 ∧ kl = spotK i p)
    (hkey : keyOf Tryz.prog 73 x = some kl) (hlx : left kl = true) (hv : RVs c = some (yd, yp)) (hat : ∀ z, (Fk pd es0 left).atKey kl z = yd) :
    ∃ i p e, i ≤ 100 ∧ p.length ≤ 1048576 ∧ kl = spotK i p ∧ x = spotV i p ∧ c = itV e (A i p) (C i p) ∧ S i p = some e := by
  have hk := spotLaw.key hkey
  have hc := at_cameK hap hk hlx hat
  obtain ⟨q, hq, hqk⟩ := at_has (show ∀ z, (DataW.map (es0.filter fun p => !pd p.1 p.2 || left p.1)).atKey kl z = yd from hat)
  have hq0 := (List.mem_filter.1 hq).1
  have hhas : has (.map es0) kl = true := List.any_eq_true.2 ⟨q, hq0, by rw [hqk]; exact WideAt.sameKey_self hk⟩
  obtain ⟨i, p, hi, hp, rfl⟩ := h4 kl hhas
  have hx : x = spotV i p := spotLaw.inj hkey (spot_key hi hp)
  rw [h2 i p hi hp] at hhas
  obtain ⟨e, he⟩ := Option.isSome_iff_exists.1 hhas
  have h5 := (h3 i p e hi hp he).1 .nil
  have h6 := WideAt.atKey_mem (H := Value) (entries := es0) (d := q.2) .nil hk hap (by rw [← hqk]; exact hq0)
  have h7 := hc q hq0 hqk
  rw [h6, h7] at h5
  simp only [RVs, Option.some.injEq, Prod.mk.injEq] at hv
  have h8 := hv.1.trans h5
  simp only [DataW.held.injEq] at h8
  exact ⟨i, p, e, hi, hp, rfl, hx, h8, he⟩
set_option maxRecDepth 100000 in
set_option maxHeartbeats 4000000 in
theorem deleteFunc_any (b N : Nat) (S : Nat → Bs → Option En) (fn : FuncId) (cap : Array Value) (f : Nat → Bs → Bool) (w0 w : World) (h : SeeM w0 w b N S) (hf : AsksM w b S fn cap f) :
    Calls Tryz.prog 61 #[.map (some b), .func (.func fn) #[] cap] w fun r w' => r = .returned (.tuple #[]) ∧ SeeM w0 w' b N (fun i p => if f i p then none else S i p) ∧ Kept (fun x => x = b) w w' := by
  obtain ⟨Dt, A, C, h1, h2, h3, h4⟩ := h
  obtain ⟨pk, hpk⟩ := key_pred f
  obtain ⟨es0, rfl, hap, hkeys⟩ := h1.entries spotLaw
  have hown := h1
  have eg := hf.1
  have HF := hide hf.2
  have H2 := hide h2
  have H3 := hide h3
  have H4 := hide h4
  have HP := hide hpk
  have HEnd := hide (show ∀ w', w'.ownsMap Tryz.prog 73 RVs b N (Lib.deleteFuncD (fun k _ => pk k) (.map es0)) → SeeM w0 w' b N (fun i p => if f i p then none else S i p) from fun w' ho => by
    refine ⟨_, A, C, ho, fun i p hi hp => ?_, fun i p e hi hp he => ?_, fun kl hkl => ?_⟩
    · rw [drop_has, H2.out i p hi hp, HP.out i p hi hp]
      cases hx : f i p <;> simp [hx]
    · have hfi : f i p = false := by
        cases hx : f i p
        · rfl
        · simp [hx] at he
      have hS : S i p = some e := by simpa [hfi] using he
      obtain ⟨g1, g2⟩ := H3.out i p e hi hp hS
      exact ⟨fun z => by rw [dropK_at (by rw [HP.out i p hi hp]; exact hfi)]; exact g1 z, g2⟩
    · rw [drop_has] at hkl
      exact H4.out kl (by simp at hkl; exact hkl.1))
  clear h2 h3 h4 hpk hf h1
  go_enter Tryz.func61, Tryz.ntmps61
  go_wp2_with (first
    | (at_range; refine wpList_range_own _ rfl _ 57 rfl 73 64 spotLaw Tryz.underlying57 RVs b N _ rfl hown ?_; intro w0 hrg0 hg0 hs0)
    | go_in)
  go_frame
  go_loopw [8] (fun _ wr => ∃ (left : Lit → Bool) (cnt : Nat), wr.ranges Tryz.prog 73 RVs b w.heap.size N (Fk (fun k _ => pk k) es0 left) left cnt ∧ w.grownBy wr (some b))
    (fun _ wr => wr.rangeLeft b w.heap.size)
  case atStart => exact ⟨_, _, by rw [Fk_start hkeys]; exact hrg0, hg0.but _⟩
  case round =>
    obtain ⟨left, cnt, hrg, hgw⟩ := hrel
    go_wp2_with (first
      | (at_next; refine wpList_next_ranges _ rfl _ rfl 73 spotLaw RVs id id (fun key _ _ => ⟨key, rfl⟩) (fun v _ _ => ⟨v, rfl⟩) b w.heap.size N _ _ _ rfl hrg ?_ ?_)
      | go_in)
    · intro _ hl0
      go_wp2
      go_end0
      exact ⟨rfl, HEnd.out _ (by rw [← Fk_end hl0]; exact hrg.owns), see_grown hgw⟩
    · intro x c kl yd yp w1 cnt1 hkey hlx hv hat hrg1 hlt hg1 hs1 hen
      obtain ⟨i, p, e, hi, hp, rfl, hx, hcc, he⟩ := see_came hap H2.out H3.out H4.out hkey hlx hv hat
      have hgw1 := hgw.andThen hg1 (fun j hj => by cases hj; exact Or.inl (Nat.le_refl _))
      have hx2 : x = spotV i p := hx
      have hc2 : c = itV e (A i p) (C i p) := hcc
      subst hx2 hc2
      clear hx hcc
      have BA := hide (below_alloc w1 (.cells #[.int .i64 i, .string (str p)] 73))
      have BB := hide (below_alloc (w1.alloc (.cells #[.int .i64 i, .string (str p)] 73)) (.cells #[.int .i64 e.size, .slice (A i p) e.chunks.length (C i p), .string (str e.path), .int .i64 e.kind] 64))
      have BC := hide (below_next BA.out BB.out)
      have YC := hide ((Box.new w1 (.int .i64 i) (.string (str p)) 73).below BB.out)
      have hc := HF.out i p e (A i p) (C i p) _ hi hp (see_grown (hgw1.andThen (grown_below BC.out) (fun j hj => by cases hj)))
      rw [hs1] at YC
      have HPK := hide (HP.out i p hi hp)
      have HHat := hide hat
      have HKy := hide hkey
      unfold spotV itV at hc hen ⊢
      clear BA BB he hat hkey hv
      cases hp2 : f i p
      · rw [hp2] at hc
        have HC := hide hc
        have hpk2 : pk (spotK i p) = false := HPK.out.trans hp2
        clear hc hp2
        go_wp2_with go_in
        refine HC.out.mono ?_
        rintro r w2 ⟨rfl, hb2⟩
        have hg2 := grown_below (below_next BC.out hb2)
        have hrg2 := hrg1.kept hg2 (by simp) (by simp)
        clear hb2 hen
        go_wp2_with go_in
        go_roundw
        case rel => exact ⟨_, cnt1, by rw [← Fk_stays hap (spotLaw.key HKy.out) hlx hpk2 HHat.out]; exact hrg2, hgw1.andThen hg2 (fun j hj => by cases hj)⟩
        case measure => rw [hrg2.left_eq, hrg.left_eq]; exact hlt
      · rw [hp2] at hc
        have HC := hide hc
        have hpk2 : pk (spotK i p) = true := HPK.out.trans hp2
        clear hc hp2
        go_wp2_with go_in
        refine HC.out.mono ?_
        rintro r w2 ⟨rfl, hb2⟩
        have hg2 := grown_below (below_next BC.out hb2)
        have hrg2 := hrg1.kept hg2 (by simp) (by simp)
        obtain ⟨⟨y0, y1⟩, y2, y3⟩ := YC.out.below hb2
        clear hb2 hen
        go_wp2_with (first
          | (at_delete; refine wpList_delete_ranges _ rfl _ _ 57 73 rfl 64 spotLaw Tryz.underlying57 RVs b w.heap.size N _ _ _ rfl hrg2 _ _ rfl HKy.out ?_; intro w3 cnt3 hrg3 hle hturn; go_frame)
          | go_in)
        rw [strike_twice] at hrg3
        go_roundw
        case rel => exact ⟨_, cnt3, by rw [← Fk_struck hap (spotLaw.key HKy.out) hlx hpk2 HHat.out]; exact hrg3, (hgw1.andThen hg2 (fun j hj => by cases hj)).andThen hturn.grown (fun j hj => by cases hj; exact Or.inr rfl)⟩
        case measure => rw [hrg3.left_eq, hrg.left_eq]; omega
end Go.Proofs.YtjkmbicedbdifaaGreat
