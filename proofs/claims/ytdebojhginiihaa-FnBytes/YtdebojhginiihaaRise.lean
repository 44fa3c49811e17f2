/-
  The program's map of chunks as a list that rises by digest.
-/
import Derived.Test.YtdebojhginiihaaStoreC
import Derived.Test.YtdebojhginiihaaChunksMk
import Derived.Test.YtdebojhginiihaaLay
namespace Go.Proofs.Ytdebojhginiihaa
open Go.RowKit Go.Maps
set_option linter.unusedVariables false

/-- slices.Sort's two contracts at this dump, at the fence that asks nothing. -/
theorem sortsA (m : Nat) : AnyZI.SortsIn Try.prog Try.sortedA_ren Fence.wide m :=
  ⟨fun blk off cap ss W hH hblk hsz => callsIn_wide.2 (AnyM.slices_Sort_int Try.sortA blk off cap ss W hH hblk hsz),
   fun p cap W => callsIn_wide.2 (AnyM.slices_Sort_int_none Try.sortA p cap W)⟩

theorem keysCall (mb : Option Nat) (W : World) : Calls Try.prog 56 #[.map mb] W fun e w' => e = .returned (.func (.func 66) #[] #[.pointer (some ⟨W.heap.size, 0, none⟩)]) ∧ w' = W.alloc (.cells #[.map mb] 74) :=
  (callsIn_wide (n := 5)).1 (AnyZI.keys_in Try.keysA Fence.wide 5 trivial rfl mb W)

set_option maxHeartbeats 1000000 in
theorem sortedCall {H : Type} (b nn : Nat) (D0 : DataW H) (R : Value → Option (DataW H × List MemPlace)) (w : World) (hown : w.ownsMap Try.prog 2 R b nn D0) (hmax : Maps.size D0 ≤ maxLen) (hbytes : Maps.size D0 * 8 ≤ 140737488355328) :
    Calls Try.prog 55 #[.func (.func 66) #[] #[.pointer (some ⟨w.heap.size, 0, none⟩)]] (w.alloc (.cells #[.map (some b)] 74)) fun e w' => ∃ (v : Value) (ss : List Int), e = .returned v ∧ ss.Perm (intKeys D0) ∧
      w'.ownsRow (w.alloc (.cells #[.map (some b)] 74)).heap.size 2 1 v ss.length ((ss.mergeSort (fun x y => decide (x ≤ y))).map (Value.int .i64)) ∧ Below (w.alloc (.cells #[.map (some b)] 74)).heap.size (w.alloc (.cells #[.map (some b)] 74)) w' := by
  refine (callsIn_wide (n := 5)).1 ?_
  have hbl := hown.lt
  have hseq : SeqGives Fence.wide 2 Try.prog 66 #[.pointer (some ⟨w.heap.size, 0, none⟩)] encZ (fun ss => ss.Perm (intKeys D0)) (Maps.size D0) (w.alloc (.cells #[.map (some b)] 74)) :=
    AnyZI.keys_gives (ρ := Try.keysA_ren) { Try.keysA with } Fence.wide _ trivial rfl (by omega) w.heap.size b nn D0 _ (by simp) (by simp) (by
      obtain ⟨es, clock, hb, Ft, hs, hD⟩ := hown
      exact ⟨es, clock, (Below.heap_alloc _ _ b hbl).trans hb, Ft, hs, hD⟩)
  have cS := AnyZI.sorted_in Try.sortedA Fence.wide 5 trivial trivial trivial trivial rfl (by omega) (sortsA _) (enters_of Try.func65 (by kernel_rfl) rfl) 66 #[.pointer (some ⟨w.heap.size, 0, none⟩)] trivial (enters_of Try.func66 (by kernel_rfl) rfl) _ _ hmax hbytes _ hseq
  refine cS.mono ?_
  rintro e w' ⟨v, ss, he, hp, ho, _, hb⟩
  exact ⟨v, ss, he, hp, ho, hb⟩

theorem GC.shape {B T : Nat} {w : World} {v : Value} {D : Nat → Int} {P : Nat → List Int} {j : Nat} (h : GC B T w v D P j) : ∃ a c, v = .slice a j c := by
  obtain ⟨A, C, h1, _⟩ := h
  exact ownsRow_shape h1
theorem below_next' {B : Nat} {w w' w'' : World} (h : Below B w w') (k : Below w'.heap.size w' w'') (hB : B ≤ w'.heap.size := by omega) : Below B w w'' := h.trans (k.mono hB)

/-- One chunk more at a list's end. -/
theorem GC.push {B : Nat} {w w1 w2 : World} {v v' : Value} {D : Nat → Int} {P : Nat → List Int} {j g c : Nat} {A : Nat → Option Addr} {C : Nat → Nat} {d : Int} {zs : List Int}
    (h1 : w.ownsRow B 53 2 v j (flat j (chCells D P A C)))
    (h2 : ∀ i, i < j → w.ownsRow B 5 1 (.slice (A i) (P i).length (C i)) (P i).length ((P i).map (Value.int .u8)))
    (h3 : ∀ i i' g, i < j → i' < j → (A i).map Addr.block = some g → (A i').map Addr.block = some g → i = i') (hB : B ≤ w.heap.size) (hbel : Below w.heap.size w w1)
    (hown : w1.ownsRow w.heap.size 5 1 (.slice (some ⟨g, 0, none⟩) zs.length c) zs.length (zs.map (Value.int .u8)))
    (hv' : w2.ownsRow B 53 2 v' (j + 1) (flat j (chCells D P A C) ++ [.int .i64 d, .slice (some ⟨g, 0, none⟩) zs.length c]))
    (hk : Kept (fun b => v.ownBlock = some b) w1 w2) : GC B w2.heap.size w2 v' (upd D j d) (upd P j zs) (j + 1) := by
  have hob : ∀ i, ∀ g', (A i).map Addr.block = some g' → (Value.slice (A i) (P i).length (C i)).ownBlock = some g' := fun i g' hg => by
    cases hA : A i with
    | none => rw [hA] at hg; simp at hg
    | some x => rw [hA] at hg; simpa [Value.ownBlock] using hg
  have hA : ∀ i g', i < j → (A i).map Addr.block = some g' → g' < w.heap.size := fun i g' hi hg => ((h2 i hi).lt g' (hob i g' hg)).2
  have hg0 : w.heap.size ≤ g ∧ g < w1.heap.size := hown.lt g rfl
  have k1 := ownsRow_below h1 hbel
  refine ⟨upd A j (some ⟨g, 0, none⟩), upd C j c, ?_, ?_, ?_, ?_, fun b hb => (hv'.lt b hb).2⟩
  · rw [flat_succ]
    have e : flat j (chCells (upd D j d) (upd P j zs) (upd A j (some ⟨g, 0, none⟩)) (upd C j c)) = flat j (chCells D P A C) := flat_congr (fun i hi => by
      have : i ≠ j := by omega
      simp [chCells, upd_other _ _ _ this])
    rw [e]
    simpa [chCells, upd_same] using hv'
  · intro i hi
    by_cases e : i = j
    · subst e
      simp only [upd_same]
      exact ownsRow_kept (ownsRow_mono hown hB) hk (fun b hb hS => ownsRow_apart k1 hown (by decide) hS hb)
    · simp only [upd_other _ _ _ e]
      have k2 := ownsRow_below (h2 i (by omega)) hbel
      exact ownsRow_kept k2 hk (fun b hb hS => ownsRow_apart k1 k2 (by decide) hS hb)
  · intro i i' g' hi hi' e1 e2
    by_cases e : i = j
    · by_cases e' : i' = j
      · omega
      · rw [e, upd_same] at e1
        rw [upd_other _ _ _ e'] at e2
        simp only [Option.map_some, Option.some.injEq] at e1
        have := hA i' g' (by omega) e2
        omega
    · by_cases e' : i' = j
      · rw [upd_other _ _ _ e] at e1
        rw [e', upd_same] at e2
        simp only [Option.map_some, Option.some.injEq] at e2
        have := hA i g' (by omega) e1
        omega
      · rw [upd_other _ _ _ e] at e1
        rw [upd_other _ _ _ e'] at e2
        exact h3 i i' g' (by omega) (by omega) e1 e2
  · intro i g' hi e1
    have hsz := hk.size
    by_cases e : i = j
    · rw [e, upd_same] at e1
      simp only [Option.map_some, Option.some.injEq] at e1
      omega
    · rw [upd_other _ _ _ e] at e1
      have h5 := hA i g' (by omega) e1
      have := hbel.size
      omega

/-- The bytes of digest k in L. -/
def valOf (L : List Ch) (k : Int) : List Int := ((L.find? fun p => p.1 == k).map Prod.snd).getD []
theorem valOf_mem : ∀ {L : List Ch}, (L.map Prod.fst).Nodup → ∀ {p : Ch}, p ∈ L → valOf L p.1 = p.2
  | [], _, p, hp => by simp at hp
  | q :: L, hn, p, hp => by
    rw [List.map_cons, List.nodup_cons] at hn
    by_cases e : q.1 = p.1
    · rcases List.mem_cons.1 hp with rfl | hp'
      · simp [valOf]
      · exact absurd (by rw [e]; exact List.mem_map_of_mem hp') hn.1
    · rcases List.mem_cons.1 hp with rfl | hp'
      · exact absurd rfl e
      · have := valOf_mem hn.2 hp'
        unfold valOf at this ⊢
        rw [List.find?_cons_of_neg (by simpa using e)]
        exact this
/-- The chunks of L at the digests ks. -/
def chOf (L : List Ch) (ks : List Int) : List Ch := ks.map fun k => (k, valOf L k)
theorem chOf_keys {L : List Ch} (hn : (L.map Prod.fst).Nodup) : chOf L (L.map Prod.fst) = L := by
  unfold chOf
  rw [List.map_map]
  have : ∀ p ∈ L, ((fun k => (k, valOf L k)) ∘ Prod.fst) p = id p := fun p hp => by
    simp only [Function.comp, id, valOf_mem hn hp]
  rw [List.map_congr_left this, List.map_id]
/-- The digests of L, rising. -/
def keysUp (L : List Ch) : List Int := (L.map Prod.fst).mergeSort fun x y => decide (x ≤ y)
/-- The chunks of L, rising by digest. -/
def up (L : List Ch) : List Ch := chOf L (keysUp L)
theorem keysUp_perm (L : List Ch) : (keysUp L).Perm (L.map Prod.fst) := List.mergeSort_perm _ _
theorem up_perm {L : List Ch} (hn : (L.map Prod.fst).Nodup) : (up L).Perm L := by
  have h := (keysUp_perm L).map fun k => (k, valOf L k)
  have e : (L.map Prod.fst).map (fun k => (k, valOf L k)) = L := chOf_keys hn
  rw [e] at h
  exact h
theorem keysUp_up {L : List Ch} (hn : (L.map Prod.fst).Nodup) : (keysUp L).Pairwise (· < ·) := by
  have h1 : (keysUp L).Pairwise (fun x y => decide (x ≤ y) = true) := List.pairwise_mergeSort (fun a b c h1 h2 => by simp only [decide_eq_true_eq] at *; omega) (fun a b => by simp only [Bool.or_eq_true, decide_eq_true_eq]; omega) _
  have h2 : (keysUp L).Nodup := (keysUp_perm L).nodup_iff.2 hn
  have h3 : (keysUp L).Pairwise (fun x y => decide (x ≤ y) = true ∧ x ≠ y) := List.Pairwise.and h1 h2
  exact h3.imp (fun {a b} ⟨h4, h5⟩ => by simp only [decide_eq_true_eq] at h4; omega)
theorem up_up {L : List Ch} (hn : (L.map Prod.fst).Nodup) : (up L).Pairwise (fun p q => p.1 < q.1) := by
  unfold up chOf
  exact List.pairwise_map.2 (keysUp_up hn)
/-- Two lists that rise by digest and hold the same are one. -/
theorem up_unique {M M' : List Ch} (h : M.Perm M') (h1 : M.Pairwise (fun p q => p.1 < q.1)) (h2 : M'.Pairwise (fun p q => p.1 < q.1)) : M = M' :=
  List.Perm.eq_of_pairwise (le := fun p q => p.1 < q.1) (fun a b _ _ h3 h4 => by omega) h1 h2 h

theorem Holds.keys {w : World} {b N : Nat} {L : List Ch} {T : Nat} (h : Holds w b N L T) : ∃ Dt : DataW Value, w.ownsMap Try.prog 2 RV b N Dt ∧ size Dt = L.length ∧ (∀ ss : List Int, ss.Perm (intKeys Dt) → (ss.mergeSort fun x y => decide (x ≤ y)) = keysUp L ∧ ss.length = L.length) ∧ ∀ x ∈ keysUp L, (Lit.int .i64 x).wf = true := by
  obtain ⟨Dt, A, C, h1, h2, h3, h4, h5⟩ := h
  have hp : (L.map Prod.fst).Perm (intKeys Dt) := CollectedI.perm (left := fun _ => false) ⟨h5, fun x => by rw [h2 x]; simp⟩ h1 law64 Try.underlying2 (fun _ => rfl)
  refine ⟨Dt, h1, h4, fun ss hs => ⟨mergeSort_of_perm_i (hs.trans hp.symm), by rw [(hs.trans hp.symm).length_eq, List.length_map]⟩, fun x hx => ?_⟩
  exact intKeys_wf h1 Try.underlying2 x (hp.subset ((keysUp_perm L).subset hx))
theorem Holds.nodup {w : World} {b N : Nat} {L : List Ch} {T : Nat} (h : Holds w b N L T) : (L.map Prod.fst).Nodup := by
  obtain ⟨Dt, A, C, h1, h2, h3, h4, h5⟩ := h
  exact h5

/-- The digest and the bytes of chunk i. -/
def dg (L : List Ch) (i : Nat) : Int := (L.getD i (0, [])).1
def bt (L : List Ch) (i : Nat) : List Int := (L.getD i (0, [])).2
theorem keysUp_length (L : List Ch) : (keysUp L).length = L.length := by rw [(keysUp_perm L).length_eq, List.length_map]
theorem up_length (L : List Ch) : (up L).length = L.length := by unfold up chOf; rw [List.length_map, keysUp_length]
theorem up_dg {L : List Ch} {i : Nat} (hi : i < L.length) : dg (up L) i = (keysUp L).getD i 0 := by
  have h := keysUp_length L
  have hi2 : i < (keysUp L).length := by omega
  simp [dg, up, chOf, List.getD_eq_getElem?_getD, hi2]
theorem up_bt {L : List Ch} {i : Nat} (hi : i < L.length) : bt (up L) i = valOf L ((keysUp L).getD i 0) := by
  have h := keysUp_length L
  have hi2 : i < (keysUp L).length := by omega
  simp [bt, up, chOf, List.getD_eq_getElem?_getD, hi2]

set_option maxRecDepth 100000 in
set_option maxHeartbeats 3200000 in
theorem rising_any (b N : Nat) (L : List Ch) (T : Nat) (w : World) (h : Holds w b N L T) (hL : L.length ≤ 1048576) (hlen : ∀ p ∈ L, 0 < p.2.length ∧ p.2.length ≤ 1048576) (hT : T ≤ w.heap.size) :
    Calls Try.prog 43 #[.map (some b)] w fun e w' => ∃ a c, e = .returned (.slice a L.length c) ∧ GC w.heap.size w'.heap.size w' (.slice a L.length c) (dg (up L)) (bt (up L)) L.length ∧ Below w.heap.size w w' := by
  obtain ⟨i1, ki, kz0, kz1, kz2⟩ := info_parts Try.infoCh
  obtain ⟨Dt, hown, hsize, hkeys, hwf⟩ := h.keys
  have hnd := h.nodup
  have hbl := h.lt
  have HH := hide h
  have HO := hide hown
  have HK := hide hkeys
  have HWf := hide hwf
  have HLen := hide hlen
  have HND := hide hnd
  have hby : i1.bytes * L.length ≤ 281474976710656 := by rw [kz2]; omega
  have hml : L.length ≤ maxLen := by unfold maxLen; omega
  have HSz := hide hsize
  clear h hown hkeys hwf hlen hnd hsize
  go_enter Try.func43, Try.ntmps43
  go_wp2_with (first | (at_len; refine wpList_len_own _ rfl _ 74 rfl 2 53 Try.underlying74 RV b N Dt rfl HO.out ?_; rw [HSz.out]) | (at_make; refine wpList_make_own _ rfl _ _ 41 rfl w.heap.size 53 i1 (.agg #[.int .i64 0, .slice none 0 0]) 2 Try.underlying41 ki kz0 kz1 .i64 .i64 _ L.length rfl rfl rfl hby hml (Nat.le_refl _) ?_; intro w1 ho1 hg1; have HO1 := hide ho1; have HG1 := hide hg1; clear ho1 hg1) | fail)
  refine (keysCall _ _).mono ?_
  rintro e w2 ⟨rfl, rfl⟩
  have B1 := hide ((Below.refl w.heap.size w).grown HG1.out (Nat.le_refl _) (fun k hk => by simp at hk))
  have O1 := hide (HO.out.kept HG1.out (by simp))
  have H1 := hide (HH.out.below B1.out)
  clear HG1
  have hs1 : w.heap.size < w1.heap.size := (HO1.out.lt w.heap.size rfl).2
  go_wp2_with fail
  refine (sortedCall b N Dt RV w1 O1.out (by rw [HSz.out]; exact hml) (by rw [HSz.out]; omega)).mono ?_
  rintro e w3 ⟨v, ss, rfl, hp, hown3, b3⟩
  obtain ⟨hks, hsl⟩ := HK.out ss hp
  obtain ⟨av, cv, rfl⟩ := ownsRow_shape hown3
  rw [hks] at hown3
  have R3 := hide (ownsRow_own hown3 (by rw [hsl, keysUp_length])).reads
  have KR : Hid (w3.ownsRow w.heap.size 2 1 (.slice av L.length cv) L.length ((keysUp L).map (Value.int .i64))) := by rw [hsl] at hown3; exact ownsRow_mono hown3 (by simp; omega)
  have B31 := hide (below_next (below_alloc w1 (.cells #[.map (some b)] 74)) b3)
  have G3 := hide (ownsRow_below HO1.out B31.out)
  have H3 := hide (H1.out.below B31.out)
  have B3 := hide (below_next B1.out B31.out)
  rw [hsl]
  clear hown3 b3 hp hks HO1 H1 B1 B31 O1
  have hs3 : w.heap.size < w3.heap.size := (G3.out.lt w.heap.size rfl).2
  have K3 : Hid (w3.ownsRow w.heap.size 2 1 (.slice av L.length cv) L.length ((keysUp L).map (Value.int .i64))) := KR.out
  go_wp2
  go_loopw [3, 5, 13] (fun v _ i wr => ∃ j : Nat, j ≤ L.length ∧ i = .int .i64 j ∧ GC w.heap.size wr.heap.size wr v (dg (up L)) (bt (up L)) j ∧ wr.ownsRow w.heap.size 2 1 (.slice av L.length cv) L.length ((keysUp L).map (Value.int .i64)) ∧ Holds wr b N L T ∧ Below w.heap.size w wr) (fun _ _ i _ => L.length - (intOf i).toNat)
  case atStart => exact ⟨0, Nat.zero_le _, rfl, ⟨fun _ => none, fun _ => 0, G3.out, fun i hi => absurd hi (by omega), fun i i' g hi => absurd hi (by omega), fun i g hi => absurd hi (by omega), fun x hx => (G3.out.lt x hx).2⟩, K3.out, H3.out, B3.out⟩
  case round =>
    obtain ⟨j, hj, rfl, hG, hKR, hH, hbel⟩ := hrel
    obtain ⟨lv, lc, rfl⟩ := hG.shape
    have HW := hide hbel
    have hsz := hbel.size
    clear R3 K3 G3 H3 B3
    by_cases hlt : j < L.length
    · obtain ⟨b2, o2, rfl, hb2, hc2⟩ := (ownsRow_own hKR (keysUp_length L).symm).reads (by intro e; have := keysUp_length L; rw [e] at this; simp at this; omega)
      have hc1 := hc2 j (by rw [keysUp_length]; exact hlt)
      have hmem : (keysUp L).getD j 0 ∈ keysUp L := by
        have : j < (keysUp L).length := by rw [keysUp_length]; exact hlt
        rw [List.getD_eq_getElem?_getD, List.getElem?_eq_getElem this]
        exact List.getElem_mem this
      have hwz := HWf.out _ hmem
      have hd := up_dg hlt
      have hb := up_bt hlt
      obtain ⟨p, hp, hpk⟩ := List.mem_map.1 ((keysUp_perm L).subset hmem)
      have hpv := valOf_mem HND.out hp
      have hpl := HLen.out p hp
      have hpair : ((keysUp L).getD j 0, valOf L ((keysUp L).getD j 0)) ∈ L := by rw [← hpk, hpv]; exact hp
      rw [← hpv, hpk] at hpl
      generalize (keysUp L).getD j 0 = z at *
      generalize hxs : valOf L z = xs at *
      clear hxs hpv
      obtain ⟨a3, c3, hrun, hr3, -⟩ := hH.yes hpair hwz 74 Try.underlying74
      have HL := hide (hrun false)
      obtain ⟨b3, o3, rfl, hb3, hc3⟩ := hr3 (by intro e; rw [e] at hpl; simp at hpl)
      obtain ⟨A, C, h1, h2, h3, h4, h5⟩ := hG
      have HDB := hide (And.intro hd hb)
      have HC3 := hide hc3
      have HA1 := hide h1
      have HA2 := hide h2
      have HA3 := hide h3
      have HKR := hide hKR
      have HHw := hide hH
      have hm1 : j + 1 ≤ maxLen := by unfold maxLen; omega
      have hm2 : (j + 1) * 32 ≤ 140737488355328 := by omega
      have hfd : ∀ u : World, (Instr.field 53 (.agg #[.int .i64 z, .slice (some ⟨b3, o3, none⟩) xs.length c3]) 1).run Try.prog u = .ok (.slice (some ⟨b3, o3, none⟩) xs.length c3) u := fun _ => by kernel_rfl
      clear hc2 hmem hpk hp hpair hrun hr3 hc3 h1 h2 h3 h4 h5 hKR hH hbel hd hb
      go_wp2_with (first | (at_lookup; refine wpList_look rfl _ _ 74 false rfl _ _ _ rfl rfl HL.out ?_; simp only [chv, Bool.false_eq_true, if_false]) | (go_at_call 31; refine (clone_any b3 o3 c3 xs wr HC3.out hb3 hpl.1 hpl.2 _ rfl).mono ?_; rintro e w4 ⟨g, cc, rfl, hown4, hg4, hgl4, hbel4⟩; have k1 := hide (ownsRow_below HA1.out hbel4); have O4 := hide hown4; have B4 := hide hbel4; have hsz4 : w.heap.size ≤ w4.heap.size := Nat.le_trans hsz hbel4.size; clear hown4 hbel4) | (at_builtin; refine wpList_append_one rfl (.tmp 17) (.tmp 25) 41 rfl w.heap.size 53 i1 (.agg #[.int .i64 0, .slice none 0 0]) 2 32 Try.underlying41 ki kz0 kz1 kz2 rfl (by decide) _ _ _ rfl k1.out rfl rfl (by intro u hu; simp at hu; rcases hu with rfl | rfl <;> rfl) hm1 hm2 hsz4 ?_; intro v' w5 hown5 hkept; have O5 := hide hown5; have K5 := hide hkept; clear hown5 hkept) | fail)
      go_roundw
      case rel =>
        have hS : ∀ x, (Value.slice lv j lc).ownBlock = some x → w.heap.size ≤ x := fun x hx => (k1.out.lt x hx).1
        refine ⟨j + 1, by omega, by go_num, ?_, ?_, ?_, ?_⟩
        · refine (GC.push HA1.out HA2.out HA3.out hsz B4.out O4.out O5.out K5.out).congr (fun i hi => ?_) (fun i hi => ?_)
          · by_cases e : i = j
            · subst e; rw [upd_same]; exact HDB.out.1
            · rw [upd_other _ _ _ e]
          · by_cases e : i = j
            · subst e; rw [upd_same]; exact HDB.out.2
            · rw [upd_other _ _ _ e]
        · have k2 := ownsRow_below HKR.out B4.out
          exact ownsRow_kept k2 K5.out (fun x hx hS' => ownsRow_apart k1.out k2 (by decide) hS' hx)
        · exact (HHw.out.below B4.out).kept K5.out (fun hx => by have := hS _ hx; omega) (fun x hx => by have := hS x hx; omega)
        · exact (below_next' HW.out B4.out).trans (K5.out.below hsz4 (fun k hk hx => by have := hS k hx; omega))
      case measure => simp [intOf]; omega
    · have hje : j = L.length := by omega
      subst hje
      have HG := hide hG
      clear hG hKR hH hbel
      go_wp2
      go_ret
      exact ⟨_, _, rfl, HG.out, HW.out⟩

end Go.Proofs.Ytdebojhginiihaa
