/-
  A row of bytes that was made of a string: it is read, written and appended to; the model's text of which something is turned.
-/
import Derived.Test.YtlbccbikepkfiaaGreatDoorDrawS
import Derived.Test.YtlbccbikepkfiaaGreatDoorJ1
import Derived.Laws.BytesArg
import Derived.Laws.IdiomStrings
namespace Go.Proofs.YtlbccbikepkfiaaGreatDoor
open Go.RowKit Go.Maps
set_option linter.unusedVariables false

/-- A row of bytes of which nothing is frozen. -/
def RowB (w : World) (g c : Nat) (zs : List Int) : Prop :=
  (∃ cur fz, w.heap[g]? = some (.cells cur 5 fz) ∧ cur.size ≤ fz.1 ∧ cur.size = c ∧ cur.toList.take zs.length = zs.map (Value.int .u8)) ∧ zs.length ≤ c ∧ c ≤ maxLen
/-- A text's bytes as numbers. -/
def numsB (t : Bs) : List Int := t.map fun b => (b.toNat : Int)
theorem numsB_len (t : Bs) : (numsB t).length = t.length := by simp [numsB]
theorem RowB.lt {w : World} {g c : Nat} {zs : List Int} (h : RowB w g c zs) : g < w.heap.size := by
  obtain ⟨⟨cur, fz, hg, -⟩, -⟩ := h
  exact (Array.getElem?_eq_some_iff.1 hg).1
theorem RowB.new (w : World) (t : Bs) (C : Nat) (hC : t.length ≤ C) (hm : C ≤ maxLen) :
    RowB (w.drew.alloc (.cells (bytesRow (str t) C) 5 ((bytesRow (str t) C).size, (bytesRow (str t) C).size + 1))) w.heap.size C (numsB t) := by
  have hs : (bytesRow (str t) C).size = C := by
    have := str_size t
    simp [bytesRow, str] at this ⊢
    simp [ByteArray.size]
    omega
  refine ⟨⟨_, _, heap_alloc_new w.drew _, Nat.le_refl _, hs, ?_⟩, by rw [numsB_len]; exact hC, hm⟩
  rw [numsB_len]
  have e1 : (bytesRow (str t) C).toList = (numsB t).map (Value.int .u8) ++ List.replicate (C - (str t).size) (.int .u8 0) := by
    simp [bytesRow, str, numsB]
  rw [e1, List.take_append_of_le_length (by simp [numsB]), List.take_of_length_le (by simp [numsB])]
theorem RowB.kept {S : Nat → Prop} {w w' : World} {g c : Nat} {zs : List Int} (h : RowB w g c zs) (hk : Kept S w w') (hn : ¬ S g) : RowB w' g c zs := by
  have hl := h.lt
  obtain ⟨⟨cur, fz, hg, h1⟩, h2⟩ := h
  exact ⟨⟨cur, fz, (hk.block g hl hn).trans hg, h1⟩, h2⟩
theorem RowB.below {w w' : World} {g c : Nat} {zs : List Int} (h : RowB w g c zs) (hk : Below w.heap.size w w') : RowB w' g c zs := h.kept (S := fun _ => False) (Kept.of_below hk) id
theorem RowB.cell {w : World} {g c : Nat} {zs : List Int} (h : RowB w g c zs) {i : Nat} (hi : i < zs.length) : w.cell? ⟨g, i, none⟩ = some (.int .u8 (zs.getD i 0)) := by
  obtain ⟨⟨cur, fz, hg, -, -, ht⟩, -⟩ := h
  rw [cell_of_row w g i cur _ fz hg]
  have h1 : (cur.toList.take zs.length)[i]? = some (.int .u8 (zs.getD i 0)) := by
    rw [ht, List.getElem?_map, List.getElem?_eq_getElem hi]
    simp [List.getD_eq_getElem?_getD, hi]
  rw [List.getElem?_take, if_pos hi] at h1
  simpa using h1
theorem RowB.frozen {w : World} {g c : Nat} {zs : List Int} (h : RowB w g c zs) {i : Nat} (hi : i < c) : w.frozen? ⟨g, i, none⟩ = false := by
  obtain ⟨⟨cur, fz, hg, h1, h2, -⟩, -⟩ := h
  obtain ⟨lo, hi'⟩ := fz
  simp only [World.frozen?, hg, Bool.and_eq_false_iff, decide_eq_false_iff_not]
  left
  simp only at h1
  omega
theorem RowB.there {w : World} {g c : Nat} {zs : List Int} (h : RowB w g c zs) {i : Nat} (hi : i < c) : ∃ v, w.cell? ⟨g, i, none⟩ = some v := by
  obtain ⟨⟨cur, fz, hg, h1, h2, -⟩, -⟩ := h
  rw [cell_of_row w g i cur _ fz hg]
  exact ⟨cur[i]'(by omega), by simp [h2 ▸ hi]⟩
theorem RowB.reads {w : World} {g c : Nat} {zs : List Int} (h : RowB w g c zs) : Reads .u8 w (some ⟨g, 0, none⟩) zs :=
  fun _ => ⟨g, 0, rfl, h.lt, fun i hi => by rw [Nat.zero_add]; exact h.cell hi⟩
theorem RowB.set {w : World} {g c i : Nat} {zs : List Int} {v : Int} (h : RowB w g c zs) (hi : i < zs.length) : RowB (w.setCell ⟨g, i, none⟩ (.int .u8 v)) g c (zs.set i v) := by
  obtain ⟨⟨cur, fz, hg, h1, h2, ht⟩, h3, h4⟩ := h
  rw [setCell_eq_setRow w g i cur _ fz _ hg]
  refine ⟨⟨_, fz, setRow_heap w g cur _ _ fz hg, by simpa using h1, by simpa using h2, ?_⟩, by simpa using h3, h4⟩
  rw [List.length_set, Array.toList_setIfInBounds, List.take_set, ht, List.map_set]
/-- A byte is appended. -/
theorem run_append_rowB {P : Program} (w : World) (t ty : TypeId) (i : TypeInfo) (ht : P.underlying t = some (.slice 5)) (hi : P.info? 5 = some i) (hz : i.zero = some (.int .u8 0)) (hsize : i.size = 1) (hby : i.bytes = 1)
    (g c : Nat) (zs : List Int) (h : RowB w g c zs) (a : Addr) (v : Int) (hv : w.cell? a = some (.int .u8 v)) (hl : zs.length ≤ 1048576) :
    ∃ b cv w', (Builtin.append_ #[t, t] ty #[.slice (some ⟨g, 0, none⟩) zs.length c, .slice (some a) 1 1]).run P w = .ok (.slice (some ⟨b, 0, none⟩) (zs.length + 1) cv) w' ∧ Reads .u8 w' (some ⟨b, 0, none⟩) (zs ++ [v]) ∧ Kept (fun x => x = g) w w' := by
  have hnews : ∀ j u, [Value.int .u8 v][j]? = some u → w.cell? (a.add j) = some u := by
    intro j u hj
    match j, hj with
    | 0, hj =>
      simp at hj
      subst hj
      have : a.add 0 = a := by unfold Addr.add; split <;> simp_all
      rw [this]; exact hv
  have hget : ∀ k, k < (zs ++ [v]).length → (zs ++ [v]).getD k 0 = if k < zs.length then zs.getD k 0 else v := by
    intro k hk
    simp only [List.length_append, List.length_cons, List.length_nil] at hk
    by_cases h1 : k < zs.length
    · simp [List.getD_eq_getElem?_getD, h1, List.getElem?_append_left]
    · have : k = zs.length := by omega
      subst this
      simp [List.getD_eq_getElem?_getD]
  by_cases hroom : zs.length + 1 ≤ c
  · obtain ⟨u0, hu0⟩ := h.there (i := zs.length) (by omega)
    have hfr := h.frozen (i := zs.length) (by omega)
    have hf := run_firstCells_some (P := P) w i.size 1 a 1 1 [Value.int .u8 v] (by simp [hsize]) hnews
    have hadd : (⟨g, zs.length * i.size, none⟩ : Addr).add 0 = ⟨g, zs.length, none⟩ := by rw [addr_add, hsize]; simp
    have hst : (storeCells ⟨g, zs.length * i.size, none⟩ [Value.int .u8 v] 0).run P w = .ok () (w.setCell ⟨g, zs.length, none⟩ (.int .u8 v)) := by
      have h1 : (store ((⟨g, zs.length * i.size, none⟩ : Addr).add 0) (Value.int .u8 v)).run P w = .ok () (w.setCell ⟨g, zs.length, none⟩ (.int .u8 v)) := by
        rw [hadd, run_store P w _ _ _ rfl, hu0]
        simp [hfr]
      simp only [storeCells, Sem.run_bind, h1, Result.andThen_ok]
      rfl
    refine ⟨g, c, w.setCell ⟨g, zs.length, none⟩ (.int .u8 v), ?_, fun _ => ⟨g, 0, rfl, ?_, fun k hk => ?_⟩, ?_⟩
    · simp [Builtin.append_, run_underlying ht, sizeOf, typeInfo, hi, Builtin.lenOf, hroom, hf, Addr.add_lit, hst]
    · simpa [World.setCell] using h.lt
    · rw [hget k hk, Nat.zero_add]
      simp only [List.length_append, List.length_cons, List.length_nil] at hk
      by_cases h1 : k < zs.length
      · rw [if_pos h1, cell_set_other (by simp <;> first | done | omega)]
        exact h.cell h1
      · have : k = zs.length := by omega
        subst this
        rw [if_neg h1]
        exact cell_set_same hu0
    · exact Kept.setCell (S := fun x => x = g) (p := ⟨g, zs.length, none⟩) (Kept.refl _ _) (fun _ => rfl) _
  · have holds : ∀ j u, (zs.map (Value.int .u8))[j]? = some u → w.cell? ((⟨g, 0, none⟩ : Addr).add j) = some u := by
      intro j u hj
      rw [addr_add, Nat.zero_add]
      have hjl : j < zs.length := by have := (List.getElem?_eq_some_iff.1 hj).1; simpa using this
      rw [h.cell hjl, ← hj, List.getElem?_map, List.getElem?_eq_getElem hjl]
      simp [List.getD_eq_getElem?_getD, hjl]
    have hc := h.2.1
    have hr := run_append_grow (P := P) w t ty 5 i (.int .u8 0) ht hi hz ⟨g, 0, none⟩ zs.length c (zs.map (Value.int .u8)) (by simp [hsize]) holds a 1 1 [Value.int .u8 v] (by simp [hsize]) hnews (by omega) (by omega) (growslice_fits (by omega) (by rw [hby]; omega))
    refine ⟨w.heap.size, _, _, hr, fun _ => ⟨w.heap.size, 0, rfl, by simp, fun k hk => ?_⟩, ?_⟩
    · rw [hget k hk, Nat.zero_add, cell_of_row _ w.heap.size k _ _ (0, 0) (heap_alloc_new w.drew _)]
      simp only [List.length_append, List.length_cons, List.length_nil] at hk
      by_cases h1 : k < zs.length
      · rw [if_pos h1, Array.append_assoc, Array.getElem?_append_left (by simpa using h1)]
        simp [List.getD_eq_getElem?_getD, h1]
      · have : k = zs.length := by omega
        subst this
        rw [if_neg h1, Array.append_assoc, Array.getElem?_append_right (by simp)]
        simp only [List.size_toArray, List.length_map, Nat.sub_self]
        rw [Array.getElem?_append_left (by simp)]
        simp
    · exact ((Kept.refl (fun x => x = g) w).drew).alloc _
theorem wpList_append_rowB {P : Program} {w : World} {ops : Array Oper} {rest : List Oper} {o : Oper} {a : Act} {Q : Exit → Act → World → Prop} (hgd : o.guard = none) (s x : Operand) (t : TypeId)
    (ho : o.op = .call { callee := .builtin .append, args := #[s, x], argTypes := #[t, t] }) (i : TypeInfo) (ht : P.underlying t = some (.slice 5)) (hi : P.info? 5 = some i) (hz : i.zero = some (.int .u8 0)) (hsize : i.size = 1) (hby : i.bytes = 1)
    (g c n : Nat) (zs : List Int) (hn : n = zs.length) (hs : a.eval s = .slice (some ⟨g, 0, none⟩) n c) (h : RowB w g c zs) (ad : Addr) (v : Int) (hx : a.eval x = .slice (some ad) 1 1) (hv : w.cell? ad = some (.int .u8 v)) (hl : zs.length ≤ 1048576)
    (hK : ∀ b cv w', Reads .u8 w' (some ⟨b, 0, none⟩) (zs ++ [v]) → Kept (fun x => x = g) w w' → wpList P ops Q rest (a.put o.dst (.slice (some ⟨b, 0, none⟩) (n + 1) cv)) w') : wpList P ops Q (o :: rest) a w := by
  subst hn
  refine wpList_plain hgd fun K hK' => ?_
  obtain ⟨b, cv, w', hr, h2, h3⟩ := run_append_rowB (P := P) w t o.type i ht hi hz hsize hby g c zs h ad v hv hl
  unfold Oper.wp execOp
  simp only [ho, resolve, invoke, builtin, Sem.run_bind, Sem.run_pure, Result.andThen_ok, List.map_toArray, List.map_cons, List.map_nil, hs, hx, hr]
  exact hK' _ _ (hK b cv w' h2 h3)
/-- What is read is a text. -/
theorem conv_reads (w : World) (b n c : Nat) (zs : List Int) (h : Reads .u8 w (some ⟨b, 0, none⟩) zs) (hn : n = zs.length) : (convert 22 9 (.slice (some ⟨b, 0, none⟩) n c)).run Tryz.prog w = .ok (.string (str (zs.map fun z => UInt8.ofNat z.toNat))) w := by
  subst hn
  refine run_convert_bytes_arg (P := Tryz.prog) w 22 5 Tryz.underlying22 Tryz.underlying5 b 0 zs.length c zs rfl (fun i hi => ?_) 9 Tryz.underlying9
  obtain ⟨b', off, hb, -, hc⟩ := h (by intro e; simp [e] at hi)
  simp only [Option.some.injEq, Addr.mk.injEq, and_true] at hb
  obtain ⟨rfl, rfl⟩ := hb
  exact hc i hi

set_option maxRecDepth 100000 in
set_option maxHeartbeats 4000000 in
theorem l5Turn_e (p : Nat) (zs : List Int) (T : Int) (t : Bs) (w : World) (h : SrcX w p zs T) (hu : U8 zs) (hT : T ≤ 900000) (hl : zs.length ≤ 2097152) (ht : t.length ≤ 1000) :
    Calls Tryz.prog 16 #[.pointer (some ⟨p, 0, none⟩), .string (str t)] w fun e w' => ∃ y : Bs, e = .returned (.string (str y)) ∧ y.length ≤ t.length + 1 ∧ SrcX w' p zs (T + 4) ∧ Kept (fun b => b = p) w w' := by
  obtain ⟨i0, hi0, hz0, hz1, hz2⟩ := info_parts Tryz.infoU8
  have hp := h.lt
  have HU := hide hu
  have hsz := str_size t
  have hcv := run_bytes_of_string (P := Tryz.prog) w 9 22 5 (str t) Tryz.underlying9 Tryz.underlying22 Tryz.underlying5
  have hge := grownCap_ge w (str t).size 0 5
  have hle := grownCap_le_maxLen w (str t).size 0 5 (by rw [hsz]; unfold maxLen; omega)
  generalize grownCap w (str t).size 0 5 = C at *
  rw [hsz] at hge hcv
  have OO : w.drew.alloc (.cells (bytesRow (str t) C) 5 ((bytesRow (str t) C).size, (bytesRow (str t) C).size + 1)) = (w.alloc (.cells (bytesRow (str t) C) 5 ((bytesRow (str t) C).size, (bytesRow (str t) C).size + 1))).drew := rfl
  have KA := hide (show Kept (fun b => b = p) w (w.alloc (.cells (bytesRow (str t) C) 5 ((bytesRow (str t) C).size, (bytesRow (str t) C).size + 1))).drew from ((Kept.refl (fun b => b = p) w).drew).alloc _)
  have RB := hide (RowB.new w t C hge hle)
  rw [OO] at RB
  have S0 := hide (h.below ((below_alloc w (.cells (bytesRow (str t) C) 5 ((bytesRow (str t) C).size, (bytesRow (str t) C).size + 1))).drew))
  have hgp : w.heap.size ≠ p := by omega
  have hn5 := numsB_len t
  clear h hu OO
  by_cases h0 : t.length = 0
  · have hb : ((t.length : Int) == 0) = true := by simp [h0]
    go_enter Tryz.func16, Tryz.ntmps16
    go_wp2_with fail
    go_ret
    exact ⟨t, rfl, by omega, S0.out.mono (by omega), KA.out⟩
  · have hb : ((t.length : Int) == 0) = false := beq_eq_false_iff_ne.2 (by omega)
    go_enter Tryz.func16, Tryz.ntmps16
    go_wp2_with fail
    generalize (w.alloc (.cells (bytesRow (str t) C) 5 ((bytesRow (str t) C).size, (bytesRow (str t) C).size + 1))).drew = W0 at *
    refine (chance_e p zs T 3 _ S0.out HU.out (by omega) (by decide) (by decide) hl).mono ?_
    rintro e w1 ⟨r, rfl, s1, k1⟩
    have RB1 := hide (RB.out.kept k1 hgp)
    have K1 := hide (KA.out.trans k1)
    have S1 := hide s1
    clear s1 k1 RB KA S0
    cases r
    · go_wp2_with fail
      go_ret
      exact ⟨t, rfl, by omega, S1.out.mono (by omega), K1.out⟩
    · go_wp2_with fail
      refine (next_e p zs _ (t.length : Int) _ S1.out HU.out (by omega) (by omega) (by omega) hl).mono ?_
      rintro e w2 ⟨i, rfl, hi, s2, k2⟩
      have RB2 := hide (RB1.out.kept k2 hgp)
      have K2 := hide (K1.out.trans k2)
      have S2 := hide s2
      clear s2 k2 RB1 K1 S1
      go_wp2_with fail
      refine (next_e p zs _ 3 _ S2.out HU.out (by omega) (by decide) (by decide) hl).mono ?_
      rintro e w3 ⟨j, rfl, hj, s3, k3⟩
      have RB3 := hide (RB2.out.kept k3 hgp)
      have K3 := hide (K2.out.trans k3)
      have S3 := hide s3
      clear s3 k3 RB2 K2 S2
      have hj3 : j = 0 ∨ j = 1 ∨ j = 2 := by omega
      rcases hj3 with rfl | rfl | rfl
      · have hg3 := RB3.out.lt
        have A4 := hide (below_alloc w3 (.cells #[.int .i64 97, .int .i64 32, .int .i64 48, .int .i64 10, .int .i64 47] 2))
        have RB4 := hide (RB3.out.below A4.out)
        have S4 := hide (S3.out.below A4.out)
        have K4 := hide (K3.out.alloc (.cells #[.int .i64 97, .int .i64 32, .int .i64 48, .int .i64 10, .int .i64 47] 2))
        have hp3 := S3.out.lt
        go_wp2_with fail
        refine (pick_e p w3.heap.size 5 5 [97, 32, 48, 10, 47] zs _ _ S4.out HU.out (by omega) hl (by decide) (by decide) rfl (by omega) (by simp) (fun i hi => by
          have : i = 0 ∨ i = 1 ∨ i = 2 ∨ i = 3 ∨ i = 4 := by omega
          rcases this with rfl | rfl | rfl | rfl | rfl <;> simp)).mono ?_
        rintro e w5 ⟨v, hv, rfl, s5, k5⟩
        have RB5 := hide (RB4.out.kept k5 hgp)
        have K5 := hide (K4.out.trans k5)
        have S5 := hide s5
        have hit : i < (numsB t).length := by omega
        have c5 := RB5.out.cell hit
        have f5 := RB5.out.frozen (i := i) (by omega)
        have hwr : IntKind.u8.wrap v = v := by
          simp at hv
          rcases hv with rfl | rfl | rfl | rfl | rfl <;> rfl
        have RB6 := hide (RB5.out.set (v := v) hit)
        have hcv6 := conv_reads _ w.heap.size t.length C _ RB6.out.reads (by rw [List.length_set, hn5])
        have K6 := hide (K5.out.trans_own (Kept.setCell (S := fun b => b = w.heap.size) (p := ⟨w.heap.size, i, none⟩) (Kept.refl _ w5) (fun _ => rfl) (.int .u8 v)) (fun b hb2 e => by omega))
        have S6 := hide (S5.out.kept (Kept.setCell (S := fun b => b = w.heap.size) (p := ⟨w.heap.size, i, none⟩) (Kept.refl _ w5) (fun _ => rfl) (.int .u8 v)) (fun b hb2 e => by omega))
        clear s5 k5 A4 RB4 S4 K4 RB3 S3 K3
        go_wp2_with fail
        go_ret
        exact ⟨_, rfl, by simp [numsB], S6.out.mono (by omega), K6.out⟩
      · have hcv6 := conv_reads w3 w.heap.size i C ((numsB t).take i) (fun hne => ⟨w.heap.size, 0, rfl, RB3.out.lt, fun k hk => by
          rw [Nat.zero_add]
          simp only [List.length_take] at hk
          rw [RB3.out.cell (by omega)]
          simp [List.getD_eq_getElem?_getD, show k < i by omega]⟩) (by rw [List.length_take]; omega)
        have hi1 : (0 : Int) ≤ (i : Int) := by omega
        have hi2 : (i : Int) ≤ (C : Int) := by omega
        go_wp2_with fail
        go_ret
        exact ⟨_, rfl, by simp [numsB]; omega, S3.out.mono (by omega), K3.out⟩
      · have A4 := hide (below_alloc w3 (.cells #[.int .u8 10] 5))
        have RB4 := hide (RB3.out.below A4.out)
        have S4 := hide (S3.out.below A4.out)
        have K4 := hide (K3.out.alloc (.cells #[.int .u8 10] 5))
        go_wp2_with (at_builtin; refine wpList_append_rowB rfl (.tmp 40) (.tmp 41) 22 rfl i0 Tryz.underlying22 hi0 hz0 hz1 hz2 w.heap.size C t.length (numsB t) hn5.symm rfl RB4.out ⟨w3.heap.size, 0, none⟩ 10 rfl (by simp) (by omega) ?_; intro b cv w5 hr5 hk5; have R5 := hide hr5; have K5 := hide hk5; have hcv6 := conv_reads w5 b (t.length + 1) cv (numsB t ++ [10]) hr5 (by simp [hn5]); clear hr5 hk5)
        go_ret
        exact ⟨_, rfl, by simp [numsB], (S4.out.kept K5.out (fun b hb2 e => by omega)).mono (by omega), K4.out.trans_own K5.out (fun b hb2 e => by omega)⟩
end Go.Proofs.YtlbccbikepkfiaaGreatDoor
