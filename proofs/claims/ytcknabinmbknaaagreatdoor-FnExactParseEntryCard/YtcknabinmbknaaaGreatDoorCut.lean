/-
  Contracts of slices.Clone on bytes and of the model's and the program's CutChunks.
-/
import Derived.Test.YtcknabinmbknaaaGreatDoorBytes
import Derived.Lib.SliceRun
namespace Go.Proofs.YtcknabinmbknaaaGreatDoor
open Go.RowKit
set_option linter.unusedVariables false

theorem reads_news {w : World} {b off : Nat} {zs : List Int} {k : IntKind} (hc : ∀ i, i < zs.length → w.cell? ⟨b, off + i, none⟩ = some (.int k (zs.getD i 0))) :
    ∀ j u, (zs.map (Value.int k))[j]? = some u → w.cell? ((⟨b, off, none⟩ : Addr).add j) = some u := by
  intro j u hj
  have hadd : (⟨b, off, none⟩ : Addr).add j = ⟨b, off + j, none⟩ := by unfold Addr.add; split <;> simp_all
  have hjl : j < zs.length := by
    rcases Nat.lt_or_ge j zs.length with h | h
    · exact h
    · rw [List.getElem?_eq_none (by simpa using h)] at hj; simp at hj
  rw [hadd, hc j hjl]
  simp [hjl] at hj
  simp [List.getD_eq_getElem?_getD, hjl, hj]

theorem ints_one (k : IntKind) (zs : List Int) : ∀ u ∈ zs.map (Value.int k), u.oneCell' = true := by
  intro u hu
  obtain ⟨z, _, rfl⟩ := List.mem_map.1 hu
  rfl

theorem own_of_ownsRow {w : World} {base : Nat} {e : TypeId} {k : IntKind} {v : Value} {n : Nat} {zs : List Int} (h : w.ownsRow base e 1 v n (zs.map (Value.int k))) (hn : n = zs.length) (hz : 0 < n) :
    ∃ g cap, v = .slice (some ⟨g, 0, none⟩) n cap ∧ base ≤ g ∧ g < w.heap.size ∧ Own k w (some ⟨g, 0, none⟩) zs := by
  obtain ⟨g, cap, hv, hg, hgl, hc, hf⟩ := ownsRow_ints h hn hz
  exact ⟨g, cap, hv, hg, hgl, fun _ => ⟨g, 0, rfl, hgl, fun i hi => ⟨by rw [Nat.zero_add]; exact hc i (by omega), hf _⟩⟩⟩

/-- append(T(nil or empty), x...): x not empty: a new row that holds x. -/
theorem wpList_append_fresh {P : Program} {wr : World} {ops : Array Oper} {rest : List Oper} {o : Oper} {a : Act} {Q : Exit → Act → World → Prop} (hgd : o.guard = none) (s x : Operand) (t : TypeId)
    (ho : o.op = .call { callee := .builtin .append, args := #[s, x], argTypes := #[t, t] })
    (e : TypeId) (i : TypeInfo) (k : IntKind) (bytes : Nat) (ht : P.underlying t = some (.slice e)) (hi : P.info? e = some i) (hz : i.zero = some (.int k 0))
    (hsize : i.size = 1) (hby : i.bytes = bytes) (hs : a.eval s = .slice (some ⟨wr.heap.size, 0, none⟩) 0 0)
    (b off n cap : Nat) (zs : List Int) (hx : a.eval x = .slice (some ⟨b, off, none⟩) n cap) (hn : n = zs.length) (hb : b < wr.heap.size) (hc : ∀ i, i < zs.length → wr.cell? ⟨b, off + i, none⟩ = some (.int k (zs.getD i 0)))
    (h0 : 0 < zs.length) (h63 : zs.length ≤ maxLen) (hbytes : zs.length * bytes ≤ 140737488355328)
    (h : ∀ g c w', w'.ownsRow wr.heap.size e 1 (.slice (some ⟨g, 0, none⟩) n c) n (zs.map (Value.int k)) → wr.heap.size ≤ g → g < w'.heap.size → Below wr.heap.size wr w' → wpList P ops Q rest (a.put o.dst (.slice (some ⟨g, 0, none⟩) n c)) w') :
    wpList P ops Q (o :: rest) a (wr.alloc (.cells #[] e)) := by
  have hown : (wr.alloc (.cells #[] e)).ownsRow wr.heap.size e 1 (.slice (some ⟨wr.heap.size, 0, none⟩) 0 0) 0 [] := World.ownsRow_made wr #[] 0 (Nat.le_refl _) (Nat.zero_le _) rfl
  have hn2 : ∀ j u, (zs.map (Value.int k))[j]? = some u → (wr.alloc (.cells #[] e)).cell? ((⟨b, off, none⟩ : Addr).add j) = some u := fun j u hj => (World.grownBy_alloc wr (.cells #[] e) none).cell (reads_news hc j u hj) (by simp)
  refine wpList_append_own _ hgd s x t ho wr.heap.size e i (.int k 0) 1 bytes ht hi hz hsize hby rfl (by decide) _ _ _ hs hown ⟨b, off, none⟩ n cap (zs.map (Value.int k)) hx (by simp [hn]) hn2 (ints_one _ _) (by omega) (by rw [Nat.zero_add, hn]; exact hbytes) (by simp) ?_
  intro v' w' hown' hgrow _
  rw [Nat.zero_add, List.nil_append] at hown'
  obtain ⟨g, c, rfl, hg, hgl, _⟩ := own_of_ownsRow hown' hn (by omega)
  refine h g c w' hown' hg hgl ?_
  exact ((Below.refl _ _).alloc (Nat.le_refl _) _).grown hgrow (by simp) (fun k hk => by simp [Value.ownBlock] at hk; omega)


/-- Piece i of the bytes zs, of 8 bytes or what is left. -/
def piece (zs : List Int) (i : Nat) : List Int := (zs.drop (8 * i)).take 8
def cut (zs : List Int) : List (List Int) := (List.range ((zs.length + 7) / 8)).map (piece zs)
theorem cut_length (zs : List Int) : (cut zs).length = (zs.length + 7) / 8 := by simp [cut]
theorem cut_getD (zs : List Int) (i : Nat) (h : i < (cut zs).length) : (cut zs).getD i [] = piece zs i := by
  rw [cut_length] at h; simp [cut, List.getD_eq_getElem?_getD, h]
theorem piece_length (zs : List Int) (i : Nat) : (piece zs i).length = min 8 (zs.length - 8 * i) := by simp [piece]
theorem piece_getD (zs : List Int) (i t : Nat) (h : t < (piece zs i).length) : (piece zs i).getD t 0 = zs.getD (8 * i + t) 0 := by
  rw [piece_length] at h
  have h8 : t < 8 := by omega
  simp [piece, List.getD_eq_getElem?_getD, h8, List.getElem?_drop]

/-- v is a row of j byte slices, slice i holding P i, each in a block of its own from B on. -/
def Grow2 (B : Nat) (w : World) (v : Value) (P : Nat → List Int) (j : Nat) : Prop :=
  ∃ A C : Nat → Nat, w.ownsRow B 22 1 v j ((List.range j).map fun i => .slice (some ⟨A i, 0, none⟩) (P i).length (C i)) ∧
    (∀ i, i < j → w.ownsRow B 5 1 (.slice (some ⟨A i, 0, none⟩) (P i).length (C i)) (P i).length ((P i).map (Value.int .u8))) ∧
    ∀ i i', i < j → i' < j → A i = A i' → i = i'

theorem Grow2.below {B : Nat} {w w' : World} {v : Value} {P : Nat → List Int} {j : Nat} (h : Grow2 B w v P j) (hk : Below w.heap.size w w') : Grow2 B w' v P j := by
  obtain ⟨A, C, h1, h2, h3⟩ := h
  exact ⟨A, C, ownsRow_below h1 hk, fun i hi => ownsRow_below (h2 i hi) hk, h3⟩

theorem Grow2.push {B : Nat} {w w1 w2 : World} {v v' : Value} {P : Nat → List Int} {j g c : Nat} {A C : Nat → Nat}
    (h1 : w.ownsRow B 22 1 v j ((List.range j).map fun i => .slice (some ⟨A i, 0, none⟩) (P i).length (C i)))
    (h2 : ∀ i, i < j → w.ownsRow B 5 1 (.slice (some ⟨A i, 0, none⟩) (P i).length (C i)) (P i).length ((P i).map (Value.int .u8)))
    (h3 : ∀ i i', i < j → i' < j → A i = A i' → i = i') (hB : B ≤ w.heap.size) (hbel : Below w.heap.size w w1)
    {n1 n2 : Nat} (hown : w1.ownsRow w.heap.size 5 1 (.slice (some ⟨g, 0, none⟩) n1 c) n1 ((P j).map (Value.int .u8))) (hg : w.heap.size ≤ g)
    (hv' : w2.ownsRow B 22 1 v' (j + 1) ((List.range j).map (fun i => Value.slice (some ⟨A i, 0, none⟩) (P i).length (C i)) ++ [.slice (some ⟨g, 0, none⟩) n2 c]))
    (hk : Kept (fun b => v.ownBlock = some b) w1 w2) (hn1 : n1 = (P j).length) (hn2 : n2 = (P j).length) : Grow2 B w2 v' P (j + 1) := by
  subst hn1 hn2
  have hA : ∀ i, i < j → A i < w.heap.size := fun i hi => ((h2 i hi).lt (A i) rfl).2
  have k1 := ownsRow_below h1 hbel
  refine ⟨fun i => if i = j then g else A i, fun i => if i = j then c else C i, ?_, ?_, ?_⟩
  · rw [List.range_succ, List.map_append]
    have e : (List.range j).map (fun i => Value.slice (some ⟨if i = j then g else A i, 0, none⟩) (P i).length (if i = j then c else C i)) = (List.range j).map (fun i => Value.slice (some ⟨A i, 0, none⟩) (P i).length (C i)) := by
      apply List.map_congr_left
      intro i hi
      have : i ≠ j := by have := List.mem_range.1 hi; omega
      simp [this]
    rw [e]
    simpa using hv'
  · intro i hi
    by_cases e : i = j
    · subst e
      simp only [if_true]
      exact ownsRow_kept (ownsRow_mono hown hB) hk (fun b hb hS => ownsRow_apart k1 hown (by decide) hS hb)
    · simp only [if_neg e]
      have k2 := ownsRow_below (h2 i (by omega)) hbel
      exact ownsRow_kept k2 hk (fun b hb hS => ownsRow_apart k1 k2 (by decide) hS hb)
  · intro i i' hi hi' he
    by_cases e : i = j
    · by_cases e' : i' = j
      · omega
      · simp only [if_pos e, if_neg e'] at he
        have := hA i' (by omega)
        omega
    · by_cases e' : i' = j
      · simp only [if_neg e, if_pos e'] at he
        have := hA i (by omega)
        omega
      · simp only [if_neg e, if_neg e'] at he
        exact h3 i i' (by omega) (by omega) he

theorem Tryz.infoBs : (Tryz.prog.info? 22).map (fun i => (i.zero, i.size, i.bytes)) = some (some (.slice none 0 0), 1, 24) := by kernel_rfl

set_option maxRecDepth 100000 in
set_option maxHeartbeats 800000 in
theorem l1Cut_any (a : Option Addr) (cap : Nat) (zs : List Int) (w : World) (h : Reads .u8 w a zs) (hcap : zs.length ≤ cap) (hl : zs.length ≤ 1048576) :
    Calls Tryz.prog 140 #[.slice a zs.length cap] w fun e w' => ∃ v, e = .returned v ∧ Grow2 w.heap.size w' v (piece zs) (cut zs).length ∧ Below w.heap.size w w' := by
  obtain ⟨i0, hi, hz0, hz1, hz2⟩ := info_parts Tryz.infoU8
  obtain ⟨i1, ki, kz0, kz1, kz2⟩ := info_parts Tryz.infoBs
  go_enter Tryz.func140, Tryz.ntmps140
  go_wp2
  go_loopw [3, 4, 5] (fun v i _ wr => ∃ j : Nat, 8 * j < zs.length + 8 ∧ i = .int .i64 (8 * (j : Int)) ∧ Grow2 w.heap.size wr v (piece zs) j ∧ Below w.heap.size w wr) (fun _ i _ _ => zs.length + 8 - (intOf i).toNat)
  case atStart => exact ⟨0, by omega, rfl, ⟨fun _ => 0, fun _ => 0, World.ownsRow_made w #[] 0 (Nat.le_refl _) (Nat.zero_le _) rfl, fun i hi => absurd hi (by omega), fun i i' hi => absurd hi (by omega)⟩, (Below.refl _ _).alloc (Nat.le_refl _) _⟩
  case round =>
    obtain ⟨j, hj, rfl, hgrow, hbel⟩ := hrel
    have hsz := hbel.size
    by_cases hlt : 8 * j < zs.length
    · obtain ⟨b, off, rfl, hb, hc⟩ := h (by intro e; simp [e] at hlt)
      obtain ⟨A, C, h1, h2, h3⟩ := hgrow
      have hlt' : 8 * (j : Int) < (zs.length : Int) := by omega
      have H1 := hide h1
      have H2 := hide h2
      have H3 := hide h3
      have HB := hide hbel
      have HC := hide hc
      clear h1 h2 h3 hbel hc h
      have hb' : b < wr.heap.size := Nat.lt_of_lt_of_le hb hsz
      have hcp : ∀ t, t < (piece zs j).length → wr.cell? ⟨b, off + 8 * j + t, none⟩ = some (.int .u8 ((piece zs j).getD t 0)) := fun t ht => by
        rw [piece_getD zs j t ht, Nat.add_assoc]
        exact (HB.out.cell (p := ⟨b, off + (8 * j + t), none⟩) hb).trans (HC.out (8 * j + t) (by rw [piece_length] at ht; omega))
      have HCP := hide hcp
      have hp0 : 0 < (piece zs j).length := by rw [piece_length]; omega
      have hp1 : (piece zs j).length ≤ maxLen := by rw [piece_length]; unfold maxLen; omega
      have hp2 : (piece zs j).length * 1 ≤ 140737488355328 := by rw [piece_length]; omega
      have hm1 : j + 1 ≤ maxLen := by unfold maxLen; omega
      have hm2 : (j + 1) * 24 ≤ 140737488355328 := by omega
      clear hcp
      by_cases hm : (zs.length : Int) < 8 * (j : Int) + 8
      · have hpl : zs.length - 8 * j = (piece zs j).length := by rw [piece_length]; omega
        have HPL := hide hpl
        clear hpl
        go_wp2_with (first | (at_builtin; refine wpList_append_fresh rfl (.tmp 19) (.tmp 23) 22 rfl 5 i0 .u8 1 Tryz.underlying22 hi hz0 hz1 hz2 rfl b (off + 8 * j) (zs.length - 8 * j) (cap - 8 * j) (piece zs j) rfl HPL.out hb' HCP.out hp0 hp1 hp2 ?_; intro g c w1 hown1 hg1 hgl1 hbel1; have k1 := hide (ownsRow_below H1.out hbel1); have HO1 := hide hown1; have HB1 := hide hbel1; have hsz1 : w.heap.size ≤ w1.heap.size := Nat.le_trans hsz hbel1.size; clear hown1 hbel1) | (at_builtin; refine wpList_append_one rfl (.tmp 18) (.tmp 25) 163 rfl w.heap.size 22 i1 (.slice none 0 0) 1 24 Tryz.underlying163 ki kz0 kz1 kz2 rfl (by decide) _ _ _ rfl k1.out rfl rfl (by intro u hu; simp at hu; subst hu; rfl) hm1 hm2 hsz1 ?_; intro v' w2 hown2 hkept; have hG : Hid (Grow2 w.heap.size w2 v' (piece zs) (j + 1)) := Grow2.push H1.out H2.out H3.out hsz HB1.out HO1.out hg1 hown2 hkept HPL.out (by first | exact HPL.out | (have := HPL.out; omega)); have hB2 := hide (Kept.below_own (HB.out.trans (HB1.out.mono hsz)) hsz1 k1.out hkept); clear hown2 hkept k1) | go_in)
        go_roundw
        case rel => exact ⟨j + 1, by omega, by go_num, hG.out, hB2.out⟩
        case measure => simp [intOf]; omega
      · have hpl : 8 * j + 8 - 8 * j = (piece zs j).length := by rw [piece_length]; omega
        have HPL := hide hpl
        clear hpl
        go_wp2_with (first | (at_builtin; refine wpList_append_fresh rfl (.tmp 19) (.tmp 23) 22 rfl 5 i0 .u8 1 Tryz.underlying22 hi hz0 hz1 hz2 rfl b (off + 8 * j) (8 * j + 8 - 8 * j) (cap - 8 * j) (piece zs j) rfl HPL.out hb' HCP.out hp0 hp1 hp2 ?_; intro g c w1 hown1 hg1 hgl1 hbel1; have k1 := hide (ownsRow_below H1.out hbel1); have HO1 := hide hown1; have HB1 := hide hbel1; have hsz1 : w.heap.size ≤ w1.heap.size := Nat.le_trans hsz hbel1.size; clear hown1 hbel1) | (at_builtin; refine wpList_append_one rfl (.tmp 18) (.tmp 25) 163 rfl w.heap.size 22 i1 (.slice none 0 0) 1 24 Tryz.underlying163 ki kz0 kz1 kz2 rfl (by decide) _ _ _ rfl k1.out rfl rfl (by intro u hu; simp at hu; subst hu; rfl) hm1 hm2 hsz1 ?_; intro v' w2 hown2 hkept; have hG : Hid (Grow2 w.heap.size w2 v' (piece zs) (j + 1)) := Grow2.push H1.out H2.out H3.out hsz HB1.out HO1.out hg1 hown2 hkept HPL.out (by first | exact HPL.out | (have := HPL.out; omega)); have hB2 := hide (Kept.below_own (HB.out.trans (HB1.out.mono hsz)) hsz1 k1.out hkept); clear hown2 hkept k1) | go_in)
        go_roundw
        case rel => exact ⟨j + 1, by omega, by go_num, hG.out, hB2.out⟩
        case measure => simp [intOf]; omega
    · have hje : j = (cut zs).length := by rw [cut_length]; omega
      subst hje
      go_wp2
      go_ret
      exact ⟨_, rfl, hgrow, hbel⟩


theorem Grow2.mono {B B' : Nat} {w : World} {v : Value} {P : Nat → List Int} {j : Nat} (h : Grow2 B w v P j) (hB : B' ≤ B) : Grow2 B' w v P j := by
  obtain ⟨A, C, h1, h2, h3⟩ := h
  exact ⟨A, C, ownsRow_mono h1 hB, fun i hi => ownsRow_mono (h2 i hi) hB, h3⟩
theorem Grow2.kept {S : Nat → Prop} {B : Nat} {w w' : World} {v : Value} {P : Nat → List Int} {j : Nat} (h : Grow2 B w v P j) (hk : Kept S w w') (hS : ∀ b, B ≤ b → ¬ S b) : Grow2 B w' v P j := by
  obtain ⟨A, C, h1, h2, h3⟩ := h
  exact ⟨A, C, ownsRow_kept h1 hk (fun b hb => hS b (h1.lt b hb).1), fun i hi => ownsRow_kept (h2 i hi) hk (fun b hb => hS b ((h2 i hi).lt b hb).1), h3⟩





end Go.Proofs.YtcknabinmbknaaaGreatDoor
