/-
  Texts put together: FetL BytesR Cut StoreC Ints IntsR Asked Missing FetM FetA.
-/
import Derived.Test.YtejfcapocikjmaaGreatDoorKAsksCa1
import Derived.Lib.SliceRun
namespace Go.Proofs.YtejfcapocikjmaaGreatDoor
open Go.RowKit
set_option linter.unusedVariables false

abbrev Wn := Int × Int
abbrev okD (d : Int) : Prop := 0 ≤ d ∧ d ≤ 4294967295
def keysC (D : Nat → Int) (n : Nat) : List Int := (List.range n).map D
theorem mem_keysC {D : Nat → Int} {n : Nat} {d : Int} : d ∈ keysC D n ↔ ∃ i, i < n ∧ D i = d := by simp [keysC]
def wFault (W : List Wn) (F C : List Int) (i : Nat) : Option Int :=
  if okD (W.getD i (0, 0)).1 ∧ 0 ≤ (W.getD i (0, 0)).2 ∧ (W.getD i (0, 0)).2 < 3 then
    (if (W.getD i (0, 0)).1 ∈ C ∨ (W.getD i (0, 0)).1 ∈ F ∨ (W.getD i (0, 0)).1 ∈ (W.take i).map Prod.fst then some 7 else none)
  else some 3
def fFault (F C : List Int) (i : Nat) : Option Int :=
  if okD (F.getD i 0) then (if F.getD i 0 ∈ C ∨ F.getD i 0 ∈ F.take i then some 7 else none) else some 3
def listsFault (W : List Wn) (F C : List Int) : Int :=
  if 12 < W.length ∨ 40 < F.length then 2 else
  if firstBad (wFault W F C) 0 W.length ≠ 0 then firstBad (wFault W F C) 0 W.length else firstBad (fFault F C) 0 F.length
def fetFault (W : List Wn) (F : List Int) (D : Nat → Int) (P : Nat → List Int) (n : Nat) : Int :=
  if fault D P n ≠ 0 then fault D P n else listsFault W F (keysC D n)
theorem wFault_ne {W : List Wn} {F C : List Int} (j : Nat) (c : Int) (h : wFault W F C j = some c) : c ≠ 0 := by
  unfold wFault at h
  split at h
  · split at h
    · cases h; decide
    · cases h
  · cases h; decide
theorem fFault_ne {F C : List Int} (j : Nat) (c : Int) (h : fFault F C j = some c) : c ≠ 0 := by
  unfold fFault at h
  split at h
  · split at h
    · cases h; decide
    · cases h
  · cases h; decide
structure FitF (W : List Wn) (F C : List Int) : Prop where
  wmany : W.length ≤ 12
  fmany : F.length ≤ 40
  wok : ∀ x ∈ W, okD x.1 ∧ 0 ≤ x.2 ∧ x.2 < 3
  wone : (W.map Prod.fst).Nodup
  wfree : ∀ x ∈ W, x.1 ∉ C ∧ x.1 ∉ F
  fok : ∀ d ∈ F, okD d
  fone : F.Nodup
  ffree : ∀ d ∈ F, d ∉ C
theorem getD_mem {α : Type} {l : List α} {i : Nat} (x : α) (h : i < l.length) : l.getD i x ∈ l := by
  rw [List.getD_eq_getElem?_getD, List.getElem?_eq_getElem h]; exact List.getElem_mem h
theorem nodup_take {l : List Int} : (∀ i, i < l.length → l.getD i 0 ∉ l.take i) → l.Nodup := by
  intro h
  rw [List.nodup_iff_pairwise_ne, List.pairwise_iff_getElem]
  intro i j hi hj hij e
  refine h j hj ?_
  rw [List.getD_eq_getElem?_getD, List.getElem?_eq_getElem hj]
  show l[j] ∈ _
  rw [← e, List.mem_take_iff_getElem]
  exact ⟨i, by omega, rfl⟩
theorem take_nodup {l : List Int} (h : l.Nodup) {i : Nat} (hi : i < l.length) : l.getD i 0 ∉ l.take i := by
  intro hm
  rw [List.mem_take_iff_getElem] at hm
  obtain ⟨j, hj, e⟩ := hm
  rw [List.getD_eq_getElem?_getD, List.getElem?_eq_getElem hi] at e
  rw [List.nodup_iff_pairwise_ne, List.pairwise_iff_getElem] at h
  exact h j i (by omega) hi (by omega) e
theorem map_fst_getD {W : List Wn} {i : Nat} : (W.map Prod.fst).getD i 0 = (W.getD i (0, 0)).1 := by
  rw [List.getD_eq_getElem?_getD, List.getD_eq_getElem?_getD, List.getElem?_map]
  cases W[i]? <;> rfl
theorem lists_zero {W : List Wn} {F C : List Int} : listsFault W F C = 0 ↔ FitF W F C := by
  constructor
  · intro h
    unfold listsFault at h
    split at h
    · omega
    · rename_i hm
      split at h
      · rename_i hw; exact absurd h hw
      · rename_i hw
        have hw := Decidable.not_not.1 hw
        have w1 : ∀ i, i < W.length → wFault W F C i = none := fun i hi => firstBad_none wFault_ne _ _ hw i (Nat.zero_le _) (by omega)
        have f1 : ∀ i, i < F.length → fFault F C i = none := fun i hi => firstBad_none fFault_ne _ _ h i (Nat.zero_le _) (by omega)
        have w2 : ∀ i, i < W.length → (okD (W.getD i (0, 0)).1 ∧ 0 ≤ (W.getD i (0, 0)).2 ∧ (W.getD i (0, 0)).2 < 3) ∧ ¬ ((W.getD i (0, 0)).1 ∈ C ∨ (W.getD i (0, 0)).1 ∈ F ∨ (W.getD i (0, 0)).1 ∈ (W.take i).map Prod.fst) := fun i hi => by
          have := w1 i hi
          unfold wFault at this
          split at this
          · rename_i h1
            split at this
            · cases this
            · rename_i h2; exact ⟨h1, h2⟩
          · cases this
        have f2 : ∀ i, i < F.length → okD (F.getD i 0) ∧ ¬ (F.getD i 0 ∈ C ∨ F.getD i 0 ∈ F.take i) := fun i hi => by
          have := f1 i hi
          unfold fFault at this
          split at this
          · rename_i h1
            split at this
            · cases this
            · rename_i h2; exact ⟨h1, h2⟩
          · cases this
        have wg : ∀ x ∈ W, ∃ i, i < W.length ∧ W.getD i (0, 0) = x := fun x hx => by
          obtain ⟨i, hi, e⟩ := List.getElem_of_mem hx
          exact ⟨i, hi, by rw [List.getD_eq_getElem?_getD, List.getElem?_eq_getElem hi]; exact e⟩
        have fg : ∀ x ∈ F, ∃ i, i < F.length ∧ F.getD i 0 = x := fun x hx => by
          obtain ⟨i, hi, e⟩ := List.getElem_of_mem hx
          exact ⟨i, hi, by rw [List.getD_eq_getElem?_getD, List.getElem?_eq_getElem hi]; exact e⟩
        refine ⟨by omega, by omega, fun x hx => ?_, ?_, fun x hx => ?_, fun d hd => ?_, ?_, fun d hd => ?_⟩
        · obtain ⟨i, hi, rfl⟩ := wg x hx; exact (w2 i hi).1
        · refine nodup_take fun i hi => ?_
          rw [map_fst_getD, ← List.map_take]
          intro hm
          exact (w2 i (by simpa using hi)).2 (Or.inr (Or.inr hm))
        · obtain ⟨i, hi, rfl⟩ := wg x hx
          exact ⟨fun hc => (w2 i hi).2 (Or.inl hc), fun hc => (w2 i hi).2 (Or.inr (Or.inl hc))⟩
        · obtain ⟨i, hi, rfl⟩ := fg d hd; exact (f2 i hi).1
        · exact nodup_take fun i hi hm => (f2 i hi).2 (Or.inr hm)
        · obtain ⟨i, hi, rfl⟩ := fg d hd; exact fun hc => (f2 i hi).2 (Or.inl hc)
  · intro h
    have w1 : firstBad (wFault W F C) 0 W.length = 0 := firstBad_zero _ _ fun j _ hj => by
      have hj : j < W.length := by omega
      have hm := getD_mem (0, 0) hj
      unfold wFault
      rw [if_pos (h.wok _ hm), if_neg]
      rintro (hc | hc | hc)
      · exact (h.wfree _ hm).1 hc
      · exact (h.wfree _ hm).2 hc
      · rw [← map_fst_getD, List.map_take] at hc
        exact take_nodup h.wone (by simpa using hj) hc
    have f1 : firstBad (fFault F C) 0 F.length = 0 := firstBad_zero _ _ fun j _ hj => by
      have hj : j < F.length := by omega
      have hm := getD_mem 0 hj
      unfold fFault
      rw [if_pos (h.fok _ hm), if_neg]
      rintro (hc | hc)
      · exact h.ffree _ hm hc
      · exact take_nodup h.fone hj hc
    unfold listsFault
    rw [if_neg (by have := h.wmany; have := h.fmany; omega), w1, if_neg (by simp), f1]
end Go.Proofs.YtejfcapocikjmaaGreatDoor

namespace Go.Proofs.YtejfcapocikjmaaGreatDoor
open Go.RowKit
set_option linter.unusedVariables false

def GB (B T : Nat) (w : World) (v : Value) (ds : List Int) : Prop :=
  w.ownsRow B 5 1 v ds.length (ds.map (Value.int .u8)) ∧ ∀ b, v.ownBlock = some b → b < T
theorem GB.mk {B : Nat} {w : World} {v : Value} {ds : List Int} {n : Nat} (h : w.ownsRow B 5 1 v n (ds.map (Value.int .u8))) (hn : n = ds.length) : GB B w.heap.size w v ds := by
  subst hn
  exact ⟨h, fun b hb => (h.lt b hb).2⟩
end Go.Proofs.YtejfcapocikjmaaGreatDoor

namespace Go.Proofs.YtejfcapocikjmaaGreatDoor
open Go.RowKit
set_option linter.unusedVariables false

theorem reads_news {w : World} {b off : Nat} {zs : List Int} {k : IntKind} (hc : ∀ i, i < zs.length → w.cell? ⟨b, off + i, none⟩ = some (.int k (zs.getD i 0))) :
    ∀ j u, (zs.map (Value.int k))[j]? = some u → w.cell? ((⟨b, off, none⟩ : Addr).add j) = some u := by
  intro j u hj
  have hadd : (⟨b, off, none⟩ : Addr).add j = ⟨b, off + j, none⟩ := by unfold Addr.add; split <;> simp_all
  have hjl : j < zs.length := by
    rcases Nat.lt_or_ge j zs.length with h | h
    · exact h
    · rw [List.getElem?_eq_none (by simpa using h)] at hj; simp at hj
  rw [hadd, hc j hjl]
  simp [hjl] at hj
  simp [List.getD_eq_getElem?_getD, hjl, hj]

theorem ints_one (k : IntKind) (zs : List Int) : ∀ u ∈ zs.map (Value.int k), u.oneCell' = true := by
  intro u hu
  obtain ⟨z, _, rfl⟩ := List.mem_map.1 hu
  rfl

theorem own_of_ownsRow {w : World} {base : Nat} {e : TypeId} {k : IntKind} {v : Value} {n : Nat} {zs : List Int} (h : w.ownsRow base e 1 v n (zs.map (Value.int k))) (hn : n = zs.length) (hz : 0 < n) :
    ∃ g cap, v = .slice (some ⟨g, 0, none⟩) n cap ∧ base ≤ g ∧ g < w.heap.size ∧ Own k w (some ⟨g, 0, none⟩) zs := by
  obtain ⟨g, cap, hv, hg, hgl, hc, hf⟩ := ownsRow_ints h hn hz
  exact ⟨g, cap, hv, hg, hgl, fun _ => ⟨g, 0, rfl, hgl, fun i hi => ⟨by rw [Nat.zero_add]; exact hc i (by omega), hf _⟩⟩⟩

theorem wpList_append_fresh {P : Program} {wr : World} {ops : Array Oper} {rest : List Oper} {o : Oper} {a : Act} {Q : Exit → Act → World → Prop} (hgd : o.guard = none) (s x : Operand) (t : TypeId)
    (ho : o.op = .call { callee := .builtin .append, args := #[s, x], argTypes := #[t, t] })
    (e : TypeId) (i : TypeInfo) (k : IntKind) (bytes : Nat) (ht : P.underlying t = some (.slice e)) (hi : P.info? e = some i) (hz : i.zero = some (.int k 0))
    (hsize : i.size = 1) (hby : i.bytes = bytes) (hs : a.eval s = .slice (some ⟨wr.heap.size, 0, none⟩) 0 0)
    (b off n cap : Nat) (zs : List Int) (hx : a.eval x = .slice (some ⟨b, off, none⟩) n cap) (hn : n = zs.length) (hb : b < wr.heap.size) (hc : ∀ i, i < zs.length → wr.cell? ⟨b, off + i, none⟩ = some (.int k (zs.getD i 0)))
    (h0 : 0 < zs.length) (h63 : zs.length ≤ maxLen) (hbytes : zs.length * bytes ≤ 140737488355328)
    (h : ∀ g c w', w'.ownsRow wr.heap.size e 1 (.slice (some ⟨g, 0, none⟩) n c) n (zs.map (Value.int k)) → wr.heap.size ≤ g → g < w'.heap.size → Below wr.heap.size wr w' → wpList P ops Q rest (a.put o.dst (.slice (some ⟨g, 0, none⟩) n c)) w') :
    wpList P ops Q (o :: rest) a (wr.alloc (.cells #[] e)) := by
  have hown : (wr.alloc (.cells #[] e)).ownsRow wr.heap.size e 1 (.slice (some ⟨wr.heap.size, 0, none⟩) 0 0) 0 [] := World.ownsRow_made wr #[] 0 (Nat.le_refl _) (Nat.zero_le _) rfl
  have hn2 : ∀ j u, (zs.map (Value.int k))[j]? = some u → (wr.alloc (.cells #[] e)).cell? ((⟨b, off, none⟩ : Addr).add j) = some u := fun j u hj => (World.grownBy_alloc wr (.cells #[] e) none).cell (reads_news hc j u hj) (by simp)
  refine wpList_append_own _ hgd s x t ho wr.heap.size e i (.int k 0) 1 bytes ht hi hz hsize hby rfl (by decide) _ _ _ hs hown ⟨b, off, none⟩ n cap (zs.map (Value.int k)) hx (by simp [hn]) hn2 (ints_one _ _) (by omega) (by rw [Nat.zero_add, hn]; exact hbytes) (by simp) ?_
  intro v' w' hown' hgrow _
  rw [Nat.zero_add, List.nil_append] at hown'
  obtain ⟨g, c, rfl, hg, hgl, _⟩ := own_of_ownsRow hown' hn (by omega)
  refine h g c w' hown' hg hgl ?_
  exact ((Below.refl _ _).alloc (Nat.le_refl _) _).grown hgrow (by simp) (fun k hk => by simp [Value.ownBlock] at hk; omega)

set_option maxHeartbeats 400000 in
theorem clone_any (b off cap : Nat) (zs : List Int) (w : World) (hc : ∀ i, i < zs.length → w.cell? ⟨b, off + i, none⟩ = some (.int .u8 (zs.getD i 0))) (hb : b < w.heap.size) (h0 : 0 < zs.length) (hl : zs.length ≤ 1048576) (n : Nat) (hn : n = zs.length) :
    Calls Tryz.prog 29 #[.slice (some ⟨b, off, none⟩) n cap] w fun e w' => ∃ g c, e = .returned (.slice (some ⟨g, 0, none⟩) n c) ∧ w'.ownsRow w.heap.size 5 1 (.slice (some ⟨g, 0, none⟩) n c) n (zs.map (Value.int .u8)) ∧ w.heap.size ≤ g ∧ g < w'.heap.size ∧ Below w.heap.size w w' := by
  obtain ⟨i0, hi, hz0, hz1, hz2⟩ := info_parts Tryz.infoU8
  have heq := fun w => Lib.run_eql_slice_nil (P := Tryz.prog) w 22 5 (some ⟨b, off, none⟩) n cap 0 0 Tryz.underlying22
  have HC := hide hc
  have HN := hide hn
  clear hc hn
  go_enter Tryz.func29, Tryz.ntmps29
  go_wp2_with (at_builtin; refine wpList_append_fresh rfl (.tmp 5) (.tmp 6) 22 rfl 5 i0 .u8 1 Tryz.underlying22 hi hz0 hz1 hz2 rfl b off n cap zs rfl HN.out hb HC.out h0 (by unfold maxLen; omega) (by omega) ?_)
  intro g c w' hown hg hgl hbel
  have HO := hide hown
  have HB := hide hbel
  clear hown hbel
  go_wp2
  go_ret
  exact ⟨g, c, rfl, HO.out, hg, hgl, HB.out⟩

def piece (zs : List Int) (i : Nat) : List Int := (zs.drop (8 * i)).take 8
def cut (zs : List Int) : List (List Int) := (List.range ((zs.length + 7) / 8)).map (piece zs)
theorem cut_length (zs : List Int) : (cut zs).length = (zs.length + 7) / 8 := by simp [cut]
theorem piece_length (zs : List Int) (i : Nat) : (piece zs i).length = min 8 (zs.length - 8 * i) := by simp [piece]
theorem piece_getD (zs : List Int) (i t : Nat) (h : t < (piece zs i).length) : (piece zs i).getD t 0 = zs.getD (8 * i + t) 0 := by
  rw [piece_length] at h
  have h8 : t < 8 := by omega
  simp [piece, List.getD_eq_getElem?_getD, h8, List.getElem?_drop]

def Grow2 (B : Nat) (w : World) (v : Value) (P : Nat → List Int) (j : Nat) : Prop :=
  ∃ A C : Nat → Nat, w.ownsRow B 22 1 v j ((List.range j).map fun i => .slice (some ⟨A i, 0, none⟩) (P i).length (C i)) ∧
    (∀ i, i < j → w.ownsRow B 5 1 (.slice (some ⟨A i, 0, none⟩) (P i).length (C i)) (P i).length ((P i).map (Value.int .u8))) ∧
    ∀ i i', i < j → i' < j → A i = A i' → i = i'

theorem Grow2.below {B : Nat} {w w' : World} {v : Value} {P : Nat → List Int} {j : Nat} (h : Grow2 B w v P j) (hk : Below w.heap.size w w') : Grow2 B w' v P j := by
  obtain ⟨A, C, h1, h2, h3⟩ := h
  exact ⟨A, C, ownsRow_below h1 hk, fun i hi => ownsRow_below (h2 i hi) hk, h3⟩

theorem Grow2.push {B : Nat} {w w1 w2 : World} {v v' : Value} {P : Nat → List Int} {j g c : Nat} {A C : Nat → Nat}
    (h1 : w.ownsRow B 22 1 v j ((List.range j).map fun i => .slice (some ⟨A i, 0, none⟩) (P i).length (C i)))
    (h2 : ∀ i, i < j → w.ownsRow B 5 1 (.slice (some ⟨A i, 0, none⟩) (P i).length (C i)) (P i).length ((P i).map (Value.int .u8)))
    (h3 : ∀ i i', i < j → i' < j → A i = A i' → i = i') (hB : B ≤ w.heap.size) (hbel : Below w.heap.size w w1)
    {n1 n2 : Nat} (hown : w1.ownsRow w.heap.size 5 1 (.slice (some ⟨g, 0, none⟩) n1 c) n1 ((P j).map (Value.int .u8))) (hg : w.heap.size ≤ g)
    (hv' : w2.ownsRow B 22 1 v' (j + 1) ((List.range j).map (fun i => Value.slice (some ⟨A i, 0, none⟩) (P i).length (C i)) ++ [.slice (some ⟨g, 0, none⟩) n2 c]))
    (hk : Kept (fun b => v.ownBlock = some b) w1 w2) (hn1 : n1 = (P j).length) (hn2 : n2 = (P j).length) : Grow2 B w2 v' P (j + 1) := by
  subst hn1 hn2
  have hA : ∀ i, i < j → A i < w.heap.size := fun i hi => ((h2 i hi).lt (A i) rfl).2
  have k1 := ownsRow_below h1 hbel
  refine ⟨fun i => if i = j then g else A i, fun i => if i = j then c else C i, ?_, ?_, ?_⟩
  · rw [List.range_succ, List.map_append]
    have e : (List.range j).map (fun i => Value.slice (some ⟨if i = j then g else A i, 0, none⟩) (P i).length (if i = j then c else C i)) = (List.range j).map (fun i => Value.slice (some ⟨A i, 0, none⟩) (P i).length (C i)) := by
      apply List.map_congr_left
      intro i hi
      have : i ≠ j := by have := List.mem_range.1 hi; omega
      simp [this]
    rw [e]
    simpa using hv'
  · intro i hi
    by_cases e : i = j
    · subst e
      simp only [if_true]
      exact ownsRow_kept (ownsRow_mono hown hB) hk (fun b hb hS => ownsRow_apart k1 hown (by decide) hS hb)
    · simp only [if_neg e]
      have k2 := ownsRow_below (h2 i (by omega)) hbel
      exact ownsRow_kept k2 hk (fun b hb hS => ownsRow_apart k1 k2 (by decide) hS hb)
  · intro i i' hi hi' he
    by_cases e : i = j
    · by_cases e' : i' = j
      · omega
      · simp only [if_pos e, if_neg e'] at he
        have := hA i' (by omega)
        omega
    · by_cases e' : i' = j
      · simp only [if_neg e, if_pos e'] at he
        have := hA i (by omega)
        omega
      · simp only [if_neg e, if_neg e'] at he
        exact h3 i i' (by omega) (by omega) he

theorem Tryz.infoBs : (Tryz.prog.info? 22).map (fun i => (i.zero, i.size, i.bytes)) = some (some (.slice none 0 0), 1, 24) := by kernel_rfl

set_option maxRecDepth 100000 in
set_option maxHeartbeats 800000 in
theorem l1Cut_any (a : Option Addr) (cap : Nat) (zs : List Int) (w : World) (h : Reads .u8 w a zs) (hcap : zs.length ≤ cap) (hl : zs.length ≤ 1048576) :
    Calls Tryz.prog 109 #[.slice a zs.length cap] w fun e w' => ∃ v, e = .returned v ∧ Grow2 w.heap.size w' v (piece zs) (cut zs).length ∧ Below w.heap.size w w' := by
  obtain ⟨i0, hi, hz0, hz1, hz2⟩ := info_parts Tryz.infoU8
  obtain ⟨i1, ki, kz0, kz1, kz2⟩ := info_parts Tryz.infoBs
  go_enter Tryz.func109, Tryz.ntmps109
  go_wp2
  go_loopw [3, 4, 5] (fun v i _ wr => ∃ j : Nat, 8 * j < zs.length + 8 ∧ i = .int .i64 (8 * (j : Int)) ∧ Grow2 w.heap.size wr v (piece zs) j ∧ Below w.heap.size w wr) (fun _ i _ _ => zs.length + 8 - (intOf i).toNat)
  case atStart => exact ⟨0, by omega, rfl, ⟨fun _ => 0, fun _ => 0, World.ownsRow_made w #[] 0 (Nat.le_refl _) (Nat.zero_le _) rfl, fun i hi => absurd hi (by omega), fun i i' hi => absurd hi (by omega)⟩, (Below.refl _ _).alloc (Nat.le_refl _) _⟩
  case round =>
    obtain ⟨j, hj, rfl, hgrow, hbel⟩ := hrel
    have hsz := hbel.size
    by_cases hlt : 8 * j < zs.length
    · obtain ⟨b, off, rfl, hb, hc⟩ := h (by intro e; simp [e] at hlt)
      obtain ⟨A, C, h1, h2, h3⟩ := hgrow
      have hlt' : 8 * (j : Int) < (zs.length : Int) := by omega
      have H1 := hide h1
      have H2 := hide h2
      have H3 := hide h3
      have HB := hide hbel
      have HC := hide hc
      clear h1 h2 h3 hbel hc h
      have hb' : b < wr.heap.size := Nat.lt_of_lt_of_le hb hsz
      have hcp : ∀ t, t < (piece zs j).length → wr.cell? ⟨b, off + 8 * j + t, none⟩ = some (.int .u8 ((piece zs j).getD t 0)) := fun t ht => by
        rw [piece_getD zs j t ht, Nat.add_assoc]
        exact (HB.out.cell (p := ⟨b, off + (8 * j + t), none⟩) hb).trans (HC.out (8 * j + t) (by rw [piece_length] at ht; omega))
      have HCP := hide hcp
      have hp0 : 0 < (piece zs j).length := by rw [piece_length]; omega
      have hp1 : (piece zs j).length ≤ maxLen := by rw [piece_length]; unfold maxLen; omega
      have hp2 : (piece zs j).length * 1 ≤ 140737488355328 := by rw [piece_length]; omega
      have hm1 : j + 1 ≤ maxLen := by unfold maxLen; omega
      have hm2 : (j + 1) * 24 ≤ 140737488355328 := by omega
      clear hcp
      by_cases hm : (zs.length : Int) < 8 * (j : Int) + 8
      · have hpl : zs.length - 8 * j = (piece zs j).length := by rw [piece_length]; omega
        have HPL := hide hpl
        clear hpl
        go_wp2_with (first | (at_builtin; refine wpList_append_fresh rfl (.tmp 19) (.tmp 23) 22 rfl 5 i0 .u8 1 Tryz.underlying22 hi hz0 hz1 hz2 rfl b (off + 8 * j) (zs.length - 8 * j) (cap - 8 * j) (piece zs j) rfl HPL.out hb' HCP.out hp0 hp1 hp2 ?_; intro g c w1 hown1 hg1 hgl1 hbel1; have k1 := hide (ownsRow_below H1.out hbel1); have HO1 := hide hown1; have HB1 := hide hbel1; have hsz1 : w.heap.size ≤ w1.heap.size := Nat.le_trans hsz hbel1.size; clear hown1 hbel1) | (at_builtin; refine wpList_append_one rfl (.tmp 18) (.tmp 25) 163 rfl w.heap.size 22 i1 (.slice none 0 0) 1 24 Tryz.underlying163 ki kz0 kz1 kz2 rfl (by decide) _ _ _ rfl k1.out rfl rfl (by intro u hu; simp at hu; subst hu; rfl) hm1 hm2 hsz1 ?_; intro v' w2 hown2 hkept; have hG : Hid (Grow2 w.heap.size w2 v' (piece zs) (j + 1)) := Grow2.push H1.out H2.out H3.out hsz HB1.out HO1.out hg1 hown2 hkept HPL.out (by first | exact HPL.out | (have := HPL.out; omega)); have hB2 := hide (Kept.below_own (HB.out.trans (HB1.out.mono hsz)) hsz1 k1.out hkept); clear hown2 hkept k1) | go_in)
        go_roundw
        case rel => exact ⟨j + 1, by omega, by go_num, hG.out, hB2.out⟩
        case measure => simp [intOf]; omega
      · have hpl : 8 * j + 8 - 8 * j = (piece zs j).length := by rw [piece_length]; omega
        have HPL := hide hpl
        clear hpl
        go_wp2_with (first | (at_builtin; refine wpList_append_fresh rfl (.tmp 19) (.tmp 23) 22 rfl 5 i0 .u8 1 Tryz.underlying22 hi hz0 hz1 hz2 rfl b (off + 8 * j) (8 * j + 8 - 8 * j) (cap - 8 * j) (piece zs j) rfl HPL.out hb' HCP.out hp0 hp1 hp2 ?_; intro g c w1 hown1 hg1 hgl1 hbel1; have k1 := hide (ownsRow_below H1.out hbel1); have HO1 := hide hown1; have HB1 := hide hbel1; have hsz1 : w.heap.size ≤ w1.heap.size := Nat.le_trans hsz hbel1.size; clear hown1 hbel1) | (at_builtin; refine wpList_append_one rfl (.tmp 18) (.tmp 25) 163 rfl w.heap.size 22 i1 (.slice none 0 0) 1 24 Tryz.underlying163 ki kz0 kz1 kz2 rfl (by decide) _ _ _ rfl k1.out rfl rfl (by intro u hu; simp at hu; subst hu; rfl) hm1 hm2 hsz1 ?_; intro v' w2 hown2 hkept; have hG : Hid (Grow2 w.heap.size w2 v' (piece zs) (j + 1)) := Grow2.push H1.out H2.out H3.out hsz HB1.out HO1.out hg1 hown2 hkept HPL.out (by first | exact HPL.out | (have := HPL.out; omega)); have hB2 := hide (Kept.below_own (HB.out.trans (HB1.out.mono hsz)) hsz1 k1.out hkept); clear hown2 hkept k1) | go_in)
        go_roundw
        case rel => exact ⟨j + 1, by omega, by go_num, hG.out, hB2.out⟩
        case measure => simp [intOf]; omega
    · have hje : j = (cut zs).length := by rw [cut_length]; omega
      subst hje
      go_wp2
      go_ret
      exact ⟨_, rfl, hgrow, hbel⟩


theorem Grow2.mono {B B' : Nat} {w : World} {v : Value} {P : Nat → List Int} {j : Nat} (h : Grow2 B w v P j) (hB : B' ≤ B) : Grow2 B' w v P j := by
  obtain ⟨A, C, h1, h2, h3⟩ := h
  exact ⟨A, C, ownsRow_mono h1 hB, fun i hi => ownsRow_mono (h2 i hi) hB, h3⟩
end Go.Proofs.YtejfcapocikjmaaGreatDoor

namespace Go.Proofs.YtejfcapocikjmaaGreatDoor
open Go.RowKit Go.Maps
set_option linter.unusedVariables false

theorem RightC.inj {D : Nat → Int} {P : Nat → List Int} {n : Nat} (h : RightC D P n) : ∀ i j, i < j → j < n → D i < D j := by
  intro i j hij hj
  induction j with
  | zero => omega
  | succ j ih =>
    have h1 := h.up j hj
    by_cases e : i = j
    · subst e; exact h1
    · have := ih (by omega) (by omega)
      omega
theorem RightC.new {D : Nat → Int} {P : Nat → List Int} {n k : Nat} (h : RightC D P n) (hk : k < n) : D k ∉ (lst D P k).map Prod.fst := by
  rw [lst_key]
  rintro ⟨i, hi, e⟩
  have := h.inj i k hi hk
  omega
theorem RightC.wf {D : Nat → Int} {P : Nat → List Int} {n k : Nat} (h : RightC D P n) (hk : k < n) : (Lit.int .i64 (D k)).wf = true := i64_wf (h.range k hk).1 (h.range k hk).2

theorem RightC.u8len {D : Nat → Int} {P : Nat → List Int} {n i : Nat} (h : RightC D P n) (hi : i < n) : 0 < (P i).length ∧ (P i).length ≤ 1048576 := by
  have := h.len i hi; omega

theorem Reads.lt {k : IntKind} {w : World} {a : Option Addr} {zs : List Int} (h : Reads k w a zs) (hz : zs ≠ []) : ∀ x, a = some x → x.block < w.heap.size := by
  intro x hx
  obtain ⟨b, off, e, hb, _⟩ := h hz
  rw [hx] at e
  simp only [Option.some.injEq] at e
  subst e
  exact hb

set_option maxRecDepth 100000 in
set_option maxHeartbeats 1600000 in
theorem mapChunks_any (a : Option Addr) (c n : Nat) (D : Nat → Int) (P : Nat → List Int) (w : World) (h : RdC w a D P n) (hR : RightC D P n) :
    Calls Tryz.prog 28 #[.slice a n c] w fun e w' => ∃ b, e = .returned (.map (some b)) ∧ w.heap.size ≤ b ∧ Holds w' b n (lst D P n) w.heap.size ∧ Below w.heap.size w w' := by
  have HA := hide h
  have HR := hide hR
  have hn := hR.many
  clear h hR
  have hmm : ∀ u : World, (Instr.makeMap 68 (some (.int .i64 (n : Int)))).run Tryz.prog u = .ok (.map (some u.heap.size)) (u.alloc (.map #[] 0)) := fun u => by simp [Instr.makeMap, asInt, asIntOf, Result.andThen]
  go_enter Tryz.func28, Tryz.ntmps28
  go_wp2
  go_loopw [5, 11] (fun _ i wr => ∃ k : Nat, k ≤ n ∧ i = .int .i64 k ∧ Holds wr w.heap.size k (lst D P k) w.heap.size ∧ Below w.heap.size w wr) (fun _ i _ => n - (intOf i).toNat)
  case atStart => exact ⟨0, Nat.zero_le _, rfl, Holds.made w _, below_alloc _ _⟩
  case round =>
    obtain ⟨k, hk, rfl, hH, hbel⟩ := hrel
    have HH := hide hH
    have HW := hide hbel
    clear hH hbel
    by_cases hlt : k < n
    · obtain ⟨b1, o1, A1, C1, rfl, hb1, hc1⟩ := HA.out (by omega)
      obtain ⟨c1, e1, r1⟩ := hc1 k hlt
      have c1 := (HW.out.cell (p := ⟨b1, o1 + k * 2, none⟩) hb1).trans c1
      have e1 := (HW.out.cell (p := ⟨b1, o1 + k * 2 + 1, none⟩) hb1).trans e1
      have hpos := (HR.out.u8len hlt).1
      have hT := r1.lt (by intro e; simp [e] at hpos)
      have r1 := r1.below HW.out
      have hnew := HR.out.new hlt
      have hwf := HR.out.wf hlt
      have HS := hide (lst_succ D P k)
      generalize A1 k = a1 at e1 r1 hT
      generalize C1 k = d1 at e1
      generalize P k = xs at *
      generalize D k = dd at *
      generalize lst D P k = L at *
      obtain ⟨Dt, hown, hput⟩ := (HH.out.below (below_alloc wr (.cells #[.int .i64 dd, .slice a1 xs.length d1] 65))).put (c := d1) hnew (r1.below (below_alloc _ _)) hT
      have HO := hide hown
      have HPt := hide hput
      have HK := hide (key64 hwf)
      clear hc1 r1 hown hput hnew hwf hT hpos
      go_wp2_with (first | (at_mapUpdate; refine wpList_mapUpdate_own _ rfl _ _ _ 68 rfl 2 65 law64 Tryz.underlying68 RV w.heap.size k Dt rfl HO.out (by unfold maxLen; omega) _ _ _ rfl rfl HK.out (.held (chv dd a1 xs.length d1)) [] rfl ?_; intro w1 hown1 hgrow1; have HH1 := hide (HPt.out w1 hown1 hgrow1); have HG1 := hide hgrow1; clear hown1 hgrow1) | go_in)
      go_roundw
      case rel => exact ⟨k + 1, by omega, by go_num, by rw [HS.out]; exact HH1.out, (below_next HW.out (below_alloc _ _)).trans ((Kept.of_grown HG1.out).below (Nat.le_trans HW.out.size (by simp)) (fun j hj e => by omega))⟩
      case measure => simp [intOf]; omega
    · have hke : k = n := by omega
      subst hke
      go_wp2
      go_ret
      exact ⟨_, rfl, Nat.le_refl _, HH.out, HW.out⟩

set_option maxRecDepth 100000 in
set_option maxHeartbeats 800000 in
theorem l2At_yes (a : Option Addr) (c n i : Nat) (d : Int) (D : Nat → Int) (P : Nat → List Int) (w : World) (h : RdC w a D P n) (hn : n ≤ 1048576) (hi : i < n) (hd : D i = d) (hf : ∀ j, j < i → D j ≠ d) :
    Calls Tryz.prog 47 #[.slice a n c, .int .i64 d] w fun e w' => e = .returned (.int .i64 i) ∧ w' = w := by
  obtain ⟨b1, o1, A1, C1, rfl, hb1, hc1⟩ := h (by omega)
  have HC := hide hc1
  have HF := hide hf
  have HD := hide hd
  clear h hc1 hf hd
  go_enter Tryz.func47, Tryz.ntmps47
  go_wp2
  go_loop [5] (fun q => ∃ k : Nat, k ≤ i ∧ q = .int .i64 k) (fun q => n - (intOf q).toNat)
  case atStart => exact ⟨0, Nat.zero_le _, rfl⟩
  case round =>
    obtain ⟨k, hk, rfl⟩ := hrel
    have hlt : k < n := by omega
    obtain ⟨c1, _, _⟩ := HC.out k hlt
    by_cases e : k = i
    · subst e
      rw [HD.out] at c1
      go_wp2
      go_ret
      exact ⟨rfl, rfl⟩
    · have hne : (D k == d) = false := by simpa using HF.out k (by omega)
      generalize D k = dd at c1 hne
      go_wp2
      go_round
      case rel => exact ⟨k + 1, by omega, by go_num⟩
      case measure => simp [intOf]; omega

set_option maxRecDepth 100000 in
set_option maxHeartbeats 800000 in
theorem l2At_no (a : Option Addr) (c n : Nat) (d : Int) (D : Nat → Int) (P : Nat → List Int) (w : World) (h : RdC w a D P n) (hn : n ≤ 1048576) (hf : ∀ j, j < n → D j ≠ d) :
    Calls Tryz.prog 47 #[.slice a n c, .int .i64 d] w fun e w' => e = .returned (.int .i64 (-1)) ∧ w' = w := by
  have HA := hide h
  have HF := hide hf
  clear h hf
  go_enter Tryz.func47, Tryz.ntmps47
  go_wp2
  go_loop [5] (fun q => ∃ k : Nat, k ≤ n ∧ q = .int .i64 k) (fun q => n - (intOf q).toNat)
  case atStart => exact ⟨0, Nat.zero_le _, rfl⟩
  case round =>
    obtain ⟨k, hk, rfl⟩ := hrel
    by_cases hlt : k < n
    · obtain ⟨b1, o1, A1, C1, rfl, hb1, hc1⟩ := HA.out (by omega)
      obtain ⟨c1, _, _⟩ := hc1 k hlt
      have hne : (D k == d) = false := by simpa using HF.out k hlt
      generalize D k = dd at c1 hne
      clear hc1
      go_wp2
      go_round
      case rel => exact ⟨k + 1, by omega, by go_num⟩
      case measure => simp [intOf]; omega
    · go_wp2
      go_ret
      exact ⟨rfl, rfl⟩

def ResB (q : Int) (zs : List Int) (w : World) (e : Ending) (w' : World) : Prop :=
  ∃ a' c', e = .returned (.agg #[.int .i64 q, .slice a' zs.length c']) ∧ GB w.heap.size w'.heap.size w' (.slice a' zs.length c') zs ∧ Below w.heap.size w w'
theorem GB.nil (B T : Nat) (w : World) : GB B T w (.slice none 0 0) [] := ⟨World.ownsRow_nil _ _ _ _, fun b hb => by simp [Value.ownBlock] at hb⟩
theorem ResB.no {q : Int} {w w' : World} (h : Below w.heap.size w w') : ResB q [] w (.returned (.agg #[.int .i64 q, .slice none 0 0])) w' := ⟨none, 0, rfl, GB.nil _ _ _, h⟩


set_option maxRecDepth 100000 in
set_option maxHeartbeats 800000 in
theorem implChunkFor_no (a : Option Addr) (c n : Nat) (D : Nat → Int) (P : Nat → List Int) (d : Int) (w : World) (h : RdC w a D P n) (hn : n ≤ 1048576) (hP : ∀ i, i < n → U8 (P i) ∧ (P i).length ≤ 1048576) (hF : fault D P n = 0) (hw : (Lit.int .i64 d).wf = true) (hd : ∀ j, j < n → D j ≠ d) :
    Calls Tryz.prog 9 #[.slice a n c, .int .i64 d] w (ResB 4 [] w) := by
  have hfl := implFault_any a c n D P (w.alloc (.cells #[.int .i64 0, .slice none 0 0] 39)) (h.below (below_alloc _ _)) hn hP
  rw [hF] at hfl
  have HR := hide (fault_zero hF)
  have HC := hide hfl
  have HA := hide h
  have HD : Hid (d ∉ (lst D P n).map Prod.fst) := by intro hm; obtain ⟨i, hi, e⟩ := lst_key.1 hm; exact hd i hi e
  clear h hP hF hfl hd
  go_enter Tryz.func9, Tryz.ntmps9
  go_wp2_with fail
  refine HC.out.mono ?_
  rintro e w1 ⟨rfl, b1⟩
  have X1 := hide ((Box.new w (.int .i64 0) (.slice none 0 0) 39).below b1)
  have B1 := hide (below_next (below_alloc w (.cells #[.int .i64 0, .slice none 0 0] 39)) b1)
  clear b1 HC
  go_wp2_with fail
  refine (mapChunks_any a c n D P w1 (HA.out.below B1.out) HR.out).mono ?_
  rintro e w2 ⟨bm, rfl, hbm, H2, b2⟩
  have HL := hide (H2.no HD.out hw 68 Tryz.underlying68)
  have X2 := hide ((X1.out.below b2).below (below_alloc _ (.cells #[.int .i64 0, .slice none 0 0] 65)))
  have B2 := hide (below_next (below_next B1.out b2) (below_alloc _ (.cells #[.int .i64 0, .slice none 0 0] 65)))
  obtain ⟨⟨q0, q1⟩, q2, q3⟩ := X2.out
  clear b2 X1 H2
  go_wp2_with (first | (at_lookup; refine wpList_look rfl _ _ 68 true rfl _ _ _ rfl rfl HL.out ?_) | fail)
  exact bodyPost_ret (v := .agg #[.int .i64 4, .slice none 0 0]) (by simp [results, Tryz.results9, go_sem, q0, q1]) rfl (ResB.no ((B2.out.setCell (Nat.le_refl _) _).setCell (Nat.le_refl _) _))

set_option maxRecDepth 100000 in
set_option maxHeartbeats 800000 in
theorem implChunkFor_yes (a : Option Addr) (c n i : Nat) (D : Nat → Int) (P : Nat → List Int) (d : Int) (w : World) (h : RdC w a D P n) (hn : n ≤ 1048576) (hP : ∀ i, i < n → U8 (P i) ∧ (P i).length ≤ 1048576) (hF : fault D P n = 0) (hw : (Lit.int .i64 d).wf = true) (hi : i < n) (hd : D i = d) :
    Calls Tryz.prog 9 #[.slice a n c, .int .i64 d] w (ResB 0 (P i) w) := by
  have hfl := implFault_any a c n D P (w.alloc (.cells #[.int .i64 0, .slice none 0 0] 39)) (h.below (below_alloc _ _)) hn hP
  rw [hF] at hfl
  have HR := hide (fault_zero hF)
  obtain ⟨hl0, hl1⟩ := HR.out.u8len hi
  have HC := hide hfl
  have HA := hide h
  have HM : Hid ((d, P i) ∈ lst D P n) := lst_mem.2 ⟨i, hi, by rw [hd]⟩
  clear h hP hF hfl hd
  go_enter Tryz.func9, Tryz.ntmps9
  go_wp2_with fail
  refine HC.out.mono ?_
  rintro e w1 ⟨rfl, b1⟩
  have X1 := hide ((Box.new w (.int .i64 0) (.slice none 0 0) 39).below b1)
  have hs1 : w.heap.size < w1.heap.size := by have := b1.size; simp at this; omega
  have B1 := hide (below_next (below_alloc w (.cells #[.int .i64 0, .slice none 0 0] 39)) b1)
  clear b1 HC
  go_wp2_with fail
  refine (mapChunks_any a c n D P w1 (HA.out.below B1.out) HR.out).mono ?_
  rintro e w2 ⟨bm, rfl, hbm, H2, b2⟩
  obtain ⟨a2, c2, hrun, hr2, -⟩ := H2.yes HM.out hw 68 Tryz.underlying68
  have HL := hide (hrun true)
  generalize P i = xs at *
  have hs2 : w1.heap.size ≤ w2.heap.size := b2.size
  have X2 := hide ((X1.out.below b2).below (below_alloc _ (.cells #[.int .i64 d, .slice a2 xs.length c2] 65)))
  have R2 := hide (hr2.below (below_alloc _ (.cells #[.int .i64 d, .slice a2 xs.length c2] 65)))
  have B2 := hide (below_next (below_next B1.out b2) (below_alloc _ (.cells #[.int .i64 d, .slice a2 xs.length c2] 65)))
  clear b2 X1 H2 hrun hr2
  go_wp2_with (first | (at_lookup; refine wpList_look rfl _ _ 68 true rfl _ _ _ rfl rfl HL.out ?_; simp only [chv, if_true]) | fail)
  obtain ⟨b3, o3, rfl, hb3, hc3⟩ := R2.out (by intro e; subst e; simp at hl0)
  refine (clone_any b3 o3 c2 xs _ hc3 hb3 hl0 hl1 _ rfl).mono ?_
  rintro e w4 ⟨g, cc, rfl, hown4, hg4, hgl4, hb4⟩
  have HO4 := hide hown4
  obtain ⟨⟨q0, q1⟩, q2, q3⟩ := X2.out.below hb4
  have B4 := hide (below_next B2.out hb4)
  have hg5 : w2.heap.size + 1 ≤ g := by simpa using hg4
  clear hown4 hb4 hg4 hc3
  go_wp2_with fail
  refine bodyPost_ret (v := .agg #[.int .i64 0, .slice (some ⟨g, 0, none⟩) xs.length cc]) (by simp [results, Tryz.results9, go_sem, q0, q1]) rfl ⟨_, _, rfl, ?_, (B4.out.setCell (Nat.le_refl _) _).setCell (Nat.le_refl _) _⟩
  exact GB.mk (ownsRow_mono (ownsRow_kept (S := fun b => b = w.heap.size) HO4.out (Kept.two _ _ _ _ _ _) (fun b hb e => by simp only [Value.ownBlock, Option.some.injEq] at hb; omega)) (by simp; omega)) rfl

end Go.Proofs.YtejfcapocikjmaaGreatDoor

namespace Go.Proofs.YtejfcapocikjmaaGreatDoor
open Go.RowKit
set_option linter.unusedVariables false

theorem Tryz.infoI64 : (Tryz.prog.info? 2).map (fun i => (i.zero, i.size, i.bytes)) = some (some (.int .i64 0), 1, 8) := by kernel_rfl







end Go.Proofs.YtejfcapocikjmaaGreatDoor

namespace Go.Proofs.YtejfcapocikjmaaGreatDoor
open Go.RowKit
set_option linter.unusedVariables false

def G1 (B T : Nat) (w : World) (v : Value) (ds : List Int) : Prop :=
  w.ownsRow B 2 1 v ds.length (ds.map (Value.int .i64)) ∧ ∀ b, v.ownBlock = some b → b < T
theorem G1.kept {S : Nat → Prop} {B T : Nat} {w w' : World} {v : Value} {ds : List Int} (h : G1 B T w v ds) (hk : Kept S w w') (hS : ∀ b, B ≤ b → b < T → ¬ S b) : G1 B T w' v ds :=
  ⟨ownsRow_kept h.1 hk (fun b hb => hS b (h.1.lt b hb).1 (h.2 b hb)), h.2⟩
theorem G1.mk {B : Nat} {w : World} {v : Value} {ds : List Int} {n : Nat} (h : w.ownsRow B 2 1 v n (ds.map (Value.int .i64))) (hn : n = ds.length) : G1 B w.heap.size w v ds := by
  subst hn
  exact ⟨h, fun b hb => (h.lt b hb).2⟩
theorem G1.own {B T : Nat} {w : World} {a : Option Addr} {c : Nat} {ds : List Int} (h : G1 B T w (.slice a ds.length c) ds) : Own .i64 w a ds := ownsRow_own h.1 rfl
end Go.Proofs.YtejfcapocikjmaaGreatDoor

namespace Go.Proofs.YtejfcapocikjmaaGreatDoor
open Go.RowKit Go.Maps
set_option linter.unusedVariables false

def digFault (zs : List Int) (i : Nat) : Option Int := if 0 ≤ zs.getD i 0 ∧ zs.getD i 0 ≤ 4294967295 then none else some 3
def asked (zs : List Int) : Int := if 3 < zs.length then 2 else firstBad (digFault zs) 0 zs.length
def both (F : Int) (zs : List Int) : Int := if F = 0 then asked zs else F
end Go.Proofs.YtejfcapocikjmaaGreatDoor

namespace Go.Proofs.YtejfcapocikjmaaGreatDoor
open Go.RowKit Go.Maps
set_option linter.unusedVariables false

theorem first_at {D : Nat → Int} {z : Int} : ∀ {n : Nat}, (∃ i, i < n ∧ D i = z) → ∃ i, i < n ∧ D i = z ∧ ∀ j, j < i → D j ≠ z
  | 0, ⟨i, hi, _⟩ => by omega
  | n + 1, ⟨i, hi, e⟩ => by
    by_cases h : ∃ i, i < n ∧ D i = z
    · obtain ⟨j, h1, h2, h3⟩ := first_at h
      exact ⟨j, by omega, h2, h3⟩
    · have hin : i = n := by
        rcases Nat.lt_or_ge i n with h' | h'
        · exact absurd ⟨i, h', e⟩ h
        · omega
      subst hin
      exact ⟨i, by omega, e, fun j hj ej => h ⟨j, hj, ej⟩⟩

theorem contains_upto {ms : List Int} {z : Int} (h : ∀ j, j < ms.length → ms.getD j 0 ≠ z) : ms.contains z = false := by
  simp only [List.contains_eq_mem, decide_eq_false_iff_not]
  intro hm
  obtain ⟨j, hj, e⟩ := List.mem_iff_getElem.1 hm
  exact h j hj (by simp [List.getD_eq_getElem?_getD, hj, e])
theorem contains_hit {ms : List Int} {z : Int} {j : Nat} (hj : j < ms.length) (h : ms.getD j 0 = z) : ms.contains z = true := by
  simp only [List.contains_eq_mem, decide_eq_true_eq]
  have : ms.getD j 0 = ms[j] := by simp [List.getD_eq_getElem?_getD, hj]
  rw [← h, this]
  exact List.getElem_mem hj

set_option maxRecDepth 100000 in
set_option maxHeartbeats 800000 in
theorem l2Among_any (a : Option Addr) (c : Nat) (ms : List Int) (z : Int) (w : World) (h : Reads .i64 w a ms) (hl : ms.length ≤ 1048576) :
    Calls Tryz.prog 23 #[.slice a ms.length c, .int .i64 z] w fun e w' => e = .returned (.bool (ms.contains z)) ∧ w' = w := by
  have HA := hide h
  clear h
  generalize hr : ms.contains z = r
  have HR := hide hr
  clear hr
  go_enter Tryz.func23, Tryz.ntmps23
  go_wp2
  go_loop [5] (fun i => ∃ k : Nat, k ≤ ms.length ∧ i = .int .i64 k ∧ ∀ j, j < k → ms.getD j 0 ≠ z) (fun i => ms.length - (intOf i).toNat)
  case atStart => exact ⟨0, Nat.zero_le _, rfl, fun j hj => absurd hj (by omega)⟩
  case round =>
    obtain ⟨k, hk, rfl, hF⟩ := hrel
    have HF := hide hF
    clear hF
    by_cases hlt : k < ms.length
    · obtain ⟨b, off, rfl, hb1, hc⟩ := HA.out (by intro e; simp [e] at hlt)
      have hc1 := hc k hlt
      generalize hy : ms.getD k 0 = y at hc1
      have HY := hide hy
      clear hy hc
      by_cases e : y = z
      · have e' : (y == z) = true := by simpa using e
        have HE := hide e
        clear e
        go_wp2
        go_ret
        exact ⟨ret_bool (by rw [← HR.out]; exact (contains_hit hlt (HY.out.trans HE.out)).symm), rfl⟩
      · have e' : (y == z) = false := by simpa using e
        go_wp2
        go_round
        case rel => exact ⟨k + 1, by omega, by go_num, fun j hj => by
          by_cases ej : j = k
          · subst ej; rw [HY.out]; exact e
          · exact HF.out j (by omega)⟩
        case measure => simp [intOf]; omega
    · go_wp2
      go_ret
      exact ⟨ret_bool (by rw [← HR.out]; exact (contains_upto (fun j hj => HF.out j (by omega))).symm), rfl⟩

set_option maxRecDepth 100000 in
set_option maxHeartbeats 800000 in
theorem slIndex_any (a : Option Addr) (c : Nat) (ms : List Int) (z : Int) (w : World) (h : Reads .i64 w a ms) (hl : ms.length ≤ 1048576) :
    Calls Tryz.prog 53 #[.slice a ms.length c, .int .i64 z] w fun e w' => (∃ i : Int, e = .returned (.int .i64 i) ∧ decide (0 ≤ i) = ms.contains z ∧ -1 ≤ i ∧ i ≤ 1048576) ∧ w' = w := by
  have HA := hide h
  clear h
  generalize hr : ms.contains z = r
  have HR := hide hr
  clear hr
  go_enter Tryz.func53, Tryz.ntmps53
  go_wp2
  go_loop [5, 8] (fun _ i => ∃ k : Nat, k ≤ ms.length ∧ i = .int .i64 k ∧ ∀ j, j < k → ms.getD j 0 ≠ z) (fun _ i => ms.length - (intOf i).toNat)
  case atStart => exact ⟨0, Nat.zero_le _, rfl, fun j hj => absurd hj (by omega)⟩
  case round =>
    obtain ⟨k, hk, rfl, hF⟩ := hrel
    have HF := hide hF
    clear hF
    by_cases hlt : k < ms.length
    · obtain ⟨b, off, rfl, hb1, hc⟩ := HA.out (by intro e; simp [e] at hlt)
      have hc1 := hc k hlt
      generalize hy : ms.getD k 0 = y at hc1
      have HY := hide hy
      clear hy hc
      by_cases e : y = z
      · have e' : (z == y) = true := by simpa using e.symm
        have HE := hide e
        clear e
        go_wp2
        go_ret
        exact ⟨⟨_, rfl, by rw [← HR.out, contains_hit hlt (HY.out.trans HE.out)]; simp, by omega, by omega⟩, rfl⟩
      · have e' : (z == y) = false := by simpa using fun h => e h.symm
        go_wp2
        go_round
        case rel => exact ⟨k + 1, by omega, by go_num, fun j hj => by
          by_cases ej : j = k
          · subst ej; rw [HY.out]; exact e
          · exact HF.out j (by omega)⟩
        case measure => simp [intOf]; omega
    · go_wp2
      go_ret
      exact ⟨⟨_, rfl, by rw [← HR.out, contains_upto (fun j hj => HF.out j (by omega))]; simp, by omega, by omega⟩, rfl⟩

set_option maxRecDepth 100000 in
set_option maxHeartbeats 800000 in
theorem slContains_any (a : Option Addr) (c : Nat) (ms : List Int) (z : Int) (w : World) (h : Reads .i64 w a ms) (hl : ms.length ≤ 1048576) :
    Calls Tryz.prog 26 #[.slice a ms.length c, .int .i64 z] w fun e w' => e = .returned (.bool (ms.contains z)) ∧ w' = w := by
  have HC := hide (slIndex_any a c ms z w h hl)
  clear h
  generalize ms.contains z = r at *
  go_enter Tryz.func26, Tryz.ntmps26
  go_wp2_with fail
  refine HC.out.mono ?_
  rintro e w1 ⟨⟨i, rfl, hi, h1, h2⟩, rfl⟩
  subst hi
  go_wp2_with fail
  go_ret
  exact ⟨rfl, rfl⟩


end Go.Proofs.YtejfcapocikjmaaGreatDoor

namespace Go.Proofs.YtejfcapocikjmaaGreatDoor
open Go.RowKit Go.Maps
set_option linter.unusedVariables false

def RdW (w : World) (a : Option Addr) (W : List Wn) : Prop :=
  W ≠ [] → ∃ b off, a = some ⟨b, off, none⟩ ∧ b < w.heap.size ∧ ∀ i, i < W.length → w.cell? ⟨b, off + i * 2, none⟩ = some (.int .i64 (W.getD i (0, 0)).1) ∧ w.cell? ⟨b, off + i * 2 + 1, none⟩ = some (.int .i64 (W.getD i (0, 0)).2)
theorem RdW.kept {S : Nat → Prop} {w w' : World} {a : Option Addr} {W : List Wn} (h : RdW w a W) (hk : Kept S w w') (hn : W ≠ [] → ∀ x, a = some x → ¬ S x.block) : RdW w' a W := by
  intro hz
  obtain ⟨b, off, rfl, hb, hc⟩ := h hz
  have hS := hn hz ⟨b, off, none⟩ rfl
  exact ⟨b, off, rfl, Nat.lt_of_lt_of_le hb hk.size, fun i hi => ⟨(hk.cell (p := ⟨b, off + i * 2, none⟩) hb hS).trans (hc i hi).1, (hk.cell (p := ⟨b, off + i * 2 + 1, none⟩) hb hS).trans (hc i hi).2⟩⟩
theorem RdW.below {w w' : World} {a : Option Addr} {W : List Wn} (h : RdW w a W) (hk : Below w.heap.size w w') : RdW w' a W :=
  h.kept (S := fun _ => False) (Kept.of_below hk) (fun _ _ _ => id)
def ptrV (p : Nat) : Value := .pointer (some ⟨p, 0, none⟩)
def RdP (w : World) (a : Option Addr) (ps : List Nat) (W : List Wn) : Prop :=
  ps.length = W.length ∧ (∀ i, i < W.length → Two w (ps.getD i 0) (.int .i64 (W.getD i (0, 0)).1) (.int .i64 (W.getD i (0, 0)).2)) ∧ (W ≠ [] → ∃ b off, a = some ⟨b, off, none⟩ ∧ b < w.heap.size ∧ ∀ i, i < W.length → w.cell? ⟨b, off + i, none⟩ = some (ptrV (ps.getD i 0)))
theorem RdP.below {w w' : World} {a : Option Addr} {ps : List Nat} {W : List Wn} (h : RdP w a ps W) (hk : Below w.heap.size w w') : RdP w' a ps W := by
  obtain ⟨h1, h2, h3⟩ := h
  refine ⟨h1, fun i hi => (h2 i hi).below hk, fun hz => ?_⟩
  obtain ⟨b, off, rfl, hb, hc⟩ := h3 hz
  exact ⟨b, off, rfl, Nat.lt_of_lt_of_le hb hk.size, fun i hi => (hk.cell (p := ⟨b, off + i, none⟩) hb).trans (hc i hi)⟩
theorem RdP.nil (w : World) (a : Option Addr) : RdP w a [] [] := ⟨rfl, fun i hi => absurd hi (by simp), fun h => absurd rfl h⟩
structure OwnP (B : Nat) (w : World) (v : Value) (ps : List Nat) (W : List Wn) : Prop where
  row : w.ownsRow B 85 1 v W.length (ps.map ptrV)
  len : ps.length = W.length
  box : ∀ i, i < W.length → B ≤ ps.getD i 0 ∧ Box w (ps.getD i 0) (.int .i64 (W.getD i (0, 0)).1) (.int .i64 (W.getD i (0, 0)).2)
  one : ps.Nodup
theorem OwnP.nil (B : Nat) (w : World) : OwnP B w (.slice none 0 0) [] [] := ⟨World.ownsRow_nil _ _ _ _, rfl, fun i hi => absurd hi (by simp), List.nodup_nil⟩
theorem OwnP.rd {B : Nat} {w : World} {a : Option Addr} {n c : Nat} {ps : List Nat} {W : List Wn} (h : OwnP B w (.slice a n c) ps W) : RdP w a ps W := by
  refine ⟨h.len, fun i hi => (h.box i hi).2.1, fun hz => ?_⟩
  have h0 : 0 < W.length := List.length_pos_iff.2 hz
  have hr := h.row
  rcases hr.2 with ⟨h', hh⟩ | ⟨g, cap, cur, h', hb, hh, hnc, hcm, hcs, htake⟩
  · omega
  · have hl : n = W.length ∧ a = some ⟨g, 0, none⟩ := by simp only [Value.slice.injEq] at h'; exact ⟨h'.2.1, h'.1⟩
    obtain ⟨rfl, rfl⟩ := hl
    refine ⟨g, 0, rfl, (hr.lt g rfl).2, fun i hi => ?_⟩
    have := World.ownsRow.cellAt hr i (by omega)
    have hlp : i < ps.length := by rw [h.len]; exact hi
    simpa [Nat.zero_add, List.getD_eq_getElem?_getD, hlp] using this
theorem OwnP.kept {S : Nat → Prop} {B : Nat} {w w' : World} {v : Value} {ps : List Nat} {W : List Wn} (h : OwnP B w v ps W) (hk : Kept S w w') (hS : ∀ b, B ≤ b → ¬ S b) : OwnP B w' v ps W :=
  ⟨ownsRow_kept h.row hk (fun b hb => hS b (h.row.lt b hb).1), h.len, fun i hi => ⟨(h.box i hi).1, (h.box i hi).2.kept hk (hS _ (h.box i hi).1)⟩, h.one⟩
theorem OwnP.below {B : Nat} {w w' : World} {v : Value} {ps : List Nat} {W : List Wn} (h : OwnP B w v ps W) (hk : Below w.heap.size w w') : OwnP B w' v ps W :=
  h.kept (S := fun _ => False) (Kept.of_below hk) (fun _ _ => id)
theorem row_box {w : World} {B p : Nat} {v : Value} {ps : List Nat} {n : Nat} {d t : Int} (h : w.ownsRow B 85 1 v n (ps.map ptrV)) (hn : n = ps.length) (hp : Two w p (.int .i64 d) (.int .i64 t)) : ∀ b, v.ownBlock = some b → 0 < n → p ≠ b := by
  rintro b hb h0 rfl
  rcases h.2 with ⟨h', hh⟩ | ⟨g, cap, cur, rfl, hg, hh, hnc, hcm, hcs, htake⟩
  · omega
  · simp only [Value.ownBlock, Option.some.injEq] at hb
    subst hb
    have := World.ownsRow.cellAt h 0 (by omega)
    have hlp : 0 < ps.length := by omega
    rw [hp.1] at this
    simp [ptrV, List.getElem?_eq_getElem hlp] at this
theorem getD_snoc {α : Type} {l : List α} {x z : α} {i : Nat} (hi : i < l.length) : (l ++ [x]).getD i z = l.getD i z := by simp [List.getD_eq_getElem?_getD, List.getElem?_append_left hi]
theorem getD_last {α : Type} {l : List α} {x z : α} : (l ++ [x]).getD l.length z = x := by simp [List.getD_eq_getElem?_getD]
theorem OwnP.push {B : Nat} {w w2 : World} {v v' : Value} {ps : List Nat} {W : List Wn} {p : Nat} {d t : Int} (h : OwnP B w v ps W) (hb : Box w p (.int .i64 d) (.int .i64 t)) (hB : B ≤ p) (hnew : ∀ i, i < W.length → ps.getD i 0 ≠ p) (hrow : w2.ownsRow B 85 1 v' (W.length + 1) (ps.map ptrV ++ [ptrV p])) (hk : Kept (fun b => v.ownBlock = some b) w w2) (hv : ∀ b, v.ownBlock = some b → p ≠ b) : OwnP B w2 v' (ps ++ [p]) (W ++ [(d, t)]) := by
  have hpos : ∀ b, v.ownBlock = some b → ∀ i, i < W.length → ps.getD i 0 ≠ b := fun b hb' i hi => row_box h.row h.len.symm (h.box i hi).2.1 b hb' (by omega)
  refine ⟨by simpa using hrow, by simp [h.len], fun i hi => ?_, ?_⟩
  · by_cases e : i < W.length
    · rw [getD_snoc (by rw [h.len]; exact e), getD_snoc e]
      exact ⟨(h.box i e).1, (h.box i e).2.kept hk (fun hS => hpos _ hS i e rfl)⟩
    · have hi2 : i = W.length := by simp at hi; omega
      subst hi2
      rw [getD_last]
      rw [show W.length = ps.length from h.len.symm, getD_last]
      exact ⟨hB, hb.kept hk (fun hS => hv _ hS rfl)⟩
  · rw [List.nodup_append]
    refine ⟨h.one, by simp, fun x hx y hy e => ?_⟩
    simp at hy
    subst hy
    subst e
    obtain ⟨i, hi, e⟩ := List.getElem_of_mem hx
    exact hnew i (by rw [← h.len]; exact hi) (by rw [List.getD_eq_getElem?_getD, List.getElem?_eq_getElem hi]; exact e)
theorem isDg_any (n : Int) (w : World) : Calls Tryz.prog 30 #[.int .i64 n] w fun e w' => e = .returned (.bool (decide (okD n))) ∧ w' = w := by
  by_cases h0 : 0 ≤ n
  · by_cases h1 : n ≤ 4294967295
    · have hd : decide (okD n) = true := decide_eq_true ⟨h0, h1⟩
      rw [hd]
      go_enter Tryz.func30, Tryz.ntmps30
      go_wp2
      go_ret
      exact ⟨ret_bool (by simp <;> omega), rfl⟩
    · have hd : decide (okD n) = false := decide_eq_false (fun h => h1 h.2)
      rw [hd]
      go_enter Tryz.func30, Tryz.ntmps30
      go_wp2
      go_ret
      exact ⟨ret_bool (by simp <;> omega), rfl⟩
  · have hd : decide (okD n) = false := decide_eq_false (fun h => h0 h.1)
    rw [hd]
    have hneg : n < 0 := by omega
    go_enter Tryz.func30, Tryz.ntmps30
    go_wp2
    go_ret
    exact ⟨ret_bool (by simp <;> omega), rfl⟩
set_option maxRecDepth 100000 in
set_option maxHeartbeats 800000 in
theorem wanted_yes (fb : Nat) (a : Option Addr) (c i : Nat) (ps : List Nat) (W : List Wn) (d : Int) (w : World) (h0 : w.cell? ⟨fb, 0, none⟩ = some (.slice a W.length c)) (h : RdP w a ps W) (hl : W.length ≤ 1048576) (hi : i < W.length) (hd : (W.getD i (0, 0)).1 = d) (hf : ∀ j, j < i → (W.getD j (0, 0)).1 ≠ d) (p : Nat) (hp : ps.getD i 0 = p) :
    Calls Tryz.prog 82 #[.pointer (some ⟨fb, 0, none⟩), .int .i64 d] w fun e w' => e = .returned (.pointer (some ⟨p, 0, none⟩)) ∧ w' = w := by
  obtain ⟨h1, h2, h3⟩ := h
  obtain ⟨b1, o1, rfl, hb1, hc1⟩ := h3 (by intro e; simp [e] at hi)
  have H2 := hide h2
  have HC := hide hc1
  have HF := hide hf
  have HD := hide hd
  have HPP := hide hp
  clear h1 h2 h3 hc1 hf hd hp
  go_enter Tryz.func82, Tryz.ntmps82
  go_wp2
  go_loop [6, 12] (fun _ q => ∃ k : Nat, k ≤ i ∧ q = .int .i64 k) (fun _ q => W.length - (intOf q).toNat)
  case atStart => exact ⟨0, Nat.zero_le _, rfl⟩
  case round =>
    obtain ⟨k, hk, rfl⟩ := hrel
    have hlt : k < W.length := by omega
    have c1 := HC.out k hlt
    obtain ⟨e1, -⟩ := H2.out k hlt
    by_cases e : k = i
    · subst e
      rw [HD.out] at e1
      rw [HPP.out] at c1 e1
      unfold ptrV at *
      go_wp2
      go_ret
      exact ⟨rfl, rfl⟩
    · have hne : ((W.getD k (0, 0)).1 == d) = false := by simpa using HF.out k (by omega)
      generalize (W.getD k (0, 0)).1 = dd at e1 hne
      generalize ps.getD k 0 = p' at *
      unfold ptrV at *
      go_wp2
      go_round
      case rel => exact ⟨k + 1, by omega, by go_num⟩
      case measure => simp [intOf]; omega
set_option maxRecDepth 100000 in
set_option maxHeartbeats 800000 in
theorem wanted_no (fb : Nat) (a : Option Addr) (c : Nat) (ps : List Nat) (W : List Wn) (d : Int) (w : World) (h0 : w.cell? ⟨fb, 0, none⟩ = some (.slice a W.length c)) (h : RdP w a ps W) (hl : W.length ≤ 1048576) (hf : ∀ j, j < W.length → (W.getD j (0, 0)).1 ≠ d) :
    Calls Tryz.prog 82 #[.pointer (some ⟨fb, 0, none⟩), .int .i64 d] w fun e w' => e = .returned (.pointer none) ∧ w' = w := by
  obtain ⟨h1, h2, h3⟩ := h
  have H2 := hide h2
  have H3 := hide h3
  have HF := hide hf
  clear h1 h2 h3 hf
  go_enter Tryz.func82, Tryz.ntmps82
  go_wp2
  go_loop [6, 12] (fun _ q => ∃ k : Nat, k ≤ W.length ∧ q = .int .i64 k) (fun _ q => W.length - (intOf q).toNat)
  case atStart => exact ⟨0, Nat.zero_le _, rfl⟩
  case round =>
    obtain ⟨k, hk, rfl⟩ := hrel
    by_cases hlt : k < W.length
    · obtain ⟨b1, o1, rfl, hb1, hc1⟩ := H3.out (by intro e; simp [e] at hlt)
      have c1 := hc1 k hlt
      clear hc1
      obtain ⟨e1, -⟩ := H2.out k hlt
      have hne : ((W.getD k (0, 0)).1 == d) = false := by simpa using HF.out k (by omega)
      generalize (W.getD k (0, 0)).1 = dd at e1 hne
      generalize ps.getD k 0 = p' at *
      unfold ptrV at *
      go_wp2
      go_round
      case rel => exact ⟨k + 1, by omega, by go_num⟩
      case measure => simp [intOf]; omega
    · go_wp2
      go_ret
      exact ⟨rfl, rfl⟩
end Go.Proofs.YtejfcapocikjmaaGreatDoor

namespace Go.Proofs.YtejfcapocikjmaaGreatDoor
open Go.RowKit Go.Maps
set_option linter.unusedVariables false

theorem mem_keys {W : List Wn} {d : Int} : d ∈ W.map Prod.fst ↔ ∃ i, i < W.length ∧ (W.getD i (0, 0)).1 = d := by
  constructor
  · intro h
    obtain ⟨x, hx, rfl⟩ := List.mem_map.1 h
    obtain ⟨i, hi, rfl⟩ := List.getElem_of_mem hx
    exact ⟨i, hi, by rw [List.getD_eq_getElem?_getD, List.getElem?_eq_getElem hi]; rfl⟩
  · rintro ⟨i, hi, rfl⟩
    exact List.mem_map.2 ⟨_, getD_mem (0, 0) hi, rfl⟩
set_option maxRecDepth 100000 in
set_option maxHeartbeats 1600000 in
theorem knows_any (fb : Nat) (a : Option Addr) (c : Nat) (ps : List Nat) (W : List Wn) (fa : Option Addr) (fc : Nat) (F : List Int) (bm N T : Nat) (L : List Ch) (d : Int) (w : World) (h0 : w.cell? ⟨fb, 0, none⟩ = some (.slice a W.length c)) (h1 : w.cell? ⟨fb, 1, none⟩ = some (.slice fa F.length fc)) (h2 : w.cell? ⟨fb, 2, none⟩ = some (.map (some bm))) (hP : RdP w a ps W) (hF : Reads .i64 w fa F) (hH : Holds w bm N L T) (hW : W.length ≤ 1048576) (hFl : F.length ≤ 1048576) (hwf : (Lit.int .i64 d).wf = true) :
    Calls Tryz.prog 55 #[.pointer (some ⟨fb, 0, none⟩), .int .i64 d] w fun e w' => e = .returned (.bool (decide (d ∈ L.map Prod.fst ∨ d ∈ F ∨ d ∈ W.map Prod.fst))) ∧ Below w.heap.size w w' := by
  have hfb : fb < w.heap.size := World.block_lt_of_cell? w ⟨fb, 0, none⟩ h0
  by_cases hk : d ∈ L.map Prod.fst
  · obtain ⟨⟨d', zs⟩, hm, hd'⟩ := List.mem_map.1 hk
    simp only at hd'
    subst hd'
    obtain ⟨a3, c3, hrun, -⟩ := hH.yes hm hwf 68 Tryz.underlying68
    have HL := hide (hrun true)
    rw [decide_eq_true (Or.inl hk)]
    clear hrun hP hF hH hm hk
    generalize zs.length = zl at *
    go_enter Tryz.func55, Tryz.ntmps55
    go_wp2_with (first | (at_lookup; refine wpList_look rfl _ _ 68 true rfl _ _ _ rfl rfl HL.out ?_; simp only [chv, if_true]) | fail)
    go_ret
    exact ⟨rfl, below_alloc _ _⟩
  · have HL := hide (hH.no hk hwf 68 Tryz.underlying68)
    have B1 := hide (below_alloc w (.cells #[.int .i64 0, .slice none 0 0] 65))
    have HCn := hide (slContains_any fa fc F d _ (hF.below B1.out) hFl)
    have k0 := (B1.out.cell (p := ⟨fb, 0, none⟩) hfb).trans h0
    have k1 := (B1.out.cell (p := ⟨fb, 1, none⟩) hfb).trans h1
    by_cases hf : d ∈ F
    · rw [decide_eq_true (Or.inr (Or.inl hf))]
      rw [show F.contains d = true by simpa using hf] at HCn
      clear hP hF hH hk hf
      go_enter Tryz.func55, Tryz.ntmps55
      go_wp2_with (first | (at_lookup; refine wpList_look rfl _ _ 68 true rfl _ _ _ rfl rfl HL.out ?_) | (go_at_call 26; refine HCn.out.mono ?_; rintro e w1 ⟨rfl, rfl⟩) | fail)
      go_ret
      exact ⟨rfl, B1.out⟩
    · rw [show F.contains d = false by simpa using hf] at HCn
      by_cases hw : d ∈ W.map Prod.fst
      · rw [decide_eq_true (Or.inr (Or.inr hw))]
        obtain ⟨i, hi, hd, hfst⟩ := first_at (D := fun i => (W.getD i (0, 0)).1) (mem_keys.1 hw)
        have HWt := hide (wanted_yes fb a c i ps W d _ k0 (hP.below B1.out) hW hi hd hfst _ rfl)
        generalize ps.getD i 0 = p at *
        clear hP hF hH hk hf hw hd hfst
        go_enter Tryz.func55, Tryz.ntmps55
        go_wp2_with (first | (at_lookup; refine wpList_look rfl _ _ 68 true rfl _ _ _ rfl rfl HL.out ?_) | (go_at_call 26; refine HCn.out.mono ?_; rintro e w1 ⟨rfl, rfl⟩) | (go_at_call 82; refine HWt.out.mono ?_; rintro e w1 ⟨rfl, rfl⟩) | fail)
        go_ret
        exact ⟨rfl, B1.out⟩
      · rw [decide_eq_false (fun h => h.elim hk (fun h => h.elim hf hw))]
        have HWt := hide (wanted_no fb a c ps W d _ k0 (hP.below B1.out) hW (fun j hj e => hw (mem_keys.2 ⟨j, hj, e⟩)))
        clear hP hF hH hk hf hw
        go_enter Tryz.func55, Tryz.ntmps55
        go_wp2_with (first | (at_lookup; refine wpList_look rfl _ _ 68 true rfl _ _ _ rfl rfl HL.out ?_) | (go_at_call 26; refine HCn.out.mono ?_; rintro e w1 ⟨rfl, rfl⟩) | (go_at_call 82; refine HWt.out.mono ?_; rintro e w1 ⟨rfl, rfl⟩) | fail)
        go_ret
        exact ⟨rfl, B1.out⟩
end Go.Proofs.YtejfcapocikjmaaGreatDoor

