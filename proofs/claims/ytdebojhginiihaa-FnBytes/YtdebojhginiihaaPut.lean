/-
  Contracts of the model's functions on lists of chunks: a chunk is put into its place.
-/
import Derived.Test.YtdebojhginiihaaCopy
namespace Go.Proofs.Ytdebojhginiihaa
open Go.RowKit Go.Maps
set_option linter.unusedVariables false
attribute [local go_sem ↓] Go.wp_at_zero Go.wp_at_succ

/-- f with x put in at m; f without what is at m. -/
def ins {α : Type} (f : Nat → α) (m : Nat) (x : α) : Nat → α := fun i => if i < m then f i else if i = m then x else f (i - 1)
def del {α : Type} (f : Nat → α) (m : Nat) : Nat → α := fun i => if i < m then f i else f (i + 1)

theorem ins_flat (D : Nat → Int) (P : Nat → List Int) (A : Nat → Option Addr) (C : Nat → Nat) {n m : Nat} (hm : m ≤ n) (d : Int) (zs : List Int) (da : Option Addr) (dc : Nat) :
    flat (n + 1) (chCells (ins D m d) (ins P m zs) (ins A m da) (ins C m dc)) = (flat m (chCells D P A C) ++ [.int .i64 d, .slice da zs.length dc]) ++ (flat n (chCells D P A C)).drop (m * 2) := by
  have l1 := flat_length (n := m) (k := 2) (F := chCells D P A C) (fun i _ => rfl)
  have l2 := flat_length (n := n) (k := 2) (F := chCells D P A C) (fun i _ => rfl)
  have l3 := flat_length (n := n + 1) (k := 2) (F := chCells (ins D m d) (ins P m zs) (ins A m da) (ins C m dc)) (fun i _ => rfl)
  apply List.ext_getElem?
  intro p
  by_cases hp : p < (n + 1) * 2
  · have e : p = p / 2 * 2 + p % 2 := by omega
    have h1 : p / 2 < n + 1 := by omega
    have h2 : p % 2 < 2 := by omega
    generalize p / 2 = q at e h1
    generalize p % 2 = r at e h2
    subst e
    rw [flat_get (k := 2) (fun i _ => rfl) q r h1 h2]
    by_cases h3 : q < m
    · rw [List.getElem?_append_left (by simp [l1]; omega), List.getElem?_append_left (by rw [l1]; omega), flat_get (k := 2) (fun i _ => rfl) q r h3 h2]
      simp [chCells, ins, h3]
    · by_cases h4 : q = m
      · subst h4
        rw [List.getElem?_append_left (by simp [l1]; omega), List.getElem?_append_right (by rw [l1]; omega), l1]
        have : q * 2 + r - q * 2 = r := by omega
        rw [this]
        simp [chCells, ins]
      · rw [List.getElem?_append_right (by simp [l1]; omega), List.getElem?_drop]
        have : m * 2 + (q * 2 + r - (flat m (chCells D P A C) ++ [Value.int .i64 d, .slice da zs.length dc]).length) = (q - 1) * 2 + r := by simp [l1]; omega
        rw [this, flat_get (k := 2) (fun i _ => rfl) (q - 1) r (by omega) h2]
        simp [chCells, ins, h3, h4]
  · rw [List.getElem?_eq_none (by omega), List.getElem?_eq_none (by simp [l1, l2]; omega)]

theorem del_flat (D : Nat → Int) (P : Nat → List Int) (A : Nat → Option Addr) (C : Nat → Nat) {n m : Nat} (hm : m < n) :
    flat (n - 1) (chCells (del D m) (del P m) (del A m) (del C m)) = flat m (chCells D P A C) ++ (flat n (chCells D P A C)).drop ((m + 1) * 2) := by
  have l1 := flat_length (n := m) (k := 2) (F := chCells D P A C) (fun i _ => rfl)
  have l2 := flat_length (n := n) (k := 2) (F := chCells D P A C) (fun i _ => rfl)
  have l3 := flat_length (n := n - 1) (k := 2) (F := chCells (del D m) (del P m) (del A m) (del C m)) (fun i _ => rfl)
  apply List.ext_getElem?
  intro p
  by_cases hp : p < (n - 1) * 2
  · have e : p = p / 2 * 2 + p % 2 := by omega
    have h1 : p / 2 < n - 1 := by omega
    have h2 : p % 2 < 2 := by omega
    generalize p / 2 = q at e h1
    generalize p % 2 = r at e h2
    subst e
    rw [flat_get (k := 2) (fun i _ => rfl) q r h1 h2]
    by_cases h3 : q < m
    · rw [List.getElem?_append_left (by rw [l1]; omega), flat_get (k := 2) (fun i _ => rfl) q r h3 h2]
      simp [chCells, del, h3]
    · rw [List.getElem?_append_right (by rw [l1]; omega), List.getElem?_drop]
      have : (m + 1) * 2 + (q * 2 + r - (flat m (chCells D P A C)).length) = (q + 1) * 2 + r := by rw [l1]; omega
      rw [this, flat_get (k := 2) (fun i _ => rfl) (q + 1) r (by omega) h2]
      simp [chCells, del, h3]
  · rw [List.getElem?_eq_none (by omega), List.getElem?_eq_none (by simp [l1, l2]; omega)]

theorem RdC.of_rows {w : World} {B : Nat} {a : Option Addr} {c n : Nat} {D : Nat → Int} {P : Nat → List Int} {A : Nat → Option Addr} {C : Nat → Nat} (h1 : w.ownsRow B 53 2 (.slice a n c) n (flat n (chCells D P A C))) (h2 : ∀ i, i < n → Reads .u8 w (A i) (P i)) : RdC w a D P n := by
  intro hn
  rcases h1.2 with ⟨_, h0⟩ | ⟨g, cap, cur, h', hb, hh, hnc, hcm, hcs, htake⟩
  · omega
  · simp only [Value.slice.injEq, true_and] at h'
    obtain ⟨rfl, rfl⟩ := h'
    have hf := fun i r hi hr => flat_get (n := n) (k := 2) (F := chCells D P A C) (fun i _ => rfl) i r hi hr
    refine ⟨g, 0, A, C, rfl, (h1.lt g rfl).2, fun i hi => ⟨?_, ?_, h2 i hi⟩⟩
    · rw [Nat.zero_add, h1.cellAt (i * 2) (by omega)]
      have := hf i 0 hi (by decide)
      rw [Nat.add_zero] at this
      rw [this]; rfl
    · rw [Nat.zero_add, h1.cellAt (i * 2 + 1) (by omega), hf i 1 hi (by decide)]; rfl

/-- The cells of a list that is read, from element m on. -/
theorem rdC_news {w : World} {b off n : Nat} {D : Nat → Int} {P : Nat → List Int} {A : Nat → Option Addr} {C : Nat → Nat} (hc : ∀ i, i < n → w.cell? ⟨b, off + i * 2, none⟩ = some (.int .i64 (D i)) ∧ w.cell? ⟨b, off + i * 2 + 1, none⟩ = some (.slice (A i) (P i).length (C i))) (m : Nat) :
    ∀ j u, ((flat n (chCells D P A C)).drop (m * 2))[j]? = some u → w.cell? ((⟨b, off + m * 2, none⟩ : Addr).add j) = some u := by
  intro j u hj
  have hl := flat_length (n := n) (k := 2) (F := chCells D P A C) (fun i _ => rfl)
  rw [List.getElem?_drop] at hj
  have hp : m * 2 + j < n * 2 := by
    rcases Nat.lt_or_ge (m * 2 + j) (n * 2) with h | h
    · exact h
    · rw [List.getElem?_eq_none (by omega)] at hj; cases hj
  have ea : (⟨b, off + m * 2, none⟩ : Addr).add j = ⟨b, off + m * 2 + j, none⟩ := by unfold Addr.add; split <;> simp_all
  rw [ea]
  have e : m * 2 + j = (m * 2 + j) / 2 * 2 + (m * 2 + j) % 2 := by omega
  have h1 : (m * 2 + j) / 2 < n := by omega
  have h2 : (m * 2 + j) % 2 = 0 ∨ (m * 2 + j) % 2 = 1 := by omega
  have ea2 : off + m * 2 + j = off + (m * 2 + j) := by omega
  rw [ea2]
  generalize (m * 2 + j) / 2 = q at e h1
  rcases h2 with h2 | h2
  · rw [h2] at e
    rw [e] at hj ⊢
    rw [flat_get (k := 2) (fun i _ => rfl) q 0 h1 (by decide)] at hj
    have := (hc q h1).1
    simp only [Nat.add_zero] at this ⊢
    rw [this]; exact hj
  · rw [h2] at e
    rw [e] at hj ⊢
    rw [flat_get (k := 2) (fun i _ => rfl) q 1 h1 (by decide)] at hj
    have := (hc q h1).2
    rw [← Nat.add_assoc, this]; exact hj
theorem rdC_news0 {w : World} {b off n : Nat} {D : Nat → Int} {P : Nat → List Int} {A : Nat → Option Addr} {C : Nat → Nat} (hc : ∀ i, i < n → w.cell? ⟨b, off + i * 2, none⟩ = some (.int .i64 (D i)) ∧ w.cell? ⟨b, off + i * 2 + 1, none⟩ = some (.slice (A i) (P i).length (C i))) (m : Nat) (hm : m ≤ n) :
    ∀ j u, (flat m (chCells D P A C))[j]? = some u → w.cell? ((⟨b, off, none⟩ : Addr).add j) = some u := by
  intro j u hj
  have := rdC_news (n := m) (fun i hi => hc i (by omega)) 0 j u (by simpa using hj)
  simpa using this
theorem flat_one (n : Nat) (D : Nat → Int) (P : Nat → List Int) (A : Nat → Option Addr) (C : Nat → Nat) : ∀ u ∈ flat n (chCells D P A C), u.oneCell' = true := by
  intro u hu
  unfold flat at hu
  obtain ⟨i, _, hi⟩ := List.mem_flatMap.1 hu
  simp [chCells] at hi
  rcases hi with rfl | rfl <;> rfl

/-- append on an owned row, its new length spelt otherwise. -/
theorem wpList_append_N {P : Program} {w : World} {ops : Array Oper} {rest : List Oper} {o : Oper} {a : Act} {Q : Exit → Act → World → Prop} (hgd : o.guard = none) (s x : Operand) (t : TypeId)
    (ho : o.op = .call { callee := .builtin .append, args := #[s, x], argTypes := #[t, t] })
    (base : Nat) (e : TypeId) (i : TypeInfo) (z : Value) (size bytes : Nat) (ht : P.underlying t = some (.slice e)) (hi : P.info? e = some i) (hz : i.zero = some z)
    (hsize : i.size = size) (hby : i.bytes = bytes) (hzs : z.cells.size = size) (hsz : 0 < size)
    (v : Value) (n : Nat) (xs : List Value) (hs : a.eval s = v) (hown : w.ownsRow base e size v n xs)
    (ad : Addr) (m c : Nat) (news : List Value) (hx : a.eval x = .slice (some ad) m c) (hl : news.length = m * size) (hnews : ∀ j u, news[j]? = some u → w.cell? (ad.add j) = some u) (h1 : ∀ u ∈ news, u.oneCell' = true)
    (N : Nat) (hN : n + m = N) (h63 : n + m ≤ maxLen) (hbytes : (n + m) * bytes ≤ 140737488355328) (hbase : base ≤ w.heap.size)
    (h : ∀ av cv w', w'.ownsRow base e size (.slice av N cv) N (xs ++ news) → Kept (fun b => v.ownBlock = some b) w w' → wpList P ops Q rest (a.put o.dst (.slice av N cv)) w') :
    wpList P ops Q (o :: rest) a w := by
  refine wpList_append_own w hgd s x t ho base e i z size bytes ht hi hz hsize hby hzs hsz v n xs hs hown ad m c news hx hl hnews h1 h63 hbytes hbase fun v' w' h2 h3 _ => ?_
  rw [hN] at h2
  obtain ⟨av, cv, rfl⟩ := ownsRow_shape h2
  exact h av cv w' h2 ⟨h3.os, h3.tape, h3.output, h3.size, fun q hq hn => h3.block q hq (fun e => hn e.symm)⟩

set_option maxRecDepth 100000 in
set_option maxHeartbeats 800000 in
theorem l2Put_there_at (a : Option Addr) (c n : Nat) (D : Nat → Int) (P : Nat → List Int) (d : Int) (a2 : Option Addr) (n2 c2 : Nat) (w : World) (h : RdC w a D P n) (hn : n ≤ 1048576) (hP : ∀ i, i < n → 0 < (P i).length ∧ (P i).length ≤ 1048576) (hd : ∃ i, i < n ∧ D i = d) :
    Calls Try.prog 46 #[.slice a n c, .int .i64 d, .slice a2 n2 c2] w fun e w' => ∃ g cv, e = .returned (.tuple #[.slice (some ⟨g, 0, none⟩) n cv, .bool true]) ∧ n ≤ cv ∧ GC w.heap.size w'.heap.size w' (.slice (some ⟨g, 0, none⟩) n cv) D P n ∧ Below w.heap.size w w' := by
  obtain ⟨i, hi, hdi, hf⟩ : ∃ i, i < n ∧ D i = d ∧ ∀ j, j < i → D j ≠ d := by
    clear h hP
    induction n with
    | zero => obtain ⟨i, hi, _⟩ := hd; omega
    | succ n ih =>
      by_cases h : ∃ i, i < n ∧ D i = d
      · obtain ⟨j, h1, h2, h3⟩ := ih (by omega) h
        exact ⟨j, by omega, h2, h3⟩
      · obtain ⟨i, hi, e⟩ := hd
        have hin : i = n := by
          rcases Nat.lt_or_ge i n with h' | h'
          · exact absurd ⟨i, h', e⟩ h
          · omega
        subst hin
        exact ⟨i, by omega, e, fun j hj ej => h ⟨j, hj, ej⟩⟩
  have hi0 : (0 : Int) ≤ (i : Int) := by omega
  have HY := hide (l2At_yes a c n i d D P w h hn hi hdi hf)
  have HC := hide (l2Copy_at a c n D P w h hn hP)
  clear h hP hd hdi hf
  go_enter Try.func46, Try.ntmps46
  go_wp2_with fail
  refine HY.out.mono ?_
  rintro e w1 ⟨rfl, rfl⟩
  go_wp2_with fail
  refine HC.out.mono ?_
  rintro e w2 ⟨g, cv, rfl, hcv, hG, hb⟩
  have HG := hide hG
  have HB := hide hb
  clear hG hb
  go_wp2_with fail
  exact bodyPost_ret (v := .tuple #[.slice (some ⟨g, 0, none⟩) n cv, .bool true]) (by simp [results, Try.results46, go_sem]) rfl ⟨g, cv, rfl, hcv, HG.out, HB.out⟩

theorem l2Put_there (a : Option Addr) (c n : Nat) (D : Nat → Int) (P : Nat → List Int) (d : Int) (a2 : Option Addr) (n2 c2 : Nat) (w : World) (h : RdC w a D P n) (hn : n ≤ 1048576) (hP : ∀ i, i < n → 0 < (P i).length ∧ (P i).length ≤ 1048576) (hd : ∃ i, i < n ∧ D i = d) :
    Calls Try.prog 46 #[.slice a n c, .int .i64 d, .slice a2 n2 c2] w fun e w' => ∃ av cv, e = .returned (.tuple #[.slice av n cv, .bool true]) ∧ GC w.heap.size w'.heap.size w' (.slice av n cv) D P n ∧ Below w.heap.size w w' :=
  (l2Put_there_at a c n D P d a2 n2 c2 w h hn hP hd).mono fun e w' ⟨g, cv, he, _, hG, hb⟩ => ⟨_, cv, he, hG, hb⟩

set_option maxRecDepth 100000 in
set_option maxHeartbeats 800000 in
theorem l2Put_full (a : Option Addr) (c n : Nat) (D : Nat → Int) (P : Nat → List Int) (d : Int) (a2 : Option Addr) (n2 c2 : Nat) (w : World) (h : RdC w a D P n) (hn : n ≤ 1048576) (hd : ∀ i, i < n → D i ≠ d) (hf : 40 ≤ n) :
    Calls Try.prog 46 #[.slice a n c, .int .i64 d, .slice a2 n2 c2] w fun e w' => e = .returned (.tuple #[.slice none 0 0, .bool false]) ∧ Below w.heap.size w w' := by
  have HY := hide (l2At_no a c n d D P w h hn hd)
  have hf' : (40 : Int) ≤ (n : Int) := by omega
  clear h hd
  go_enter Try.func46, Try.ntmps46
  go_wp2_with fail
  refine HY.out.mono ?_
  rintro e w1 ⟨rfl, rfl⟩
  go_wp2_with fail
  exact bodyPost_ret (v := .tuple #[.slice none 0 0, .bool false]) (by simp [results, Try.results46, go_sem]) rfl ⟨rfl, Below.refl _ _⟩

set_option maxRecDepth 100000 in
set_option maxHeartbeats 3200000 in
theorem l2Put_new (b off c n m : Nat) (D : Nat → Int) (P : Nat → List Int) (d : Int) (a2 : Option Addr) (c2 : Nat) (zs : List Int) (w : World) (h : RdC w (some ⟨b, off, none⟩) D P n) (hcap : n ≤ c) (hn : n < 40) (hP : ∀ i, i < n → 0 < (P i).length ∧ (P i).length ≤ 1048576) (h2 : Reads .u8 w a2 zs) (hz : 0 < zs.length ∧ zs.length ≤ 1048576)
    (hd : ∀ i, i < n → D i ≠ d) (hm : m ≤ n) (hlow : ∀ i, i < m → D i < d) (hhigh : m < n → ¬ D m < d) :
    Calls Try.prog 46 #[.slice (some ⟨b, off, none⟩) n c, .int .i64 d, .slice a2 zs.length c2] w fun e w' => ∃ av cv, e = .returned (.tuple #[.slice av (n + 1) cv, .bool true]) ∧ GC w.heap.size w'.heap.size w' (.slice av (n + 1) cv) (ins D m d) (ins P m zs) (n + 1) ∧ Below w.heap.size w w' := by
  obtain ⟨i1, ki, kz0, kz1, kz2⟩ := info_parts Try.infoCh
  have HY := hide (l2At_no (some ⟨b, off, none⟩) c n d D P w h (by omega) hd)
  obtain ⟨A, C, hAC⟩ : ∃ (A : Nat → Option Addr) (C : Nat → Nat), ∀ i, i < n → (w.cell? ⟨b, off + i * 2, none⟩ = some (.int .i64 (D i)) ∧ w.cell? ⟨b, off + i * 2 + 1, none⟩ = some (.slice (A i) (P i).length (C i))) ∧ Reads .u8 w (A i) (P i) ∧ b < w.heap.size := by
    by_cases h0 : 0 < n
    · obtain ⟨b', off', A, C, e, hb, hc⟩ := h h0
      simp only [Option.some.injEq, Addr.mk.injEq, and_true] at e
      obtain ⟨rfl, rfl⟩ := e
      exact ⟨A, C, fun i hi => ⟨⟨(hc i hi).1, (hc i hi).2.1⟩, (hc i hi).2.2, hb⟩⟩
    · exact ⟨fun _ => none, fun _ => 0, fun i hi => absurd hi (by omega)⟩
  have hc40 : ¬ (40 : Int) ≤ (n : Int) := by omega
  have HA := hide hAC
  have HP := hide hP
  have HR := hide h2
  have HL := hide hlow
  have HHi := hide hhigh
  clear h hP h2 hAC hd hlow hhigh
  go_enter Try.func46, Try.ntmps46
  go_wp2_with fail
  refine HY.out.mono ?_
  rintro e w1 ⟨rfl, rfl⟩
  go_wp2
  go_loop [8] (fun q => ∃ k : Nat, k ≤ m ∧ q = .int .i64 k) (fun q => n - (intOf q).toNat)
  case atStart => exact ⟨0, Nat.zero_le _, rfl⟩
  case round =>
    obtain ⟨k, hk, rfl⟩ := hrel
    by_cases hkm : k < m
    · have hkn : (k : Int) < (n : Int) := by omega
      obtain ⟨⟨c1, _⟩, _, _⟩ := HA.out k (by omega)
      have hdk := HL.out k hkm
      generalize D k = dd at c1 hdk
      go_wp2
      go_round
      case rel => exact ⟨k + 1, by omega, by go_num⟩
      case measure => simp [intOf]; omega
    · have hke : k = m := by omega
      subst hke
      have HFl := flat_length (n := k) (k := 2) (F := chCells D P A C) (fun i _ => rfl)
      have HFn := flat_length (n := n) (k := 2) (F := chCells D P A C) (fun i _ => rfl)
      have OWN0 : Hid ((w1.alloc (.cells #[] 53)).ownsRow w1.heap.size 53 2 (.slice (some ⟨w1.heap.size, 0, none⟩) 0 0) 0 []) := World.ownsRow_made w1 #[] 0 (Nat.le_refl _) (Nat.zero_le _) rfl
      have NEWS0 : Hid (∀ j u, (flat k (chCells D P A C))[j]? = some u → (w1.alloc (.cells #[] 53)).cell? ((⟨b, off, none⟩ : Addr).add j) = some u) := rdC_news0 (n := n) (fun i hi => ⟨((below_alloc w1 (.cells #[] 53)).cell (p := ⟨b, off + i * 2, none⟩) (HA.out i hi).2.2).trans (HA.out i hi).1.1, ((below_alloc w1 (.cells #[] 53)).cell (p := ⟨b, off + i * 2 + 1, none⟩) (HA.out i hi).2.2).trans (HA.out i hi).1.2⟩) k hm
      have hm0 : 0 + k ≤ maxLen := by unfold maxLen; omega
      have hm0' : (0 + k) * 32 ≤ 140737488355328 := by omega
      have hkc : (k : Int) ≤ (c : Int) := by omega
      have hkn' : (k : Int) ≤ (n : Int) := by omega
      have hnc' : (n : Int) ≤ (c : Int) := by omega
      by_cases hkn : k < n
      · have hkn2 : (k : Int) < (n : Int) := by omega
        obtain ⟨⟨c1, _⟩, _, _⟩ := HA.out k hkn
        have hdk := HHi.out hkn
        have HDD := hide c1
        generalize D k = dd at c1 hdk
        go_wp2_with (first | (at_builtin; refine wpList_append_N rfl (.tmp 34) (.tmp 37) 41 rfl w1.heap.size 53 i1 (.agg #[.int .i64 0, .slice none 0 0]) 2 32 Try.underlying41 ki kz0 kz1 kz2 rfl (by decide) (.slice (some ⟨w1.heap.size, 0, none⟩) 0 0) 0 [] rfl OWN0.out ⟨b, off, none⟩ k c (flat k (chCells D P A C)) rfl HFl NEWS0.out (flat_one _ _ _ _ _) k (by simp) hm0 hm0' (by simp) ?_; intro av cv w2 hown2 hk2; have O2 := hide hown2; have K2 := hide hk2; clear hown2 hk2) | fail)
        have hckf : ¬ c = k := by omega
        have BB2 := hide ((below_alloc w1 (.cells #[] 53)).trans (K2.out.below (by simp) (fun q hq hS => by simp [Value.ownBlock] at hS; omega)))
        have OWN1 : Hid ((w2.alloc (.cells #[.int .i64 d, .slice a2 zs.length c2] 53)).drew.ownsRow w1.heap.size 53 2 (.slice av k cv) k ([] ++ flat k (chCells D P A C))) := ownsRow_below O2.out (below_alloc _ _).drew
        have NEWS1 : Hid (∀ j u, [Value.int .i64 d, .slice a2 zs.length c2][j]? = some u → (w2.alloc (.cells #[.int .i64 d, .slice a2 zs.length c2] 53)).drew.cell? ((⟨w2.heap.size, 0, none⟩ : Addr).add j) = some u) := news_two (t := 53) rfl
        have NEWS2 : Hid (∀ w3 : World, Below w1.heap.size w1 w3 → ∀ j u, ((flat n (chCells D P A C)).drop (k * 2))[j]? = some u → w3.cell? ((⟨b, off + k * 2, none⟩ : Addr).add j) = some u) := fun w3 hb3 => rdC_news (n := n) (fun i hi => ⟨(hb3.cell (p := ⟨b, off + i * 2, none⟩) (HA.out i hi).2.2).trans (HA.out i hi).1.1, (hb3.cell (p := ⟨b, off + i * 2 + 1, none⟩) (HA.out i hi).2.2).trans (HA.out i hi).1.2⟩) k
        have hs2 := BB2.out.size
        have hnl : ((flat n (chCells D P A C)).drop (k * 2)).length = (n - k) * 2 := by rw [List.length_drop, HFn]; omega
        have hk1' : k + 1 + (n - k) = n + 1 := by omega
        have hm1 : k + 1 ≤ maxLen := by unfold maxLen; omega
        have hm1' : (k + 1) * 32 ≤ 140737488355328 := by omega
        have hm2 : k + 1 + (n - k) ≤ maxLen := by unfold maxLen; omega
        have hm2' : (k + 1 + (n - k)) * 32 ≤ 140737488355328 := by omega
        have hk0 : (0 : Int) ≤ (k : Int) := by omega
        have HON := hide (fun u (hu : u ∈ (flat n (chCells D P A C)).drop (k * 2)) => flat_one n D P A C u (List.mem_of_mem_drop hu))
        go_region_held3 (fun _ => True) (trivial)
          ((first
            | (refine step_append_own (by rfl) (.tmp 39) (.tmp 43) 41 (by rfl) w1.heap.size 53 i1 (.agg #[.int .i64 0, .slice none 0 0]) 2 32 Try.underlying41 ki kz0 kz1 kz2 rfl (by decide) (.slice av k cv) k ([] ++ flat k (chCells D P A C)) (by rfl) OWN1.out ⟨w2.heap.size, 0, none⟩ 1 1 [.int .i64 d, .slice a2 zs.length c2] (by rfl) (by rfl) NEWS1.out (by intro u hu; simp at hu; rcases hu with rfl | rfl <;> rfl) (k + 1) rfl hm1 hm1' (by simp; omega) ?_; intro av2 cv2 w3 hown3 hk3; have O3 := hide hown3; have BB3 := hide (BB2.out.trans ((((Kept.refl (fun x => (Value.slice av k cv).ownBlock = some x) w2).alloc _).drew.trans hk3).below hs2 (fun q hq hS => by have := (O2.out.lt q hS).1; omega))); clear hown3 hk3)
            | (refine step_append_own (by rfl) (.tmp 44) (.tmp 47) 41 (by rfl) w1.heap.size 53 i1 (.agg #[.int .i64 0, .slice none 0 0]) 2 32 Try.underlying41 ki kz0 kz1 kz2 rfl (by decide) (.slice av2 (k + 1) cv2) (k + 1) (([] ++ flat k (chCells D P A C)) ++ [.int .i64 d, .slice a2 zs.length c2]) (by rfl) O3.out ⟨b, off + k * 2, none⟩ (n - k) (c - k) ((flat n (chCells D P A C)).drop (k * 2)) (by rfl) hnl (NEWS2.out w3 BB3.out) HON.out (n + 1) hk1' hm2 hm2' BB3.out.size ?_; intro av3 cv3 w4 hown4 hk4; have O4 := hide hown4; have BB4 := hide (BB3.out.trans (hk4.below BB3.out.size (fun q hq hS => by have := (O3.out.lt q hS).1; omega))); clear hown4 hk4)))
        have O5 : Hid (w4.ownsRow w1.heap.size 53 2 (.slice av3 (n + 1) cv3) (n + 1) (flat (n + 1) (chCells (ins D k d) (ins P k zs) (ins A k a2) (ins C k c2)))) := by rw [ins_flat D P A C hm d zs a2 c2]; exact O4.out
        have RD5 : Hid (RdC w4 av3 (ins D k d) (ins P k zs) (n + 1)) := RdC.of_rows O5.out (fun i hi => by
          by_cases e1 : i < k
          · simp only [ins, if_pos e1]; exact (HA.out i (by omega)).2.1.below BB4.out
          · by_cases e2 : i = k
            · simp only [ins, if_neg e1, if_pos e2]; exact HR.out.below BB4.out
            · simp only [ins, if_neg e1, if_neg e2]; exact (HA.out (i - 1) (by omega)).2.1.below BB4.out)
        have HP5 : Hid (∀ i, i < n + 1 → 0 < (ins P k zs i).length ∧ (ins P k zs i).length ≤ 1048576) := fun i hi => by
          by_cases e1 : i < k
          · simp only [ins, if_pos e1]; exact HP.out i (by omega)
          · by_cases e2 : i = k
            · simp only [ins, if_neg e1, if_pos e2]; exact hz
            · simp only [ins, if_neg e1, if_neg e2]; exact HP.out (i - 1) (by omega)
        clear O5 O4 O3 BB3 BB2 OWN1 NEWS1 NEWS2
        go_wp2_with fail
        refine (l2Copy_any av3 cv3 (n + 1) _ _ w4 RD5.out (by omega) HP5.out).mono ?_
        rintro e w5 ⟨av5, cv5, rfl, hG, hb⟩
        have HG := hide (hG.mono BB4.out.size)
        have HB := hide (below_next BB4.out hb)
        clear hG hb
        go_wp2_with fail
        exact bodyPost_ret (v := .tuple #[.slice av5 (n + 1) cv5, .bool true]) (by simp [results, Try.results46, go_sem]) rfl ⟨av5, cv5, rfl, HG.out, HB.out⟩
      · have hkn2 : ¬ (k : Int) < (n : Int) := by omega
        by_cases hck : c = k
        · obtain rfl : k = c := hck.symm
          go_wp2_with (first | (at_builtin; refine wpList_append_N rfl (.tmp 34) (.tmp 37) 41 rfl w1.heap.size 53 i1 (.agg #[.int .i64 0, .slice none 0 0]) 2 32 Try.underlying41 ki kz0 kz1 kz2 rfl (by decide) (.slice (some ⟨w1.heap.size, 0, none⟩) 0 0) 0 [] rfl OWN0.out ⟨b, off, none⟩ k k (flat k (chCells D P A C)) rfl HFl NEWS0.out (flat_one _ _ _ _ _) k (by simp) hm0 hm0' (by simp) ?_; intro av cv w2 hown2 hk2; have O2 := hide hown2; have K2 := hide hk2; clear hown2 hk2) | fail)
          have BB2 := hide ((below_alloc w1 (.cells #[] 53)).trans (K2.out.below (by simp) (fun q hq hS => by simp [Value.ownBlock] at hS; omega)))
          have OWN1 : Hid ((w2.alloc (.cells #[.int .i64 d, .slice a2 zs.length c2] 53)).drew.ownsRow w1.heap.size 53 2 (.slice av k cv) k ([] ++ flat k (chCells D P A C))) := ownsRow_below O2.out (below_alloc _ _).drew
          have NEWS1 : Hid (∀ j u, [Value.int .i64 d, .slice a2 zs.length c2][j]? = some u → (w2.alloc (.cells #[.int .i64 d, .slice a2 zs.length c2] 53)).drew.cell? ((⟨w2.heap.size, 0, none⟩ : Addr).add j) = some u) := news_two (t := 53) rfl
          have NEWS2 : Hid (∀ w3 : World, Below w1.heap.size w1 w3 → ∀ j u, ((flat n (chCells D P A C)).drop (k * 2))[j]? = some u → w3.cell? ((⟨b, off, none⟩ : Addr).add j) = some u) := fun w3 hb3 => fun j u hj => by rw [List.drop_eq_nil_of_le (by rw [HFn]; omega)] at hj; simp at hj
          have hs2 := BB2.out.size
          have hnl : ((flat n (chCells D P A C)).drop (k * 2)).length = 0 * 2 := by rw [List.length_drop, HFn]; omega
          have hk1' : k + 1 + 0 = n + 1 := by omega
          have hm1 : k + 1 ≤ maxLen := by unfold maxLen; omega
          have hm1' : (k + 1) * 32 ≤ 140737488355328 := by omega
          have hm2 : k + 1 + 0 ≤ maxLen := by unfold maxLen; omega
          have hm2' : (k + 1 + 0) * 32 ≤ 140737488355328 := by omega
          have hk0 : (0 : Int) ≤ (k : Int) := by omega
          have HON := hide (fun u (hu : u ∈ (flat n (chCells D P A C)).drop (k * 2)) => flat_one n D P A C u (List.mem_of_mem_drop hu))
          go_region_held3 (fun _ => True) (trivial)
            ((first
              | (refine step_append_own (by rfl) (.tmp 39) (.tmp 43) 41 (by rfl) w1.heap.size 53 i1 (.agg #[.int .i64 0, .slice none 0 0]) 2 32 Try.underlying41 ki kz0 kz1 kz2 rfl (by decide) (.slice av k cv) k ([] ++ flat k (chCells D P A C)) (by rfl) OWN1.out ⟨w2.heap.size, 0, none⟩ 1 1 [.int .i64 d, .slice a2 zs.length c2] (by rfl) (by rfl) NEWS1.out (by intro u hu; simp at hu; rcases hu with rfl | rfl <;> rfl) (k + 1) rfl hm1 hm1' (by simp; omega) ?_; intro av2 cv2 w3 hown3 hk3; have O3 := hide hown3; have BB3 := hide (BB2.out.trans ((((Kept.refl (fun x => (Value.slice av k cv).ownBlock = some x) w2).alloc _).drew.trans hk3).below hs2 (fun q hq hS => by have := (O2.out.lt q hS).1; omega))); clear hown3 hk3)
              | (refine step_append_own (by rfl) (.tmp 44) (.tmp 47) 41 (by rfl) w1.heap.size 53 i1 (.agg #[.int .i64 0, .slice none 0 0]) 2 32 Try.underlying41 ki kz0 kz1 kz2 rfl (by decide) (.slice av2 (k + 1) cv2) (k + 1) (([] ++ flat k (chCells D P A C)) ++ [.int .i64 d, .slice a2 zs.length c2]) (by rfl) O3.out ⟨b, off, none⟩ 0 0 ((flat n (chCells D P A C)).drop (k * 2)) (by rfl) hnl (NEWS2.out w3 BB3.out) HON.out (n + 1) hk1' hm2 hm2' BB3.out.size ?_; intro av3 cv3 w4 hown4 hk4; have O4 := hide hown4; have BB4 := hide (BB3.out.trans (hk4.below BB3.out.size (fun q hq hS => by have := (O3.out.lt q hS).1; omega))); clear hown4 hk4)))
          have O5 : Hid (w4.ownsRow w1.heap.size 53 2 (.slice av3 (n + 1) cv3) (n + 1) (flat (n + 1) (chCells (ins D k d) (ins P k zs) (ins A k a2) (ins C k c2)))) := by rw [ins_flat D P A C hm d zs a2 c2]; exact O4.out
          have RD5 : Hid (RdC w4 av3 (ins D k d) (ins P k zs) (n + 1)) := RdC.of_rows O5.out (fun i hi => by
            by_cases e1 : i < k
            · simp only [ins, if_pos e1]; exact (HA.out i (by omega)).2.1.below BB4.out
            · by_cases e2 : i = k
              · simp only [ins, if_neg e1, if_pos e2]; exact HR.out.below BB4.out
              · simp only [ins, if_neg e1, if_neg e2]; exact (HA.out (i - 1) (by omega)).2.1.below BB4.out)
          have HP5 : Hid (∀ i, i < n + 1 → 0 < (ins P k zs i).length ∧ (ins P k zs i).length ≤ 1048576) := fun i hi => by
            by_cases e1 : i < k
            · simp only [ins, if_pos e1]; exact HP.out i (by omega)
            · by_cases e2 : i = k
              · simp only [ins, if_neg e1, if_pos e2]; exact hz
              · simp only [ins, if_neg e1, if_neg e2]; exact HP.out (i - 1) (by omega)
          clear O5 O4 O3 BB3 BB2 OWN1 NEWS1 NEWS2
          go_wp2_with fail
          refine (l2Copy_any av3 cv3 (n + 1) _ _ w4 RD5.out (by omega) HP5.out).mono ?_
          rintro e w5 ⟨av5, cv5, rfl, hG, hb⟩
          have HG := hide (hG.mono BB4.out.size)
          have HB := hide (below_next BB4.out hb)
          clear hG hb
          go_wp2_with fail
          exact bodyPost_ret (v := .tuple #[.slice av5 (n + 1) cv5, .bool true]) (by simp [results, Try.results46, go_sem]) rfl ⟨av5, cv5, rfl, HG.out, HB.out⟩
        · have hckf : ¬ c = k := hck
          go_wp2_with (first | (at_builtin; refine wpList_append_N rfl (.tmp 34) (.tmp 37) 41 rfl w1.heap.size 53 i1 (.agg #[.int .i64 0, .slice none 0 0]) 2 32 Try.underlying41 ki kz0 kz1 kz2 rfl (by decide) (.slice (some ⟨w1.heap.size, 0, none⟩) 0 0) 0 [] rfl OWN0.out ⟨b, off, none⟩ k c (flat k (chCells D P A C)) rfl HFl NEWS0.out (flat_one _ _ _ _ _) k (by simp) hm0 hm0' (by simp) ?_; intro av cv w2 hown2 hk2; have O2 := hide hown2; have K2 := hide hk2; clear hown2 hk2) | fail)
          have BB2 := hide ((below_alloc w1 (.cells #[] 53)).trans (K2.out.below (by simp) (fun q hq hS => by simp [Value.ownBlock] at hS; omega)))
          have OWN1 : Hid ((w2.alloc (.cells #[.int .i64 d, .slice a2 zs.length c2] 53)).drew.ownsRow w1.heap.size 53 2 (.slice av k cv) k ([] ++ flat k (chCells D P A C))) := ownsRow_below O2.out (below_alloc _ _).drew
          have NEWS1 : Hid (∀ j u, [Value.int .i64 d, .slice a2 zs.length c2][j]? = some u → (w2.alloc (.cells #[.int .i64 d, .slice a2 zs.length c2] 53)).drew.cell? ((⟨w2.heap.size, 0, none⟩ : Addr).add j) = some u) := news_two (t := 53) rfl
          have NEWS2 : Hid (∀ w3 : World, Below w1.heap.size w1 w3 → ∀ j u, ((flat n (chCells D P A C)).drop (k * 2))[j]? = some u → w3.cell? ((⟨b, off + k * 2, none⟩ : Addr).add j) = some u) := fun w3 hb3 => rdC_news (n := n) (fun i hi => ⟨(hb3.cell (p := ⟨b, off + i * 2, none⟩) (HA.out i hi).2.2).trans (HA.out i hi).1.1, (hb3.cell (p := ⟨b, off + i * 2 + 1, none⟩) (HA.out i hi).2.2).trans (HA.out i hi).1.2⟩) k
          have hs2 := BB2.out.size
          have hnl : ((flat n (chCells D P A C)).drop (k * 2)).length = (n - k) * 2 := by rw [List.length_drop, HFn]; omega
          have hk1' : k + 1 + (n - k) = n + 1 := by omega
          have hm1 : k + 1 ≤ maxLen := by unfold maxLen; omega
          have hm1' : (k + 1) * 32 ≤ 140737488355328 := by omega
          have hm2 : k + 1 + (n - k) ≤ maxLen := by unfold maxLen; omega
          have hm2' : (k + 1 + (n - k)) * 32 ≤ 140737488355328 := by omega
          have hk0 : (0 : Int) ≤ (k : Int) := by omega
          have HON := hide (fun u (hu : u ∈ (flat n (chCells D P A C)).drop (k * 2)) => flat_one n D P A C u (List.mem_of_mem_drop hu))
          go_region_held3 (fun _ => True) (trivial)
            ((first
              | (refine step_append_own (by rfl) (.tmp 39) (.tmp 43) 41 (by rfl) w1.heap.size 53 i1 (.agg #[.int .i64 0, .slice none 0 0]) 2 32 Try.underlying41 ki kz0 kz1 kz2 rfl (by decide) (.slice av k cv) k ([] ++ flat k (chCells D P A C)) (by rfl) OWN1.out ⟨w2.heap.size, 0, none⟩ 1 1 [.int .i64 d, .slice a2 zs.length c2] (by rfl) (by rfl) NEWS1.out (by intro u hu; simp at hu; rcases hu with rfl | rfl <;> rfl) (k + 1) rfl hm1 hm1' (by simp; omega) ?_; intro av2 cv2 w3 hown3 hk3; have O3 := hide hown3; have BB3 := hide (BB2.out.trans ((((Kept.refl (fun x => (Value.slice av k cv).ownBlock = some x) w2).alloc _).drew.trans hk3).below hs2 (fun q hq hS => by have := (O2.out.lt q hS).1; omega))); clear hown3 hk3)
              | (refine step_append_own (by rfl) (.tmp 44) (.tmp 47) 41 (by rfl) w1.heap.size 53 i1 (.agg #[.int .i64 0, .slice none 0 0]) 2 32 Try.underlying41 ki kz0 kz1 kz2 rfl (by decide) (.slice av2 (k + 1) cv2) (k + 1) (([] ++ flat k (chCells D P A C)) ++ [.int .i64 d, .slice a2 zs.length c2]) (by rfl) O3.out ⟨b, off + k * 2, none⟩ (n - k) (c - k) ((flat n (chCells D P A C)).drop (k * 2)) (by rfl) hnl (NEWS2.out w3 BB3.out) HON.out (n + 1) hk1' hm2 hm2' BB3.out.size ?_; intro av3 cv3 w4 hown4 hk4; have O4 := hide hown4; have BB4 := hide (BB3.out.trans (hk4.below BB3.out.size (fun q hq hS => by have := (O3.out.lt q hS).1; omega))); clear hown4 hk4)))
          have O5 : Hid (w4.ownsRow w1.heap.size 53 2 (.slice av3 (n + 1) cv3) (n + 1) (flat (n + 1) (chCells (ins D k d) (ins P k zs) (ins A k a2) (ins C k c2)))) := by rw [ins_flat D P A C hm d zs a2 c2]; exact O4.out
          have RD5 : Hid (RdC w4 av3 (ins D k d) (ins P k zs) (n + 1)) := RdC.of_rows O5.out (fun i hi => by
            by_cases e1 : i < k
            · simp only [ins, if_pos e1]; exact (HA.out i (by omega)).2.1.below BB4.out
            · by_cases e2 : i = k
              · simp only [ins, if_neg e1, if_pos e2]; exact HR.out.below BB4.out
              · simp only [ins, if_neg e1, if_neg e2]; exact (HA.out (i - 1) (by omega)).2.1.below BB4.out)
          have HP5 : Hid (∀ i, i < n + 1 → 0 < (ins P k zs i).length ∧ (ins P k zs i).length ≤ 1048576) := fun i hi => by
            by_cases e1 : i < k
            · simp only [ins, if_pos e1]; exact HP.out i (by omega)
            · by_cases e2 : i = k
              · simp only [ins, if_neg e1, if_pos e2]; exact hz
              · simp only [ins, if_neg e1, if_neg e2]; exact HP.out (i - 1) (by omega)
          clear O5 O4 O3 BB3 BB2 OWN1 NEWS1 NEWS2
          go_wp2_with fail
          refine (l2Copy_any av3 cv3 (n + 1) _ _ w4 RD5.out (by omega) HP5.out).mono ?_
          rintro e w5 ⟨av5, cv5, rfl, hG, hb⟩
          have HG := hide (hG.mono BB4.out.size)
          have HB := hide (below_next BB4.out hb)
          clear hG hb
          go_wp2_with fail
          exact bodyPost_ret (v := .tuple #[.slice av5 (n + 1) cv5, .bool true]) (by simp [results, Try.results46, go_sem]) rfl ⟨av5, cv5, rfl, HG.out, HB.out⟩

end Go.Proofs.Ytdebojhginiihaa
