/-
  Texts put together: Put PutC Many.
-/
import Derived.Test.YtejipahfodhmjaaGreatKLater12
import Derived.Test.YtejipahfodhmjaaGreatKLater4
namespace Go.Proofs.YtejipahfodhmjaaGreat
open Go.RowKit Go.Maps
set_option linter.unusedVariables false
attribute [local go_sem ↓] Go.wp_at_zero Go.wp_at_succ

def ins {α : Type} (f : Nat → α) (m : Nat) (x : α) : Nat → α := fun i => if i < m then f i else if i = m then x else f (i - 1)
theorem ins_flat (D : Nat → Int) (P : Nat → List Int) (A : Nat → Option Addr) (C : Nat → Nat) {n m : Nat} (hm : m ≤ n) (d : Int) (zs : List Int) (da : Option Addr) (dc : Nat) :
    flat (n + 1) (chCells (ins D m d) (ins P m zs) (ins A m da) (ins C m dc)) = (flat m (chCells D P A C) ++ [.int .i64 d, .slice da zs.length dc]) ++ (flat n (chCells D P A C)).drop (m * 2) := by
  have l1 := flat_length (n := m) (k := 2) (F := chCells D P A C) (fun i _ => rfl)
  have l2 := flat_length (n := n) (k := 2) (F := chCells D P A C) (fun i _ => rfl)
  have l3 := flat_length (n := n + 1) (k := 2) (F := chCells (ins D m d) (ins P m zs) (ins A m da) (ins C m dc)) (fun i _ => rfl)
  apply List.ext_getElem?
  intro p
  by_cases hp : p < (n + 1) * 2
  · have e : p = p / 2 * 2 + p % 2 := by omega
    have h1 : p / 2 < n + 1 := by omega
    have h2 : p % 2 < 2 := by omega
    generalize p / 2 = q at e h1
    generalize p % 2 = r at e h2
    subst e
    rw [flat_get (k := 2) (fun i _ => rfl) q r h1 h2]
    by_cases h3 : q < m
    · rw [List.getElem?_append_left (by simp [l1]; omega), List.getElem?_append_left (by rw [l1]; omega), flat_get (k := 2) (fun i _ => rfl) q r h3 h2]
      simp [chCells, ins, h3]
    · by_cases h4 : q = m
      · subst h4
        rw [List.getElem?_append_left (by simp [l1]; omega), List.getElem?_append_right (by rw [l1]; omega), l1]
        have : q * 2 + r - q * 2 = r := by omega
        rw [this]
        simp [chCells, ins]
      · rw [List.getElem?_append_right (by simp [l1]; omega), List.getElem?_drop]
        have : m * 2 + (q * 2 + r - (flat m (chCells D P A C) ++ [Value.int .i64 d, .slice da zs.length dc]).length) = (q - 1) * 2 + r := by simp [l1]; omega
        rw [this, flat_get (k := 2) (fun i _ => rfl) (q - 1) r (by omega) h2]
        simp [chCells, ins, h3, h4]
  · rw [List.getElem?_eq_none (by omega), List.getElem?_eq_none (by simp [l1, l2]; omega)]

theorem RdC.of_rows {w : World} {B : Nat} {a : Option Addr} {c n : Nat} {D : Nat → Int} {P : Nat → List Int} {A : Nat → Option Addr} {C : Nat → Nat} (h1 : w.ownsRow B 108 2 (.slice a n c) n (flat n (chCells D P A C))) (h2 : ∀ i, i < n → Reads .u8 w (A i) (P i)) : RdC w a D P n := by
  intro hn
  rcases h1.2 with ⟨_, h0⟩ | ⟨g, cap, cur, h', hb, hh, hnc, hcm, hcs, htake⟩
  · omega
  · simp only [Value.slice.injEq, true_and] at h'
    obtain ⟨rfl, rfl⟩ := h'
    have hf := fun i r hi hr => flat_get (n := n) (k := 2) (F := chCells D P A C) (fun i _ => rfl) i r hi hr
    refine ⟨g, 0, A, C, rfl, (h1.lt g rfl).2, fun i hi => ⟨?_, ?_, h2 i hi⟩⟩
    · rw [Nat.zero_add, h1.cellAt (i * 2) (by omega)]
      have := hf i 0 hi (by decide)
      rw [Nat.add_zero] at this
      rw [this]; rfl
    · rw [Nat.zero_add, h1.cellAt (i * 2 + 1) (by omega), hf i 1 hi (by decide)]; rfl

theorem rdC_news {w : World} {b off n : Nat} {D : Nat → Int} {P : Nat → List Int} {A : Nat → Option Addr} {C : Nat → Nat} (hc : ∀ i, i < n → w.cell? ⟨b, off + i * 2, none⟩ = some (.int .i64 (D i)) ∧ w.cell? ⟨b, off + i * 2 + 1, none⟩ = some (.slice (A i) (P i).length (C i))) (m : Nat) :
    ∀ j u, ((flat n (chCells D P A C)).drop (m * 2))[j]? = some u → w.cell? ((⟨b, off + m * 2, none⟩ : Addr).add j) = some u := by
  intro j u hj
  have hl := flat_length (n := n) (k := 2) (F := chCells D P A C) (fun i _ => rfl)
  rw [List.getElem?_drop] at hj
  have hp : m * 2 + j < n * 2 := by
    rcases Nat.lt_or_ge (m * 2 + j) (n * 2) with h | h
    · exact h
    · rw [List.getElem?_eq_none (by omega)] at hj; cases hj
  have ea : (⟨b, off + m * 2, none⟩ : Addr).add j = ⟨b, off + m * 2 + j, none⟩ := by unfold Addr.add; split <;> simp_all
  rw [ea]
  have e : m * 2 + j = (m * 2 + j) / 2 * 2 + (m * 2 + j) % 2 := by omega
  have h1 : (m * 2 + j) / 2 < n := by omega
  have h2 : (m * 2 + j) % 2 = 0 ∨ (m * 2 + j) % 2 = 1 := by omega
  have ea2 : off + m * 2 + j = off + (m * 2 + j) := by omega
  rw [ea2]
  generalize (m * 2 + j) / 2 = q at e h1
  rcases h2 with h2 | h2
  · rw [h2] at e
    rw [e] at hj ⊢
    rw [flat_get (k := 2) (fun i _ => rfl) q 0 h1 (by decide)] at hj
    have := (hc q h1).1
    simp only [Nat.add_zero] at this ⊢
    rw [this]; exact hj
  · rw [h2] at e
    rw [e] at hj ⊢
    rw [flat_get (k := 2) (fun i _ => rfl) q 1 h1 (by decide)] at hj
    have := (hc q h1).2
    rw [← Nat.add_assoc, this]; exact hj
theorem rdC_news0 {w : World} {b off n : Nat} {D : Nat → Int} {P : Nat → List Int} {A : Nat → Option Addr} {C : Nat → Nat} (hc : ∀ i, i < n → w.cell? ⟨b, off + i * 2, none⟩ = some (.int .i64 (D i)) ∧ w.cell? ⟨b, off + i * 2 + 1, none⟩ = some (.slice (A i) (P i).length (C i))) (m : Nat) (hm : m ≤ n) :
    ∀ j u, (flat m (chCells D P A C))[j]? = some u → w.cell? ((⟨b, off, none⟩ : Addr).add j) = some u := by
  intro j u hj
  have := rdC_news (n := m) (fun i hi => hc i (by omega)) 0 j u (by simpa using hj)
  simpa using this
theorem flat_one (n : Nat) (D : Nat → Int) (P : Nat → List Int) (A : Nat → Option Addr) (C : Nat → Nat) : ∀ u ∈ flat n (chCells D P A C), u.oneCell' = true := by
  intro u hu
  unfold flat at hu
  obtain ⟨i, _, hi⟩ := List.mem_flatMap.1 hu
  simp [chCells] at hi
  rcases hi with rfl | rfl <;> rfl

theorem wpList_append_N {P : Program} {w : World} {ops : Array Oper} {rest : List Oper} {o : Oper} {a : Act} {Q : Exit → Act → World → Prop} (hgd : o.guard = none) (s x : Operand) (t : TypeId)
    (ho : o.op = .call { callee := .builtin .append, args := #[s, x], argTypes := #[t, t] })
    (base : Nat) (e : TypeId) (i : TypeInfo) (z : Value) (size bytes : Nat) (ht : P.underlying t = some (.slice e)) (hi : P.info? e = some i) (hz : i.zero = some z)
    (hsize : i.size = size) (hby : i.bytes = bytes) (hzs : z.cells.size = size) (hsz : 0 < size)
    (v : Value) (n : Nat) (xs : List Value) (hs : a.eval s = v) (hown : w.ownsRow base e size v n xs)
    (ad : Addr) (m c : Nat) (news : List Value) (hx : a.eval x = .slice (some ad) m c) (hl : news.length = m * size) (hnews : ∀ j u, news[j]? = some u → w.cell? (ad.add j) = some u) (h1 : ∀ u ∈ news, u.oneCell' = true)
    (N : Nat) (hN : n + m = N) (h63 : n + m ≤ maxLen) (hbytes : (n + m) * bytes ≤ 140737488355328) (hbase : base ≤ w.heap.size)
    (h : ∀ av cv w', w'.ownsRow base e size (.slice av N cv) N (xs ++ news) → Kept (fun b => v.ownBlock = some b) w w' → wpList P ops Q rest (a.put o.dst (.slice av N cv)) w') :
    wpList P ops Q (o :: rest) a w := by
  refine wpList_append_own w hgd s x t ho base e i z size bytes ht hi hz hsize hby hzs hsz v n xs hs hown ad m c news hx hl hnews h1 h63 hbytes hbase fun v' w' h2 h3 _ => ?_
  rw [hN] at h2
  obtain ⟨av, cv, rfl⟩ := ownsRow_shape h2
  exact h av cv w' h2 ⟨h3.os, h3.tape, h3.output, h3.size, fun q hq hn => h3.block q hq (fun e => hn e.symm)⟩

set_option maxRecDepth 100000 in
set_option maxHeartbeats 800000 in
theorem l2Put_there_at (a : Option Addr) (c n : Nat) (D : Nat → Int) (P : Nat → List Int) (d : Int) (a2 : Option Addr) (n2 c2 : Nat) (w : World) (h : RdC w a D P n) (hn : n ≤ 1048576) (hP : ∀ i, i < n → 0 < (P i).length ∧ (P i).length ≤ 1048576) (hd : ∃ i, i < n ∧ D i = d) :
    Calls Tryz.prog 121 #[.slice a n c, .int .i64 d, .slice a2 n2 c2] w fun e w' => ∃ g cv, e = .returned (.tuple #[.slice (some ⟨g, 0, none⟩) n cv, .bool true]) ∧ n ≤ cv ∧ GC w.heap.size w'.heap.size w' (.slice (some ⟨g, 0, none⟩) n cv) D P n ∧ Below w.heap.size w w' := by
  obtain ⟨i, hi, hdi, hf⟩ : ∃ i, i < n ∧ D i = d ∧ ∀ j, j < i → D j ≠ d := by
    clear h hP
    induction n with
    | zero => obtain ⟨i, hi, _⟩ := hd; omega
    | succ n ih =>
      by_cases h : ∃ i, i < n ∧ D i = d
      · obtain ⟨j, h1, h2, h3⟩ := ih (by omega) h
        exact ⟨j, by omega, h2, h3⟩
      · obtain ⟨i, hi, e⟩ := hd
        have hin : i = n := by
          rcases Nat.lt_or_ge i n with h' | h'
          · exact absurd ⟨i, h', e⟩ h
          · omega
        subst hin
        exact ⟨i, by omega, e, fun j hj ej => h ⟨j, hj, ej⟩⟩
  have hi0 : (0 : Int) ≤ (i : Int) := by omega
  have HY := hide (l2At_yes a c n i d D P w h hn hi hdi hf)
  have HC := hide (l2Copy_at a c n D P w h hn hP)
  clear h hP hd hdi hf
  go_enter Tryz.func121, Tryz.ntmps121
  go_wp2_with fail
  refine HY.out.mono ?_
  rintro e w1 ⟨rfl, rfl⟩
  go_wp2_with fail
  refine HC.out.mono ?_
  rintro e w2 ⟨g, cv, rfl, hcv, hG, hb⟩
  have HG := hide hG
  have HB := hide hb
  clear hG hb
  go_wp2_with fail
  exact bodyPost_ret (v := .tuple #[.slice (some ⟨g, 0, none⟩) n cv, .bool true]) (by simp [results, Tryz.results121, go_sem]) rfl ⟨g, cv, rfl, hcv, HG.out, HB.out⟩

set_option maxRecDepth 100000 in
set_option maxHeartbeats 800000 in
theorem l2Put_full (a : Option Addr) (c n : Nat) (D : Nat → Int) (P : Nat → List Int) (d : Int) (a2 : Option Addr) (n2 c2 : Nat) (w : World) (h : RdC w a D P n) (hn : n ≤ 1048576) (hd : ∀ i, i < n → D i ≠ d) (hf : 40 ≤ n) :
    Calls Tryz.prog 121 #[.slice a n c, .int .i64 d, .slice a2 n2 c2] w fun e w' => e = .returned (.tuple #[.slice none 0 0, .bool false]) ∧ Below w.heap.size w w' := by
  have HY := hide (l2At_no a c n d D P w h hn hd)
  have hf' : (40 : Int) ≤ (n : Int) := by omega
  clear h hd
  go_enter Tryz.func121, Tryz.ntmps121
  go_wp2_with fail
  refine HY.out.mono ?_
  rintro e w1 ⟨rfl, rfl⟩
  go_wp2_with fail
  exact bodyPost_ret (v := .tuple #[.slice none 0 0, .bool false]) (by simp [results, Tryz.results121, go_sem]) rfl ⟨rfl, Below.refl _ _⟩

set_option maxRecDepth 100000 in
set_option maxHeartbeats 3200000 in
theorem l2Put_new (b off c n m : Nat) (D : Nat → Int) (P : Nat → List Int) (d : Int) (a2 : Option Addr) (c2 : Nat) (zs : List Int) (w : World) (h : RdC w (some ⟨b, off, none⟩) D P n) (hcap : n ≤ c) (hn : n < 40) (hP : ∀ i, i < n → 0 < (P i).length ∧ (P i).length ≤ 1048576) (h2 : Reads .u8 w a2 zs) (hz : 0 < zs.length ∧ zs.length ≤ 1048576)
    (hd : ∀ i, i < n → D i ≠ d) (hm : m ≤ n) (hlow : ∀ i, i < m → D i < d) (hhigh : m < n → ¬ D m < d) :
    Calls Tryz.prog 121 #[.slice (some ⟨b, off, none⟩) n c, .int .i64 d, .slice a2 zs.length c2] w fun e w' => ∃ av cv, e = .returned (.tuple #[.slice av (n + 1) cv, .bool true]) ∧ GC w.heap.size w'.heap.size w' (.slice av (n + 1) cv) (ins D m d) (ins P m zs) (n + 1) ∧ Below w.heap.size w w' := by
  obtain ⟨i1, ki, kz0, kz1, kz2⟩ := info_parts Tryz.infoCh
  have HY := hide (l2At_no (some ⟨b, off, none⟩) c n d D P w h (by omega) hd)
  obtain ⟨A, C, hAC⟩ : ∃ (A : Nat → Option Addr) (C : Nat → Nat), ∀ i, i < n → (w.cell? ⟨b, off + i * 2, none⟩ = some (.int .i64 (D i)) ∧ w.cell? ⟨b, off + i * 2 + 1, none⟩ = some (.slice (A i) (P i).length (C i))) ∧ Reads .u8 w (A i) (P i) ∧ b < w.heap.size := by
    by_cases h0 : 0 < n
    · obtain ⟨b', off', A, C, e, hb, hc⟩ := h h0
      simp only [Option.some.injEq, Addr.mk.injEq, and_true] at e
      obtain ⟨rfl, rfl⟩ := e
      exact ⟨A, C, fun i hi => ⟨⟨(hc i hi).1, (hc i hi).2.1⟩, (hc i hi).2.2, hb⟩⟩
    · exact ⟨fun _ => none, fun _ => 0, fun i hi => absurd hi (by omega)⟩
  have hc40 : ¬ (40 : Int) ≤ (n : Int) := by omega
  have HA := hide hAC
  have HP := hide hP
  have HR := hide h2
  have HL := hide hlow
  have HHi := hide hhigh
  clear h hP h2 hAC hd hlow hhigh
  go_enter Tryz.func121, Tryz.ntmps121
  go_wp2_with fail
  refine HY.out.mono ?_
  rintro e w1 ⟨rfl, rfl⟩
  go_wp2
  go_loop [8] (fun q => ∃ k : Nat, k ≤ m ∧ q = .int .i64 k) (fun q => n - (intOf q).toNat)
  case atStart => exact ⟨0, Nat.zero_le _, rfl⟩
  case round =>
    obtain ⟨k, hk, rfl⟩ := hrel
    by_cases hkm : k < m
    · have hkn : (k : Int) < (n : Int) := by omega
      obtain ⟨⟨c1, _⟩, _, _⟩ := HA.out k (by omega)
      have hdk := HL.out k hkm
      generalize D k = dd at c1 hdk
      go_wp2
      go_round
      case rel => exact ⟨k + 1, by omega, by go_num⟩
      case measure => simp [intOf]; omega
    · have hke : k = m := by omega
      subst hke
      have HFl := flat_length (n := k) (k := 2) (F := chCells D P A C) (fun i _ => rfl)
      have HFn := flat_length (n := n) (k := 2) (F := chCells D P A C) (fun i _ => rfl)
      have OWN0 : Hid ((w1.alloc (.cells #[] 108)).ownsRow w1.heap.size 108 2 (.slice (some ⟨w1.heap.size, 0, none⟩) 0 0) 0 []) := World.ownsRow_made w1 #[] 0 (Nat.le_refl _) (Nat.zero_le _) rfl
      have NEWS0 : Hid (∀ j u, (flat k (chCells D P A C))[j]? = some u → (w1.alloc (.cells #[] 108)).cell? ((⟨b, off, none⟩ : Addr).add j) = some u) := rdC_news0 (n := n) (fun i hi => ⟨((below_alloc w1 (.cells #[] 108)).cell (p := ⟨b, off + i * 2, none⟩) (HA.out i hi).2.2).trans (HA.out i hi).1.1, ((below_alloc w1 (.cells #[] 108)).cell (p := ⟨b, off + i * 2 + 1, none⟩) (HA.out i hi).2.2).trans (HA.out i hi).1.2⟩) k hm
      have hm0 : 0 + k ≤ maxLen := by unfold maxLen; omega
      have hm0' : (0 + k) * 32 ≤ 140737488355328 := by omega
      have hkc : (k : Int) ≤ (c : Int) := by omega
      have hkn' : (k : Int) ≤ (n : Int) := by omega
      have hnc' : (n : Int) ≤ (c : Int) := by omega
      by_cases hkn : k < n
      · have hkn2 : (k : Int) < (n : Int) := by omega
        obtain ⟨⟨c1, _⟩, _, _⟩ := HA.out k hkn
        have hdk := HHi.out hkn
        have HDD := hide c1
        generalize D k = dd at c1 hdk
        go_wp2_with (first | (at_builtin; refine wpList_append_N rfl (.tmp 34) (.tmp 37) 25 rfl w1.heap.size 108 i1 (.agg #[.int .i64 0, .slice none 0 0]) 2 32 Tryz.underlying25 ki kz0 kz1 kz2 rfl (by decide) (.slice (some ⟨w1.heap.size, 0, none⟩) 0 0) 0 [] rfl OWN0.out ⟨b, off, none⟩ k c (flat k (chCells D P A C)) rfl HFl NEWS0.out (flat_one _ _ _ _ _) k (by simp) hm0 hm0' (by simp) ?_; intro av cv w2 hown2 hk2; have O2 := hide hown2; have K2 := hide hk2; clear hown2 hk2) | fail)
        have hckf : ¬ c = k := by omega
        have BB2 := hide ((below_alloc w1 (.cells #[] 108)).trans (K2.out.below (by simp) (fun q hq hS => by simp [Value.ownBlock] at hS; omega)))
        have OWN1 : Hid ((w2.alloc (.cells #[.int .i64 d, .slice a2 zs.length c2] 108)).drew.ownsRow w1.heap.size 108 2 (.slice av k cv) k ([] ++ flat k (chCells D P A C))) := ownsRow_below O2.out (below_alloc _ _).drew
        have NEWS1 : Hid (∀ j u, [Value.int .i64 d, .slice a2 zs.length c2][j]? = some u → (w2.alloc (.cells #[.int .i64 d, .slice a2 zs.length c2] 108)).drew.cell? ((⟨w2.heap.size, 0, none⟩ : Addr).add j) = some u) := news_two (t := 108) rfl
        have NEWS2 : Hid (∀ w3 : World, Below w1.heap.size w1 w3 → ∀ j u, ((flat n (chCells D P A C)).drop (k * 2))[j]? = some u → w3.cell? ((⟨b, off + k * 2, none⟩ : Addr).add j) = some u) := fun w3 hb3 => rdC_news (n := n) (fun i hi => ⟨(hb3.cell (p := ⟨b, off + i * 2, none⟩) (HA.out i hi).2.2).trans (HA.out i hi).1.1, (hb3.cell (p := ⟨b, off + i * 2 + 1, none⟩) (HA.out i hi).2.2).trans (HA.out i hi).1.2⟩) k
        have hs2 := BB2.out.size
        have hnl : ((flat n (chCells D P A C)).drop (k * 2)).length = (n - k) * 2 := by rw [List.length_drop, HFn]; omega
        have hk1' : k + 1 + (n - k) = n + 1 := by omega
        have hm1 : k + 1 ≤ maxLen := by unfold maxLen; omega
        have hm1' : (k + 1) * 32 ≤ 140737488355328 := by omega
        have hm2 : k + 1 + (n - k) ≤ maxLen := by unfold maxLen; omega
        have hm2' : (k + 1 + (n - k)) * 32 ≤ 140737488355328 := by omega
        have hk0 : (0 : Int) ≤ (k : Int) := by omega
        have HON := hide (fun u (hu : u ∈ (flat n (chCells D P A C)).drop (k * 2)) => flat_one n D P A C u (List.mem_of_mem_drop hu))
        go_region_held3 (fun _ => True) (trivial)
          ((first
            | (refine step_append_own (by rfl) (.tmp 39) (.tmp 43) 25 (by rfl) w1.heap.size 108 i1 (.agg #[.int .i64 0, .slice none 0 0]) 2 32 Tryz.underlying25 ki kz0 kz1 kz2 rfl (by decide) (.slice av k cv) k ([] ++ flat k (chCells D P A C)) (by rfl) OWN1.out ⟨w2.heap.size, 0, none⟩ 1 1 [.int .i64 d, .slice a2 zs.length c2] (by rfl) (by rfl) NEWS1.out (by intro u hu; simp at hu; rcases hu with rfl | rfl <;> rfl) (k + 1) rfl hm1 hm1' (by simp; omega) ?_; intro av2 cv2 w3 hown3 hk3; have O3 := hide hown3; have BB3 := hide (BB2.out.trans ((((Kept.refl (fun x => (Value.slice av k cv).ownBlock = some x) w2).alloc _).drew.trans hk3).below hs2 (fun q hq hS => by have := (O2.out.lt q hS).1; omega))); clear hown3 hk3)
            | (refine step_append_own (by rfl) (.tmp 44) (.tmp 47) 25 (by rfl) w1.heap.size 108 i1 (.agg #[.int .i64 0, .slice none 0 0]) 2 32 Tryz.underlying25 ki kz0 kz1 kz2 rfl (by decide) (.slice av2 (k + 1) cv2) (k + 1) (([] ++ flat k (chCells D P A C)) ++ [.int .i64 d, .slice a2 zs.length c2]) (by rfl) O3.out ⟨b, off + k * 2, none⟩ (n - k) (c - k) ((flat n (chCells D P A C)).drop (k * 2)) (by rfl) hnl (NEWS2.out w3 BB3.out) HON.out (n + 1) hk1' hm2 hm2' BB3.out.size ?_; intro av3 cv3 w4 hown4 hk4; have O4 := hide hown4; have BB4 := hide (BB3.out.trans (hk4.below BB3.out.size (fun q hq hS => by have := (O3.out.lt q hS).1; omega))); clear hown4 hk4)))
        have O5 : Hid (w4.ownsRow w1.heap.size 108 2 (.slice av3 (n + 1) cv3) (n + 1) (flat (n + 1) (chCells (ins D k d) (ins P k zs) (ins A k a2) (ins C k c2)))) := by rw [ins_flat D P A C hm d zs a2 c2]; exact O4.out
        have RD5 : Hid (RdC w4 av3 (ins D k d) (ins P k zs) (n + 1)) := RdC.of_rows O5.out (fun i hi => by
          by_cases e1 : i < k
          · simp only [ins, if_pos e1]; exact (HA.out i (by omega)).2.1.below BB4.out
          · by_cases e2 : i = k
            · simp only [ins, if_neg e1, if_pos e2]; exact HR.out.below BB4.out
            · simp only [ins, if_neg e1, if_neg e2]; exact (HA.out (i - 1) (by omega)).2.1.below BB4.out)
        have HP5 : Hid (∀ i, i < n + 1 → 0 < (ins P k zs i).length ∧ (ins P k zs i).length ≤ 1048576) := fun i hi => by
          by_cases e1 : i < k
          · simp only [ins, if_pos e1]; exact HP.out i (by omega)
          · by_cases e2 : i = k
            · simp only [ins, if_neg e1, if_pos e2]; exact hz
            · simp only [ins, if_neg e1, if_neg e2]; exact HP.out (i - 1) (by omega)
        clear O5 O4 O3 BB3 BB2 OWN1 NEWS1 NEWS2
        go_wp2_with fail
        refine (l2Copy_any av3 cv3 (n + 1) _ _ w4 RD5.out (by omega) HP5.out).mono ?_
        rintro e w5 ⟨av5, cv5, rfl, hG, hb⟩
        have HG := hide (hG.mono BB4.out.size)
        have HB := hide (below_next BB4.out hb)
        clear hG hb
        go_wp2_with fail
        exact bodyPost_ret (v := .tuple #[.slice av5 (n + 1) cv5, .bool true]) (by simp [results, Tryz.results121, go_sem]) rfl ⟨av5, cv5, rfl, HG.out, HB.out⟩
      · have hkn2 : ¬ (k : Int) < (n : Int) := by omega
        by_cases hck : c = k
        · obtain rfl : k = c := hck.symm
          go_wp2_with (first | (at_builtin; refine wpList_append_N rfl (.tmp 34) (.tmp 37) 25 rfl w1.heap.size 108 i1 (.agg #[.int .i64 0, .slice none 0 0]) 2 32 Tryz.underlying25 ki kz0 kz1 kz2 rfl (by decide) (.slice (some ⟨w1.heap.size, 0, none⟩) 0 0) 0 [] rfl OWN0.out ⟨b, off, none⟩ k k (flat k (chCells D P A C)) rfl HFl NEWS0.out (flat_one _ _ _ _ _) k (by simp) hm0 hm0' (by simp) ?_; intro av cv w2 hown2 hk2; have O2 := hide hown2; have K2 := hide hk2; clear hown2 hk2) | fail)
          have BB2 := hide ((below_alloc w1 (.cells #[] 108)).trans (K2.out.below (by simp) (fun q hq hS => by simp [Value.ownBlock] at hS; omega)))
          have OWN1 : Hid ((w2.alloc (.cells #[.int .i64 d, .slice a2 zs.length c2] 108)).drew.ownsRow w1.heap.size 108 2 (.slice av k cv) k ([] ++ flat k (chCells D P A C))) := ownsRow_below O2.out (below_alloc _ _).drew
          have NEWS1 : Hid (∀ j u, [Value.int .i64 d, .slice a2 zs.length c2][j]? = some u → (w2.alloc (.cells #[.int .i64 d, .slice a2 zs.length c2] 108)).drew.cell? ((⟨w2.heap.size, 0, none⟩ : Addr).add j) = some u) := news_two (t := 108) rfl
          have NEWS2 : Hid (∀ w3 : World, Below w1.heap.size w1 w3 → ∀ j u, ((flat n (chCells D P A C)).drop (k * 2))[j]? = some u → w3.cell? ((⟨b, off, none⟩ : Addr).add j) = some u) := fun w3 hb3 => fun j u hj => by rw [List.drop_eq_nil_of_le (by rw [HFn]; omega)] at hj; simp at hj
          have hs2 := BB2.out.size
          have hnl : ((flat n (chCells D P A C)).drop (k * 2)).length = 0 * 2 := by rw [List.length_drop, HFn]; omega
          have hk1' : k + 1 + 0 = n + 1 := by omega
          have hm1 : k + 1 ≤ maxLen := by unfold maxLen; omega
          have hm1' : (k + 1) * 32 ≤ 140737488355328 := by omega
          have hm2 : k + 1 + 0 ≤ maxLen := by unfold maxLen; omega
          have hm2' : (k + 1 + 0) * 32 ≤ 140737488355328 := by omega
          have hk0 : (0 : Int) ≤ (k : Int) := by omega
          have HON := hide (fun u (hu : u ∈ (flat n (chCells D P A C)).drop (k * 2)) => flat_one n D P A C u (List.mem_of_mem_drop hu))
          go_region_held3 (fun _ => True) (trivial)
            ((first
              | (refine step_append_own (by rfl) (.tmp 39) (.tmp 43) 25 (by rfl) w1.heap.size 108 i1 (.agg #[.int .i64 0, .slice none 0 0]) 2 32 Tryz.underlying25 ki kz0 kz1 kz2 rfl (by decide) (.slice av k cv) k ([] ++ flat k (chCells D P A C)) (by rfl) OWN1.out ⟨w2.heap.size, 0, none⟩ 1 1 [.int .i64 d, .slice a2 zs.length c2] (by rfl) (by rfl) NEWS1.out (by intro u hu; simp at hu; rcases hu with rfl | rfl <;> rfl) (k + 1) rfl hm1 hm1' (by simp; omega) ?_; intro av2 cv2 w3 hown3 hk3; have O3 := hide hown3; have BB3 := hide (BB2.out.trans ((((Kept.refl (fun x => (Value.slice av k cv).ownBlock = some x) w2).alloc _).drew.trans hk3).below hs2 (fun q hq hS => by have := (O2.out.lt q hS).1; omega))); clear hown3 hk3)
              | (refine step_append_own (by rfl) (.tmp 44) (.tmp 47) 25 (by rfl) w1.heap.size 108 i1 (.agg #[.int .i64 0, .slice none 0 0]) 2 32 Tryz.underlying25 ki kz0 kz1 kz2 rfl (by decide) (.slice av2 (k + 1) cv2) (k + 1) (([] ++ flat k (chCells D P A C)) ++ [.int .i64 d, .slice a2 zs.length c2]) (by rfl) O3.out ⟨b, off, none⟩ 0 0 ((flat n (chCells D P A C)).drop (k * 2)) (by rfl) hnl (NEWS2.out w3 BB3.out) HON.out (n + 1) hk1' hm2 hm2' BB3.out.size ?_; intro av3 cv3 w4 hown4 hk4; have O4 := hide hown4; have BB4 := hide (BB3.out.trans (hk4.below BB3.out.size (fun q hq hS => by have := (O3.out.lt q hS).1; omega))); clear hown4 hk4)))
          have O5 : Hid (w4.ownsRow w1.heap.size 108 2 (.slice av3 (n + 1) cv3) (n + 1) (flat (n + 1) (chCells (ins D k d) (ins P k zs) (ins A k a2) (ins C k c2)))) := by rw [ins_flat D P A C hm d zs a2 c2]; exact O4.out
          have RD5 : Hid (RdC w4 av3 (ins D k d) (ins P k zs) (n + 1)) := RdC.of_rows O5.out (fun i hi => by
            by_cases e1 : i < k
            · simp only [ins, if_pos e1]; exact (HA.out i (by omega)).2.1.below BB4.out
            · by_cases e2 : i = k
              · simp only [ins, if_neg e1, if_pos e2]; exact HR.out.below BB4.out
              · simp only [ins, if_neg e1, if_neg e2]; exact (HA.out (i - 1) (by omega)).2.1.below BB4.out)
          have HP5 : Hid (∀ i, i < n + 1 → 0 < (ins P k zs i).length ∧ (ins P k zs i).length ≤ 1048576) := fun i hi => by
            by_cases e1 : i < k
            · simp only [ins, if_pos e1]; exact HP.out i (by omega)
            · by_cases e2 : i = k
              · simp only [ins, if_neg e1, if_pos e2]; exact hz
              · simp only [ins, if_neg e1, if_neg e2]; exact HP.out (i - 1) (by omega)
          clear O5 O4 O3 BB3 BB2 OWN1 NEWS1 NEWS2
          go_wp2_with fail
          refine (l2Copy_any av3 cv3 (n + 1) _ _ w4 RD5.out (by omega) HP5.out).mono ?_
          rintro e w5 ⟨av5, cv5, rfl, hG, hb⟩
          have HG := hide (hG.mono BB4.out.size)
          have HB := hide (below_next BB4.out hb)
          clear hG hb
          go_wp2_with fail
          exact bodyPost_ret (v := .tuple #[.slice av5 (n + 1) cv5, .bool true]) (by simp [results, Tryz.results121, go_sem]) rfl ⟨av5, cv5, rfl, HG.out, HB.out⟩
        · have hckf : ¬ c = k := hck
          go_wp2_with (first | (at_builtin; refine wpList_append_N rfl (.tmp 34) (.tmp 37) 25 rfl w1.heap.size 108 i1 (.agg #[.int .i64 0, .slice none 0 0]) 2 32 Tryz.underlying25 ki kz0 kz1 kz2 rfl (by decide) (.slice (some ⟨w1.heap.size, 0, none⟩) 0 0) 0 [] rfl OWN0.out ⟨b, off, none⟩ k c (flat k (chCells D P A C)) rfl HFl NEWS0.out (flat_one _ _ _ _ _) k (by simp) hm0 hm0' (by simp) ?_; intro av cv w2 hown2 hk2; have O2 := hide hown2; have K2 := hide hk2; clear hown2 hk2) | fail)
          have BB2 := hide ((below_alloc w1 (.cells #[] 108)).trans (K2.out.below (by simp) (fun q hq hS => by simp [Value.ownBlock] at hS; omega)))
          have OWN1 : Hid ((w2.alloc (.cells #[.int .i64 d, .slice a2 zs.length c2] 108)).drew.ownsRow w1.heap.size 108 2 (.slice av k cv) k ([] ++ flat k (chCells D P A C))) := ownsRow_below O2.out (below_alloc _ _).drew
          have NEWS1 : Hid (∀ j u, [Value.int .i64 d, .slice a2 zs.length c2][j]? = some u → (w2.alloc (.cells #[.int .i64 d, .slice a2 zs.length c2] 108)).drew.cell? ((⟨w2.heap.size, 0, none⟩ : Addr).add j) = some u) := news_two (t := 108) rfl
          have NEWS2 : Hid (∀ w3 : World, Below w1.heap.size w1 w3 → ∀ j u, ((flat n (chCells D P A C)).drop (k * 2))[j]? = some u → w3.cell? ((⟨b, off + k * 2, none⟩ : Addr).add j) = some u) := fun w3 hb3 => rdC_news (n := n) (fun i hi => ⟨(hb3.cell (p := ⟨b, off + i * 2, none⟩) (HA.out i hi).2.2).trans (HA.out i hi).1.1, (hb3.cell (p := ⟨b, off + i * 2 + 1, none⟩) (HA.out i hi).2.2).trans (HA.out i hi).1.2⟩) k
          have hs2 := BB2.out.size
          have hnl : ((flat n (chCells D P A C)).drop (k * 2)).length = (n - k) * 2 := by rw [List.length_drop, HFn]; omega
          have hk1' : k + 1 + (n - k) = n + 1 := by omega
          have hm1 : k + 1 ≤ maxLen := by unfold maxLen; omega
          have hm1' : (k + 1) * 32 ≤ 140737488355328 := by omega
          have hm2 : k + 1 + (n - k) ≤ maxLen := by unfold maxLen; omega
          have hm2' : (k + 1 + (n - k)) * 32 ≤ 140737488355328 := by omega
          have hk0 : (0 : Int) ≤ (k : Int) := by omega
          have HON := hide (fun u (hu : u ∈ (flat n (chCells D P A C)).drop (k * 2)) => flat_one n D P A C u (List.mem_of_mem_drop hu))
          go_region_held3 (fun _ => True) (trivial)
            ((first
              | (refine step_append_own (by rfl) (.tmp 39) (.tmp 43) 25 (by rfl) w1.heap.size 108 i1 (.agg #[.int .i64 0, .slice none 0 0]) 2 32 Tryz.underlying25 ki kz0 kz1 kz2 rfl (by decide) (.slice av k cv) k ([] ++ flat k (chCells D P A C)) (by rfl) OWN1.out ⟨w2.heap.size, 0, none⟩ 1 1 [.int .i64 d, .slice a2 zs.length c2] (by rfl) (by rfl) NEWS1.out (by intro u hu; simp at hu; rcases hu with rfl | rfl <;> rfl) (k + 1) rfl hm1 hm1' (by simp; omega) ?_; intro av2 cv2 w3 hown3 hk3; have O3 := hide hown3; have BB3 := hide (BB2.out.trans ((((Kept.refl (fun x => (Value.slice av k cv).ownBlock = some x) w2).alloc _).drew.trans hk3).below hs2 (fun q hq hS => by have := (O2.out.lt q hS).1; omega))); clear hown3 hk3)
              | (refine step_append_own (by rfl) (.tmp 44) (.tmp 47) 25 (by rfl) w1.heap.size 108 i1 (.agg #[.int .i64 0, .slice none 0 0]) 2 32 Tryz.underlying25 ki kz0 kz1 kz2 rfl (by decide) (.slice av2 (k + 1) cv2) (k + 1) (([] ++ flat k (chCells D P A C)) ++ [.int .i64 d, .slice a2 zs.length c2]) (by rfl) O3.out ⟨b, off + k * 2, none⟩ (n - k) (c - k) ((flat n (chCells D P A C)).drop (k * 2)) (by rfl) hnl (NEWS2.out w3 BB3.out) HON.out (n + 1) hk1' hm2 hm2' BB3.out.size ?_; intro av3 cv3 w4 hown4 hk4; have O4 := hide hown4; have BB4 := hide (BB3.out.trans (hk4.below BB3.out.size (fun q hq hS => by have := (O3.out.lt q hS).1; omega))); clear hown4 hk4)))
          have O5 : Hid (w4.ownsRow w1.heap.size 108 2 (.slice av3 (n + 1) cv3) (n + 1) (flat (n + 1) (chCells (ins D k d) (ins P k zs) (ins A k a2) (ins C k c2)))) := by rw [ins_flat D P A C hm d zs a2 c2]; exact O4.out
          have RD5 : Hid (RdC w4 av3 (ins D k d) (ins P k zs) (n + 1)) := RdC.of_rows O5.out (fun i hi => by
            by_cases e1 : i < k
            · simp only [ins, if_pos e1]; exact (HA.out i (by omega)).2.1.below BB4.out
            · by_cases e2 : i = k
              · simp only [ins, if_neg e1, if_pos e2]; exact HR.out.below BB4.out
              · simp only [ins, if_neg e1, if_neg e2]; exact (HA.out (i - 1) (by omega)).2.1.below BB4.out)
          have HP5 : Hid (∀ i, i < n + 1 → 0 < (ins P k zs i).length ∧ (ins P k zs i).length ≤ 1048576) := fun i hi => by
            by_cases e1 : i < k
            · simp only [ins, if_pos e1]; exact HP.out i (by omega)
            · by_cases e2 : i = k
              · simp only [ins, if_neg e1, if_pos e2]; exact hz
              · simp only [ins, if_neg e1, if_neg e2]; exact HP.out (i - 1) (by omega)
          clear O5 O4 O3 BB3 BB2 OWN1 NEWS1 NEWS2
          go_wp2_with fail
          refine (l2Copy_any av3 cv3 (n + 1) _ _ w4 RD5.out (by omega) HP5.out).mono ?_
          rintro e w5 ⟨av5, cv5, rfl, hG, hb⟩
          have HG := hide (hG.mono BB4.out.size)
          have HB := hide (below_next BB4.out hb)
          clear hG hb
          go_wp2_with fail
          exact bodyPost_ret (v := .tuple #[.slice av5 (n + 1) cv5, .bool true]) (by simp [results, Tryz.results121, go_sem]) rfl ⟨av5, cv5, rfl, HG.out, HB.out⟩

end Go.Proofs.YtejipahfodhmjaaGreat

namespace Go.Proofs.YtejipahfodhmjaaGreat
open Go.RowKit Go.Maps
set_option linter.unusedVariables false

set_option maxRecDepth 100000 in
set_option maxHeartbeats 1600000 in
theorem put_there (b N : Nat) (L : List Ch) (T : Nat) (d : Int) (a : Option Addr) (n c : Nat) (w : World) (h : Holds w b N L T) (hw : (Lit.int .i64 d).wf = true) (hd : d ∈ L.map Prod.fst) :
    Calls Tryz.prog 51 #[.map (some b), .agg #[.int .i64 d, .slice a n c]] w fun e w' => e = .returned (.int .i64 0) ∧ Holds w' b N L T ∧ Kept (fun x => x = b) w w' := by
  obtain ⟨p, hp, hpd⟩ := List.mem_map.1 hd
  have hH1 := h.below (below_alloc w (.cells #[.int .i64 d, .slice a n c] 108))
  obtain ⟨a3, c3, hrun, _, _⟩ := hH1.yes (zs := p.2) (by rw [← hpd]; exact hp) hw 67 Tryz.underlying67
  have HL := hide (hrun true)
  generalize p.2.length = pl at *
  have HH := hide (hH1.below (below_alloc _ (.cells #[.int .i64 d, .slice a3 pl c3] 108)))
  have HB := hide (below_next (below_alloc w (.cells #[.int .i64 d, .slice a n c] 108)) (below_alloc _ (.cells #[.int .i64 d, .slice a3 pl c3] 108)))
  clear h hH1 hrun hd hp hpd
  go_enter Tryz.func51, Tryz.ntmps51
  go_wp2_with (first | (at_lookup; refine wpList_look rfl _ _ 67 true rfl _ _ _ rfl rfl HL.out ?_; simp only [chv, if_true]) | fail)
  go_ret
  exact ⟨rfl, HH.out, Kept.of_below HB.out⟩

set_option maxRecDepth 100000 in
set_option maxHeartbeats 1600000 in
theorem put_full (b N : Nat) (L : List Ch) (T : Nat) (d : Int) (a : Option Addr) (n c : Nat) (w : World) (h : Holds w b N L T) (hw : (Lit.int .i64 d).wf = true) (hd : d ∉ L.map Prod.fst) (hf : 40 ≤ L.length) :
    Calls Tryz.prog 51 #[.map (some b), .agg #[.int .i64 d, .slice a n c]] w fun e w' => e = .returned (.int .i64 2) ∧ Holds w' b N L T ∧ Kept (fun x => x = b) w w' := by
  have hH1 := h.below (below_alloc w (.cells #[.int .i64 d, .slice a n c] 108))
  have HL := hide (hH1.no hd hw 67 Tryz.underlying67)
  have HH := hide (hH1.below (below_alloc _ (.cells #[.int .i64 0, .slice none 0 0] 108)))
  obtain ⟨Dt, hown, hsize, -, -⟩ := HH.out.keys
  have HO := hide hown
  have HSz := hide hsize
  have hf' : (40 : Int) ≤ (L.length : Int) := by omega
  have HB := hide (below_next (below_alloc w (.cells #[.int .i64 d, .slice a n c] 108)) (below_alloc _ (.cells #[.int .i64 0, .slice none 0 0] 108)))
  clear h hH1 hd hown hsize
  go_enter Tryz.func51, Tryz.ntmps51
  go_wp2_with (first | (at_lookup; refine wpList_look rfl _ _ 67 true rfl _ _ _ rfl rfl HL.out ?_) | (at_len; refine wpList_len_own _ rfl _ 67 rfl 2 108 Tryz.underlying67 RV b N Dt rfl HO.out ?_; rw [HSz.out]) | fail)
  go_ret
  exact ⟨rfl, HH.out, Kept.of_below HB.out⟩

set_option maxRecDepth 100000 in
set_option maxHeartbeats 1600000 in
theorem put_new (b N : Nat) (L : List Ch) (T : Nat) (d : Int) (a : Option Addr) (c : Nat) (zs : List Int) (w : World) (h : Holds w b N L T) (hw : (Lit.int .i64 d).wf = true) (hd : d ∉ L.map Prod.fst) (hf : L.length < 40) (hN : N ≤ 1048576) (hr : Reads .u8 w a zs) (hT : ∀ x, a = some x → x.block < T) :
    Calls Tryz.prog 51 #[.map (some b), .agg #[.int .i64 d, .slice a zs.length c]] w fun e w' => e = .returned (.int .i64 0) ∧ Holds w' b (N + 1) (L ++ [(d, zs)]) T ∧ Kept (fun x => x = b) w w' := by
  have hH1 := h.below (below_alloc w (.cells #[.int .i64 d, .slice a zs.length c] 108))
  have HL := hide (hH1.no hd hw 67 Tryz.underlying67)
  have HH := hide (hH1.below (below_alloc _ (.cells #[.int .i64 0, .slice none 0 0] 108)))
  obtain ⟨Dt, hown, hsize, -, -⟩ := HH.out.keys
  have HO := hide hown
  have HSz := hide hsize
  have hf' : ¬ (40 : Int) ≤ (L.length : Int) := by omega
  have hB := below_next (below_alloc w (.cells #[.int .i64 d, .slice a zs.length c] 108)) (below_alloc _ (.cells #[.int .i64 0, .slice none 0 0] 108))
  obtain ⟨Dt2, hown2, hput⟩ := HH.out.put (c := c) hd (hr.below hB) hT
  have HB := hide hB
  have HO2 := hide hown2
  have HPt := hide hput
  have HK := hide (key64 hw)
  clear h hH1 hd hown hsize hown2 hput hB hr hT
  go_enter Tryz.func51, Tryz.ntmps51
  go_wp2_with (first | (at_lookup; refine wpList_look rfl _ _ 67 true rfl _ _ _ rfl rfl HL.out ?_) | (at_len; refine wpList_len_own _ rfl _ 67 rfl 2 108 Tryz.underlying67 RV b N Dt rfl HO.out ?_; rw [HSz.out]) | (at_mapUpdate; refine wpList_mapUpdate_own _ rfl _ _ _ 67 rfl 2 108 law64 Tryz.underlying67 RV b N Dt2 rfl HO2.out (by unfold maxLen; omega) _ _ _ rfl rfl HK.out (.held (chv d a zs.length c)) [] rfl ?_; intro w1 hown1 hgrow1; have HH1 := hide (HPt.out w1 hown1 hgrow1); have HG1 := hide hgrow1; clear hown1 hgrow1) | fail)
  go_ret
  exact ⟨rfl, HH1.out, (Kept.of_below HB.out).trans (Kept.of_grown HG1.out)⟩

def ResC (q : Int) (D : Nat → Int) (P : Nat → List Int) (n : Nat) (w : World) (e : Ending) (w' : World) : Prop :=
  ∃ a' c', e = .returned (.agg #[.int .i64 q, .slice a' n c']) ∧ GC w.heap.size w'.heap.size w' (.slice a' n c') D P n ∧ Below w.heap.size w w'
theorem ResC.no {q : Int} {D : Nat → Int} {P : Nat → List Int} {w w' : World} (h : Below w.heap.size w w') : ResC q D P 0 w (.returned (.agg #[.int .i64 q, .slice none 0 0])) w' := ⟨none, 0, rfl, GC.nil _ _ _ _ _, h⟩
theorem ResC.box {w w2 : World} {B : Nat} {q : Int} {D : Nat → Int} {P : Nat → List Int} {n : Nat} {av : Option Addr} {cv : Nat} {u v : Value} (hG : GC B w2.heap.size w2 (.slice av n cv) D P n) (hB : w.heap.size < B) (hb : Below w.heap.size w w2) :
    ResC q D P n w (.returned (.agg #[.int .i64 q, .slice av n cv])) ((w2.setCell ⟨w.heap.size, 0, none⟩ u).setCell ⟨w.heap.size, 1, none⟩ v) := by
  have hk := Kept.two w2 w.heap.size 0 1 u v
  refine ⟨av, cv, rfl, ((hG.kept hk (fun x h1 _ e => by omega)).mono (by omega)).wide hk.size, (hb.setCell (Nat.le_refl _) _).setCell (Nat.le_refl _) _⟩

theorem pairwise_lst {D : Nat → Int} {P : Nat → List Int} {n : Nat} (h : ∀ i j, i < j → j < n → D i < D j) : (lst D P n).Pairwise (fun p q => p.1 < q.1) := by
  unfold lst
  refine List.pairwise_map.2 ((List.pairwise_lt_range (n := n)).imp_of_mem fun {i j} hi hj hij => h i j hij (List.mem_range.1 hj))
theorem lst_split (D : Nat → Int) (P : Nat → List Int) {n m : Nat} (hm : m ≤ n) : lst D P n = lst D P m ++ (List.range (n - m)).map fun i => (D (m + i), P (m + i)) := by
  unfold lst
  have : n = m + (n - m) := by omega
  rw [this, List.range_add, List.map_append, List.map_map]
  have e : m + (n - m) - m = n - m := by omega
  rw [e]
  rfl
theorem lst_ins (D : Nat → Int) (P : Nat → List Int) {n m : Nat} (hm : m ≤ n) (d : Int) (zs : List Int) : lst (ins D m d) (ins P m zs) (n + 1) = lst D P m ++ (d, zs) :: (List.range (n - m)).map fun i => (D (m + i), P (m + i)) := by
  rw [lst_split (ins D m d) (ins P m zs) (m := m + 1) (by omega), lst_succ]
  have e1 : lst (ins D m d) (ins P m zs) m = lst D P m := by
    unfold lst
    apply List.map_congr_left
    intro i hi
    have := List.mem_range.1 hi
    simp [ins, this]
  have e2 : n + 1 - (m + 1) = n - m := by omega
  rw [e1, e2, List.append_assoc]
  congr 1
  rw [List.singleton_append]
  congr 1
  · simp [ins]
  · apply List.map_congr_left
    intro i hi
    have h1 : ¬ m + 1 + i < m := by omega
    have h2 : ¬ m + 1 + i = m := by omega
    have h3 : m + 1 + i - 1 = m + i := by omega
    simp [ins, h1, h2, h3]
theorem ins_perm (D : Nat → Int) (P : Nat → List Int) {n m : Nat} (hm : m ≤ n) (d : Int) (zs : List Int) : (lst (ins D m d) (ins P m zs) (n + 1)).Perm (lst D P n ++ [(d, zs)]) := by
  rw [lst_ins D P hm, lst_split D P hm]
  refine List.Perm.trans List.perm_middle ?_
  exact (List.perm_append_singleton _ _).symm
theorem ins_up {D : Nat → Int} {P : Nat → List Int} {n m : Nat} (hR : RightC D P n) (hm : m ≤ n) {d : Int} (hlow : ∀ i, i < m → D i < d) (hhigh : m < n → ¬ D m < d) (hd : ∀ i, i < n → D i ≠ d) : ∀ i j, i < j → j < n + 1 → ins D m d i < ins D m d j := by
  have hup : ∀ i, m ≤ i → i < n → d < D i := fun i h1 h2 => by
    have h3 := hhigh (by omega)
    have h4 := hd m (by omega)
    by_cases e : i = m
    · subst e; omega
    · have := hR.inj m i (by omega) h2
      omega
  intro i j hij hj
  unfold ins
  by_cases h1 : i < m
  · rw [if_pos h1]
    by_cases h2 : j < m
    · rw [if_pos h2]; exact hR.inj i j hij (by omega)
    · rw [if_neg h2]
      by_cases h3 : j = m
      · rw [if_pos h3]; exact hlow i h1
      · rw [if_neg h3]; exact hR.inj i (j - 1) (by omega) (by omega)
  · rw [if_neg h1]
    have h2 : ¬ j < m := by omega
    have h3 : ¬ j = m := by omega
    rw [if_neg h2, if_neg h3]
    by_cases h4 : i = m
    · rw [if_pos h4]; exact hup (j - 1) (by omega) (by omega)
    · rw [if_neg h4]; exact hR.inj (i - 1) (j - 1) (by omega) (by omega)
theorem dg_lst {D : Nat → Int} {P : Nat → List Int} {n i : Nat} (hi : i < n) : dg (lst D P n) i = D i := by simp [dg, lst, List.getD_eq_getElem?_getD, hi]
theorem bt_lst {D : Nat → Int} {P : Nat → List Int} {n i : Nat} (hi : i < n) : bt (lst D P n) i = P i := by simp [bt, lst, List.getD_eq_getElem?_getD, hi]
theorem place {D : Nat → Int} (d : Int) : ∀ n : Nat, ∃ m, m ≤ n ∧ (∀ i, i < m → D i < d) ∧ (m < n → ¬ D m < d)
  | 0 => ⟨0, Nat.le_refl _, fun i hi => absurd hi (by omega), fun h => absurd h (by omega)⟩
  | n + 1 => by
    obtain ⟨m, h1, h2, h3⟩ := place (D := D) d n
    by_cases e : m < n
    · exact ⟨m, by omega, h2, fun _ => h3 e⟩
    · have hmn : m = n := by omega
      subst hmn
      by_cases hp : D m < d
      · exact ⟨m + 1, Nat.le_refl _, fun j hj => by
          by_cases ej : j = m
          · subst ej; exact hp
          · exact h2 j (by omega), fun h => absurd h (by omega)⟩
      · exact ⟨m, by omega, h2, fun _ => hp⟩




end Go.Proofs.YtejipahfodhmjaaGreat

namespace Go.Proofs.YtejipahfodhmjaaGreat
open Go.RowKit Go.Maps
set_option linter.unusedVariables false
attribute [local go_sem ↓] Go.wp_at_zero Go.wp_at_succ

def plc (D : Nat → Int) (d : Int) : Nat → Nat
  | 0 => 0
  | n + 1 => if plc D d n < n then plc D d n else if D n < d then n + 1 else n
theorem plc_ok (D : Nat → Int) (d : Int) : ∀ n, plc D d n ≤ n ∧ (∀ i, i < plc D d n → D i < d) ∧ (plc D d n < n → ¬ D (plc D d n) < d)
  | 0 => ⟨Nat.le_refl _, fun i hi => absurd hi (by simp [plc]), fun h => absurd h (by simp [plc])⟩
  | n + 1 => by
    obtain ⟨h1, h2, h3⟩ := plc_ok D d n
    by_cases e : plc D d n < n
    · have : plc D d (n + 1) = plc D d n := by simp only [plc, if_pos e]
      rw [this]
      exact ⟨by omega, h2, fun _ => h3 e⟩
    · have hmn : plc D d n = n := by omega
      by_cases hp : D n < d
      · have : plc D d (n + 1) = n + 1 := by simp only [plc, if_neg e, if_pos hp]
        rw [this]
        refine ⟨Nat.le_refl _, fun j hj => ?_, fun h => absurd h (by omega)⟩
        by_cases ej : j = n
        · subst ej; exact hp
        · exact h2 j (by omega)
      · have : plc D d (n + 1) = n := by simp only [plc, if_neg e, if_neg hp]
        rw [this]
        exact ⟨by omega, fun i hi => h2 i (by omega), fun _ => hp⟩

abbrev St := (Nat → Int) × (Nat → List Int) × Nat
def hasS (s : St) (d : Int) : Bool := (List.range s.2.2).any fun i => s.1 i == d
theorem hasS_true {s : St} {d : Int} (h : hasS s d = true) : ∃ i, i < s.2.2 ∧ s.1 i = d := by simpa [hasS] using h
theorem hasS_false {s : St} {d : Int} (h : hasS s d = false) : ∀ i, i < s.2.2 → s.1 i ≠ d := by simpa [hasS] using h
def putSC (s : St) (z : List Int) : St := (ins s.1 (plc s.1 (digest z) s.2.2) (digest z), ins s.2.1 (plc s.1 (digest z) s.2.2) z, s.2.2 + 1)
def stepS (s : St) (z : List Int) : Option St := if hasS s (digest z) then some s else if 40 ≤ s.2.2 then none else some (putSC s z)
def runS (s : St) (Z : Nat → List Int) : Nat → Option St
  | 0 => some s
  | k + 1 => (runS s Z k).bind fun t => stepS t (Z k)
theorem runS_none {s : St} {Z : Nat → List Int} {k : Nat} (h : runS s Z k = none) : ∀ n, k ≤ n → runS s Z n = none := by
  intro n hn
  induction n with
  | zero => have : k = 0 := by omega
            subst this; exact h
  | succ n ih =>
    by_cases e : k = n + 1
    · subst e; exact h
    · simp only [runS, ih (by omega), Option.bind_none]
theorem runS_next {s t : St} {Z : Nat → List Int} {k : Nat} (h : runS s Z k = some t) : runS s Z (k + 1) = stepS t (Z k) := by simp [runS, h]

theorem RightC.put {s : St} (h : RightC s.1 s.2.1 s.2.2) {z : List Int} (hz : 1 ≤ z.length ∧ z.length ≤ 8) (hd : hasS s (digest z) = false) (hf : ¬ 40 ≤ s.2.2) : RightC (putSC s z).1 (putSC s z).2.1 (putSC s z).2.2 := by
  obtain ⟨D, P, n⟩ := s
  obtain ⟨h1, h2, h3⟩ := plc_ok D (digest z) n
  have hdr := digest_range z
  have hup := ins_up h h1 h2 h3 (hasS_false hd)
  simp only [putSC] at *
  generalize plc D (digest z) n = m at *
  refine ⟨by omega, fun i hi => ?_, fun i hi => ?_, fun i hi => ?_, fun i hi => hup i (i + 1) (by omega) hi⟩
  all_goals
    unfold ins
    by_cases e1 : i < m
    · simp only [if_pos e1]
      first | exact h.range i (by omega) | exact h.len i (by omega) | exact h.sum i (by omega)
    · simp only [if_neg e1]
      by_cases e2 : i = m
      · first | (simp only [if_pos e2]; done) | (simp only [if_pos e2]; exact hdr) | (simp only [if_pos e2]; exact hz)
      · simp only [if_neg e2]
        first | exact h.range (i - 1) (by omega) | exact h.len (i - 1) (by omega) | exact h.sum (i - 1) (by omega)

def PostL (o : Option St) (w : World) (e : Ending) (w' : World) : Prop :=
  (match o with
    | none => e = .returned (.tuple #[.slice none 0 0, .bool false])
    | some t => ∃ g cv, e = .returned (.tuple #[.slice (some ⟨g, 0, none⟩) t.2.2 cv, .bool true]) ∧ t.2.2 ≤ cv ∧ RightC t.1 t.2.1 t.2.2 ∧ GC w.heap.size w'.heap.size w' (.slice (some ⟨g, 0, none⟩) t.2.2 cv) t.1 t.2.1 t.2.2) ∧ Below w.heap.size w w'

set_option maxRecDepth 100000 in
set_option maxHeartbeats 6400000 in
theorem l2Bytes_any (a : Option Addr) (c n : Nat) (D : Nat → Int) (P : Nat → List Int) (a2 : Option Addr) (c2 : Nat) (zs : List Int) (w : World) (h : RdC w a D P n) (hR : RightC D P n) (h2 : Reads .u8 w a2 zs) (hu : U8 zs) (hcap : zs.length ≤ c2) (hl : zs.length ≤ 1048576) :
    Calls Tryz.prog 80 #[.slice a n c, .slice a2 zs.length c2] w (PostL (runS (D, P, n) (piece zs) (cut zs).length) w) := by
  have hn : n ≤ 1048576 := by have := hR.many; omega
  have HA := hide h
  have HRt := hide hR
  have HR := hide h2
  have HU := hide hu
  have hN : (cut zs).length ≤ 1048576 := by rw [cut_length]; omega
  have HPL : Hid (∀ j, j < (cut zs).length → 1 ≤ (piece zs j).length ∧ (piece zs j).length ≤ 8) := fun j hj => by rw [cut_length] at hj; rw [piece_length]; omega
  have HC := hide (l1Cut_any a2 c2 zs w h2 hcap hl)
  generalize hNN : (cut zs).length = N at *
  clear h hR h2 hu hNN
  generalize hrs : runS (D, P, n) (piece zs) N = RS
  have HRS := hide hrs
  clear hrs
  go_enter Tryz.func80, Tryz.ntmps80
  go_wp2_with fail
  refine HC.out.mono ?_
  rintro e w1 ⟨pv, rfl, hG1, b1⟩
  obtain ⟨pa, pc, rfl⟩ := hG1.shape
  have G1 := hide hG1
  have B1 := hide b1
  have hs1 := b1.size
  clear hG1 b1 HC
  go_wp2_with fail
  refine (l2Copy_at a c n D P w1 (HA.out.below B1.out) hn (fun i hi => HRt.out.u8len hi)).mono ?_
  rintro e w2 ⟨g2, cv2, rfl, hcv2, hG2, b2⟩
  have hs2 := b2.size
  have C2 := hide (hG2.mono hs1)
  have G2 := hide (G1.out.below b2)
  have B2 := hide (below_next B1.out b2)
  clear hG2 b2 G1 B1
  go_wp2
  go_loopw [7, 8, 9, 10] (fun v i _ _ wr => ∃ (j : Nat) (t : St) (g cv : Nat), j ≤ N ∧ i = .int .i64 j ∧ v = .slice (some ⟨g, 0, none⟩) t.2.2 cv ∧ t.2.2 ≤ cv ∧ runS (D, P, n) (piece zs) j = some t ∧ RightC t.1 t.2.1 t.2.2 ∧ GC w.heap.size wr.heap.size wr (.slice (some ⟨g, 0, none⟩) t.2.2 cv) t.1 t.2.1 t.2.2 ∧ Grow2 w.heap.size wr (.slice pa N pc) (piece zs) N ∧ Below w.heap.size w wr) (fun _ i _ _ _ => N - (intOf i).toNat)
  case atStart => exact ⟨0, (D, P, n), g2, cv2, Nat.zero_le _, rfl, rfl, hcv2, rfl, HRt.out, C2.out, G2.out, B2.out⟩
  case round =>
    obtain ⟨j, ⟨D1, P1, n1⟩, g, cv, hj, rfl, rfl, hcv, hrun, hR1, hG, hP, hbel⟩ := hrel
    simp only at hcv hR1 hG
    have HW := hide hbel
    have hsz := hbel.size
    have HG := hide hG
    have HPr := hide hP
    have HR1 := hide hR1
    have hn40 := hR1.many
    have HRun := hide hrun
    have HNx := hide (runS_next hrun)
    clear C2 G2 B2 hG hR1 hrun hbel
    by_cases hlt : j < N
    · obtain ⟨gp, x, dx, rfl, hc0, hr0⟩ := hP.at hlt
      have hpl := HPL.out j hlt
      have HUz := hide (HU.out.piece j)
      have hgp : gp < wr.heap.size := World.block_lt_of_cell? wr ⟨gp, j, none⟩ hc0
      have hj0 : (0 : Int) ≤ (j : Int) := by omega
      have hj1 : (j : Int) < (N : Int) := by omega
      generalize piece zs j = z at *
      have HRz := hide hr0
      have HDg := hide (specDigestOf_any x dx z wr.drew hr0 HUz.out (by omega))
      have HRd := hide (HG.out.rd)
      have HPl1 : Hid (∀ i, i < n1 → 0 < (P1 i).length ∧ (P1 i).length ≤ 1048576) := fun i hi => HR1.out.u8len hi
      clear hr0 hP
      cases hh : hasS (D1, P1, n1) (digest z) with
      | true =>
        have HEq : Hid (runS (D, P, n) (piece zs) (j + 1) = some (D1, P1, n1)) := by rw [HNx.out]; unfold stepS; rw [if_pos hh]; exact hide rfl
        have HPt := hide (l2Put_there_at (some ⟨g, 0, none⟩) cv n1 D1 P1 (digest z) x z.length dx wr.drew HRd.out (by omega) HPl1.out (hasS_true hh))
        clear hh
        generalize digest z = dz at *
        go_wp2_with fail
        go_region_held3 (fun w' => w'.cell? ⟨gp, j, none⟩ = some (.slice x z.length dx)) (first | trivial | go_keep | (exact (hbp.cell (p := ⟨gp, j, none⟩) hgp).trans hc0))
          ((first
            | (go_at_call 122; refine HDg.out.mono ?_; rintro e w1' ⟨rfl, rfl⟩)
            | (go_at_call 121; refine HPt.out.mono ?_; rintro e w3 ⟨g3, cv3, rfl, hcv3, hG3, hbp⟩; have C3 := hide hG3; have BB3 := hide (((Below.refl wr.heap.size wr).drew).trans hbp); clear hG3)))
        clear hbp
        go_wp2
        go_roundw
        case rel => exact ⟨j + 1, (D1, P1, n1), g3, cv3, by omega, by go_num, rfl, hcv3, HEq.out, HR1.out, C3.out.mono hsz, HPr.out.below BB3.out, below_next' HW.out BB3.out⟩
        case measure => simp [intOf]; omega
      | false =>
        by_cases hf : 40 ≤ n1
        · have HEq : Hid (RS = none) := by rw [← HRS.out]; exact runS_none (k := j + 1) (by rw [HNx.out]; unfold stepS; rw [hh, if_neg (by simp), if_pos hf]) N (by omega)
          have HPt := hide (l2Put_full (some ⟨g, 0, none⟩) cv n1 D1 P1 (digest z) x z.length dx wr.drew HRd.out (by omega) (hasS_false hh) hf)
          clear hh
          generalize digest z = dz at *
          go_wp2_with fail
          go_region_held3 (fun w' => w'.cell? ⟨gp, j, none⟩ = some (.slice x z.length dx)) (first | trivial | go_keep | (exact (hbp.cell (p := ⟨gp, j, none⟩) hgp).trans hc0))
            ((first
              | (go_at_call 122; refine HDg.out.mono ?_; rintro e w1' ⟨rfl, rfl⟩)
              | (go_at_call 121; refine HPt.out.mono ?_; rintro e w3 ⟨rfl, hbp⟩; have BB3 := hide (((Below.refl wr.heap.size wr).drew).trans hbp))))
          clear hbp
          have HE := HEq.out
          subst HE
          go_wp2
          exact bodyPost_ret (v := .tuple #[.slice none 0 0, .bool false]) (by simp [results, Tryz.results80, go_sem]) rfl ⟨rfl, below_next' HW.out BB3.out⟩
        · have HEq : Hid (runS (D, P, n) (piece zs) (j + 1) = some (putSC (D1, P1, n1) z)) := by rw [HNx.out]; unfold stepS; rw [hh, if_neg (by simp), if_neg hf]; exact hide rfl
          have HR2 := hide (RightC.put (s := (D1, P1, n1)) HR1.out hpl hh hf)
          obtain ⟨p1, p2, p3⟩ := plc_ok D1 (digest z) n1
          have HPt := hide (l2Put_new g 0 cv n1 (plc D1 (digest z) n1) D1 P1 (digest z) x dx z wr.drew HRd.out hcv (by omega) HPl1.out HRz.out ⟨by omega, by omega⟩ (hasS_false hh) p1 p2 p3)
          have HPu : Hid (putSC (D1, P1, n1) z = (ins D1 (plc D1 (digest z) n1) (digest z), ins P1 (plc D1 (digest z) n1) z, n1 + 1)) := hide rfl
          clear hh p1 p2 p3
          generalize hpu : putSC (D1, P1, n1) z = t2 at *
          clear hpu
          obtain ⟨D2, P2, n2⟩ := t2
          simp only [Prod.mk.injEq] at HPu
          obtain ⟨hD2, hP2, hn2⟩ := HPu.out
          rw [← hD2, ← hP2, ← hn2] at HPt
          have hn2p : 0 < n2 := by omega
          clear HPu hD2 hP2 hn2
          generalize digest z = dz at *
          go_wp2_with fail
          go_region_held3 (fun w' => w'.cell? ⟨gp, j, none⟩ = some (.slice x z.length dx)) (first | trivial | go_keep | (exact (hbp.cell (p := ⟨gp, j, none⟩) hgp).trans hc0))
            ((first
              | (go_at_call 122; refine HDg.out.mono ?_; rintro e w1' ⟨rfl, rfl⟩)
              | (go_at_call 121; refine HPt.out.mono ?_; rintro e w3 ⟨av3, cv3, rfl, hG3, hbp⟩; obtain ⟨g3, h3, hcv3⟩ := hG3.addr (.inl hn2p); subst h3; have C3 := hide hG3; have BB3 := hide (((Below.refl wr.heap.size wr).drew).trans hbp); clear hG3)))
          clear hbp
          go_wp2
          go_roundw
          case rel => exact ⟨j + 1, (D2, P2, n2), g3, cv3, by omega, by go_num, rfl, hcv3, HEq.out, HR2.out, C3.out.mono hsz, HPr.out.below BB3.out, below_next' HW.out BB3.out⟩
          case measure => simp [intOf]; omega
    · have hje : j = N := by omega
      subst hje
      have HE : RS = some (D1, P1, n1) := by rw [← HRS.out]; exact HRun.out
      subst HE
      clear hP
      go_wp2
      exact bodyPost_ret (v := .tuple #[.slice (some ⟨g, 0, none⟩) n1 cv, .bool true]) (by simp [results, Tryz.results80, go_sem]) rfl ⟨⟨g, cv, rfl, hcv, HR1.out, HG.out⟩, HW.out⟩

end Go.Proofs.YtejipahfodhmjaaGreat

