/-
  Bytes joined from chunks: contracts of the model's and the program's JoinChunks.
-/
import Derived.Test.YtdebojhginiihaaMissing
namespace Go.Proofs.Ytdebojhginiihaa
open Go.RowKit Go.Maps
set_option linter.unusedVariables false

/-- append(out, x...): out owned, x read. -/
theorem wpList_append_ints {P : Program} {wr : World} {ops : Array Oper} {rest : List Oper} {o : Oper} {a : Act} {Q : Exit → Act → World → Prop} (hgd : o.guard = none) (s x : Operand) (t : TypeId)
    (ho : o.op = .call { callee := .builtin .append, args := #[s, x], argTypes := #[t, t] })
    (base : Nat) (e : TypeId) (i : TypeInfo) (k : IntKind) (bytes : Nat) (ht : P.underlying t = some (.slice e)) (hi : P.info? e = some i) (hz : i.zero = some (.int k 0))
    (hsize : i.size = 1) (hby : i.bytes = bytes) (v : Value) (n : Nat) (ys : List Int) (hs : a.eval s = v) (hown : wr.ownsRow base e 1 v n (ys.map (Value.int k)))
    (b off m cap : Nat) (zs : List Int) (hx : a.eval x = .slice (some ⟨b, off, none⟩) m cap) (hm : m = zs.length) (hc : ∀ i, i < zs.length → wr.cell? ⟨b, off + i, none⟩ = some (.int k (zs.getD i 0)))
    (h63 : n + m ≤ maxLen) (hbytes : (n + m) * bytes ≤ 140737488355328) (hbase : base ≤ wr.heap.size)
    (h : ∀ v' w', w'.ownsRow base e 1 v' (n + m) ((ys ++ zs).map (Value.int k)) → Kept (fun b => v.ownBlock = some b) wr w' → wpList P ops Q rest (a.put o.dst v') w') :
    wpList P ops Q (o :: rest) a wr := by
  refine wpList_append_own _ hgd s x t ho base e i (.int k 0) 1 bytes ht hi hz hsize hby rfl (by decide) v n _ hs hown ⟨b, off, none⟩ m cap (zs.map (Value.int k)) hx (by simp [hm]) (fun j u hj => reads_news hc j u hj) (ints_one _ _) h63 hbytes hbase ?_
  intro v' w' ho' hg _
  refine h v' w' (by rw [List.map_append]; exact ho') ⟨hg.os, hg.tape, hg.output, hg.size, fun q hq hn => hg.block q hq (fun e => hn e.symm)⟩

def joinTo (js : Nat → List Int) (k : Nat) : List Int := (List.range k).flatMap js
theorem joinTo_succ (js : Nat → List Int) (k : Nat) : joinTo js (k + 1) = joinTo js k ++ js k := by simp [joinTo, List.range_succ]
theorem joinTo_length {js : Nat → List Int} {m : Nat} (h : ∀ j, j < m → (js j).length ≤ 8) : ∀ k, k ≤ m → (joinTo js k).length ≤ 8 * k
  | 0, _ => by simp [joinTo]
  | k + 1, hk => by
    have h1 := joinTo_length h k (by omega)
    have h2 := h k (by omega)
    rw [joinTo_succ, List.length_append]
    omega



set_option maxRecDepth 100000 in
set_option maxHeartbeats 800000 in
theorem implJoin_bad (a : Option Addr) (c n : Nat) (D : Nat → Int) (P : Nat → List Int) (a2 : Option Addr) (c2 : Nat) (zs : List Int) (w : World) (h : RdC w a D P n) (hn : n ≤ 1048576) (hP : ∀ i, i < n → U8 (P i) ∧ (P i).length ≤ 1048576) (h2 : Reads .i64 w a2 zs) (hl : zs.length ≤ 1048576) (hF : both (fault D P n) zs ≠ 0) :
    Calls Try.prog 26 #[.slice a n c, .slice a2 zs.length c2] w (ResB (both (fault D P n) zs) [] w) := by
  have HC := hide (askedFault_any a c n D P a2 c2 zs (w.alloc (.cells #[.int .i64 0, .slice none 0 0] 48)) (h.below (below_alloc _ _)) hn hP (h2.below (below_alloc _ _)) hl)
  generalize both (fault D P n) zs = F at *
  have hne : (F != 0) = true := by simpa using hF
  clear h hP hF h2
  go_enter Try.func26, Try.ntmps26
  go_wp2_with fail
  refine HC.out.mono ?_
  rintro e w1 ⟨rfl, b1⟩
  obtain ⟨⟨q0, q1⟩, q2, q3⟩ := (Box.new w (.int .i64 0) (.slice none 0 0) 48).below b1
  have B1 := hide (below_next (below_alloc w (.cells #[.int .i64 0, .slice none 0 0] 48)) b1)
  clear b1 HC
  go_wp2_with fail
  exact bodyPost_ret (v := .agg #[.int .i64 F, .slice none 0 0]) (by simp [results, Try.results26, go_sem, q0, q1]) rfl (ResB.no ((B1.out.setCell (Nat.le_refl _) _).setCell (Nat.le_refl _) _))

set_option maxRecDepth 100000 in
set_option maxHeartbeats 3200000 in
theorem implJoin_ok (a : Option Addr) (c n : Nat) (D : Nat → Int) (P : Nat → List Int) (a2 : Option Addr) (c2 : Nat) (zs : List Int) (w : World) (h : RdC w a D P n) (hn : n ≤ 1048576) (hP : ∀ i, i < n → U8 (P i) ∧ (P i).length ≤ 1048576) (h2 : Reads .i64 w a2 zs) (hl : zs.length ≤ 1048576) (hF : both (fault D P n) zs = 0)
    (m : Nat) (hm : m ≤ zs.length) (js : Nat → List Int) (hj : ∀ j, j < m → ∃ i, i < n ∧ D i = zs.getD j 0 ∧ P i = js j) (hno : m < zs.length → ∀ i, i < n → D i ≠ zs.getD m 0) :
    Calls Try.prog 26 #[.slice a n c, .slice a2 zs.length c2] w (ResB (if m = zs.length then 0 else 8) (if m = zs.length then joinTo js m else []) w) := by
  obtain ⟨q, hq⟩ : ∃ q, q = if m = zs.length then (0 : Int) else 8 := ⟨_, rfl⟩
  obtain ⟨r, hr⟩ : ∃ r, r = if m = zs.length then joinTo js m else [] := ⟨_, rfl⟩
  rw [← hq, ← hr]
  have HQ := hide (And.intro hq hr)
  clear hq hr
  obtain ⟨i1, ki, kz0, kz1, kz2⟩ := info_parts Try.infoU8
  have hfl := askedFault_any a c n D P a2 c2 zs (w.alloc (.cells #[.int .i64 0, .slice none 0 0] 48)) (h.below (below_alloc _ _)) hn hP (h2.below (below_alloc _ _)) hl
  rw [hF] at hfl
  obtain ⟨hl3, hrg⟩ := asked_zero (both_zero hF).2
  have HRt := hide (fault_zero (both_zero hF).1)
  have hjl : ∀ j, j < m → (js j).length ≤ 8 := fun j hj' => by obtain ⟨i, hi, _, e⟩ := hj j hj'; rw [← e]; exact (HRt.out.len i hi).2
  have HJL := hide (joinTo_length hjl)
  have HRg := hide hrg
  have HC := hide hfl
  have HA := hide h
  have HR := hide h2
  have HJ := hide hj
  have HN := hide hno
  clear h hP hF h2 hfl hrg hj hno hjl
  go_enter Try.func26, Try.ntmps26
  go_wp2_with fail
  refine HC.out.mono ?_
  rintro e w1 ⟨rfl, b1⟩
  have X1 := hide ((Box.new w (.int .i64 0) (.slice none 0 0) 48).below b1)
  have hs1 : w.heap.size < w1.heap.size := by have := b1.size; simp at this; omega
  have B1 := hide (below_next (below_alloc w (.cells #[.int .i64 0, .slice none 0 0] 48)) b1)
  clear b1 HC
  go_wp2_with fail
  refine (mapChunks_any a c n D P w1 (HA.out.below B1.out) HRt.out).mono ?_
  rintro e w2 ⟨bm, rfl, hbm, hH2, b2⟩
  have H2 := hide hH2
  have X2 := hide (X1.out.below b2)
  have hs2 : w.heap.size < w2.heap.size := by have := b2.size; omega
  have B2 := hide (below_next B1.out b2)
  have R2 := hide (HR.out.below B2.out)
  clear b2 hH2 X1 B1
  go_wp2
  go_loopw [7, 9, 10, 11, 23] (fun v _ _ _ i wr => ∃ j : Nat, j ≤ m ∧ i = .int .i64 j ∧ wr.ownsRow w2.heap.size 5 1 v (joinTo js j).length ((joinTo js j).map (Value.int .u8)) ∧ Below w2.heap.size w2 wr) (fun _ _ _ _ i _ => zs.length - (intOf i).toNat)
  case atStart => exact ⟨0, Nat.zero_le _, rfl, World.ownsRow_nil _ _ _ _, Below.refl _ _⟩
  case round =>
    obtain ⟨j, hjm, rfl, hown, hbel⟩ := hrel
    obtain ⟨av, cv, rfl⟩ := ownsRow_shape hown
    by_cases hlt : j < zs.length
    · obtain ⟨b, off, rfl, hb1, hc⟩ := R2.out (by intro e; simp [e] at hlt)
      have hc1 := (hbel.cell (p := ⟨b, off + j, none⟩) hb1).trans (hc j hlt)
      have hz01 := HRg.out j hlt
      have hsz := hbel.size
      by_cases hjlt : j < m
      · obtain ⟨i, hi, hd, hp⟩ := HJ.out j hjlt
        have hlen := HJL.out j (by omega)
        have hlx := HRt.out.len i hi
        have HS := hide (joinTo_succ js j)
        generalize zs.getD j 0 = z at hc1 hd hz01
        have hwf := i64_wf hz01.1 hz01.2
        rw [hp] at hlx
        obtain ⟨a3, c3, hrun, hr3, -⟩ := (H2.out.below hbel).yes (lst_mem.2 ⟨i, hi, by rw [hd, hp]⟩ : (z, js j) ∈ lst D P n) hwf 74 Try.underlying74
        have HL := hide (hrun true)
        generalize js j = xs at *
        generalize joinTo js j = ys at *
        have hr4 := hr3.below (below_alloc wr (.cells #[.int .i64 z, .slice a3 xs.length c3] 53))
        obtain ⟨b3, o3, rfl, hb3, hc3⟩ := hr4 (by intro e; subst e; simp at hlx)
        have HO := hide (ownsRow_below hown (below_alloc wr (.cells #[.int .i64 z, .slice (some ⟨b3, o3, none⟩) xs.length c3] 53)))
        have HW := hide hbel
        have HC3 := hide hc3
        have hm1 : ys.length + xs.length ≤ maxLen := by unfold maxLen; omega
        have hm2 : (ys.length + xs.length) * 1 ≤ 140737488355328 := by omega
        have hsz1 : w2.heap.size ≤ (wr.alloc (.cells #[.int .i64 z, .slice (some ⟨b3, o3, none⟩) xs.length c3] 53)).heap.size := by simp; omega
        clear hc hc3 hr3 hr4 hd hp hrun hown hbel
        go_wp2_with (first | (at_lookup; refine wpList_look rfl _ _ 74 true rfl _ _ _ rfl rfl HL.out ?_; simp only [chv, if_true]) | (at_builtin; refine wpList_append_ints rfl (.tmp 36) (.tmp 38) 22 rfl w2.heap.size 5 i1 .u8 1 Try.underlying22 ki kz0 kz1 kz2 _ _ ys rfl HO.out b3 o3 _ c3 xs rfl rfl HC3.out hm1 hm2 hsz1 ?_; intro v' w3 hown2 hkept; have O2 := hide hown2; have K2 := hide hkept; clear hown2 hkept) | fail)
        go_roundw
        case rel => exact ⟨j + 1, by omega, by go_num, by rw [HS.out, List.length_append]; exact O2.out, (below_after HW.out (below_alloc _ _)).trans (K2.out.below hsz1 (fun k hk hS => by have := (HO.out.lt _ hS).1; omega))⟩
        case measure => simp [intOf]; omega
      · have hje : j = m := by omega
        subst hje
        have hnn := HN.out hlt
        generalize zs.getD j 0 = z at hc1 hnn hz01
        have HL := hide ((H2.out.below hbel).no (by intro hm; obtain ⟨i, hi, e⟩ := lst_key.1 hm; exact hnn i hi e) (i64_wf hz01.1 hz01.2) 74 Try.underlying74)
        have hme' : ¬ j = zs.length := by omega
        obtain ⟨hq, hr⟩ := HQ.out
        rw [if_neg hme'] at hq hr
        subst hq hr
        have X3 := hide ((X2.out.below hbel).below (below_alloc _ (.cells #[.int .i64 0, .slice none 0 0] 53)))
        have HW := hide (below_next (below_next B2.out hbel) (below_alloc _ (.cells #[.int .i64 0, .slice none 0 0] 53)))
        obtain ⟨⟨q0, q1⟩, q2, q3⟩ := X3.out
        clear hc hown hbel hnn X2
        go_wp2_with (first | (at_lookup; refine wpList_look rfl _ _ 74 true rfl _ _ _ rfl rfl HL.out ?_) | fail)
        exact bodyPost_ret (v := .agg #[.int .i64 8, .slice none 0 0]) (by simp [results, Try.results26, go_sem, q0, q1]) rfl (ResB.no ((HW.out.setCell (Nat.le_refl _) _).setCell (Nat.le_refl _) _))
    · have hje : j = m := by omega
      subst hje
      have hme : j = zs.length := by omega
      obtain ⟨hq, hr⟩ := HQ.out
      rw [if_pos hme] at hq hr
      generalize joinTo js j = ms at *
      subst hq hr
      obtain ⟨⟨q0, q1⟩, q2, q3⟩ := X2.out.below hbel
      have HO := hide hown
      have HW := hide (below_next B2.out hbel)
      clear hown hbel
      go_wp2
      refine bodyPost_ret (v := .agg #[.int .i64 0, .slice av r.length cv]) (by simp [results, Try.results26, go_sem, q0, q1]) rfl ⟨_, _, rfl, ?_, (HW.out.setCell (Nat.le_refl _) _).setCell (Nat.le_refl _) _⟩
      exact GB.mk (ownsRow_mono (ownsRow_kept (S := fun b => b = w.heap.size) HO.out (Kept.two _ _ _ _ _ _) (fun b hb e => by have := (HO.out.lt b hb).1; omega)) (by omega)) rfl

end Go.Proofs.Ytdebojhginiihaa
