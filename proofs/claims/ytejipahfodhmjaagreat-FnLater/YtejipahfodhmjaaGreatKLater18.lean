/-
  Texts put together: Join LazL LazQ FetL LazI SeeT MntB MntI LazJ OvrS.
-/
import Derived.Test.YtejipahfodhmjaaGreatKLater17
import Derived.Test.YtejipahfodhmjaaGreatKLater16
import Derived.Test.YtejipahfodhmjaaGreatKLater11
import Derived.Test.YtejipahfodhmjaaGreatKLater1
import Derived.Test.YtejipahfodhmjaaGreatKLater3
import Derived.Laws.CopyRow
import Derived.ProofKit
import Derived.Deep.DrawnRows
import Derived.Test.YtejipahfodhmjaaGreatKLater8
import Derived.Test.YtejipahfodhmjaaGreatKLater10
import Derived.Test.YtejipahfodhmjaaGreatKLater6
import Derived.Test.YtejipahfodhmjaaGreatKLater4
import Derived.Shelf.SlSortCmp.WholeK
import Derived.Ground.SlsfProg
import Derived.Test.YtejipahfodhmjaaGreatProg
import Derived.Test.YtejipahfodhmjaaGreatKLater9
namespace Go.Proofs.YtejipahfodhmjaaGreat
open Go.RowKit Go.Maps
set_option linter.unusedVariables false

theorem wpList_append_ints {P : Program} {wr : World} {ops : Array Oper} {rest : List Oper} {o : Oper} {a : Act} {Q : Exit → Act → World → Prop} (hgd : o.guard = none) (s x : Operand) (t : TypeId)
    (ho : o.op = .call { callee := .builtin .append, args := #[s, x], argTypes := #[t, t] })
    (base : Nat) (e : TypeId) (i : TypeInfo) (k : IntKind) (bytes : Nat) (ht : P.underlying t = some (.slice e)) (hi : P.info? e = some i) (hz : i.zero = some (.int k 0))
    (hsize : i.size = 1) (hby : i.bytes = bytes) (v : Value) (n : Nat) (ys : List Int) (hs : a.eval s = v) (hown : wr.ownsRow base e 1 v n (ys.map (Value.int k)))
    (b off m cap : Nat) (zs : List Int) (hx : a.eval x = .slice (some ⟨b, off, none⟩) m cap) (hm : m = zs.length) (hc : ∀ i, i < zs.length → wr.cell? ⟨b, off + i, none⟩ = some (.int k (zs.getD i 0)))
    (h63 : n + m ≤ maxLen) (hbytes : (n + m) * bytes ≤ 140737488355328) (hbase : base ≤ wr.heap.size)
    (h : ∀ v' w', w'.ownsRow base e 1 v' (n + m) ((ys ++ zs).map (Value.int k)) → Kept (fun b => v.ownBlock = some b) wr w' → wpList P ops Q rest (a.put o.dst v') w') :
    wpList P ops Q (o :: rest) a wr := by
  refine wpList_append_own _ hgd s x t ho base e i (.int k 0) 1 bytes ht hi hz hsize hby rfl (by decide) v n _ hs hown ⟨b, off, none⟩ m cap (zs.map (Value.int k)) hx (by simp [hm]) (fun j u hj => reads_news hc j u hj) (ints_one _ _) h63 hbytes hbase ?_
  intro v' w' ho' hg _
  refine h v' w' (by rw [List.map_append]; exact ho') ⟨hg.os, hg.tape, hg.output, hg.size, fun q hq hn => hg.block q hq (fun e => hn e.symm)⟩

def joinTo (js : Nat → List Int) (k : Nat) : List Int := (List.range k).flatMap js
theorem joinTo_succ (js : Nat → List Int) (k : Nat) : joinTo js (k + 1) = joinTo js k ++ js k := by simp [joinTo, List.range_succ]
theorem joinTo_length {js : Nat → List Int} {m : Nat} (h : ∀ j, j < m → (js j).length ≤ 8) : ∀ k, k ≤ m → (joinTo js k).length ≤ 8 * k
  | 0, _ => by simp [joinTo]
  | k + 1, hk => by
    have h1 := joinTo_length h k (by omega)
    have h2 := h k (by omega)
    rw [joinTo_succ, List.length_append]
    omega

set_option maxRecDepth 100000 in
set_option maxHeartbeats 1600000 in
theorem l2Join_any (a : Option Addr) (c n : Nat) (D : Nat → Int) (P : Nat → List Int) (a2 : Option Addr) (c2 : Nat) (zs : List Int) (w : World) (h : RdC w a D P n) (hR : RightC D P n) (h2 : Reads .i64 w a2 zs) (hl : zs.length ≤ 3)
    (m : Nat) (hm : m ≤ zs.length) (js : Nat → List Int) (hj : ∀ j, j < m → ∃ i, i < n ∧ D i = zs.getD j 0 ∧ P i = js j) (hno : m < zs.length → ∀ i, i < n → D i ≠ zs.getD m 0) :
    Calls Tryz.prog 86 #[.slice a n c, .slice a2 zs.length c2] w fun e w' => ((m = zs.length ∧ ∃ v, e = .returned (.tuple #[v, .bool true]) ∧ w'.ownsRow w.heap.size 5 1 v (joinTo js m).length ((joinTo js m).map (Value.int .u8))) ∨ (m < zs.length ∧ e = .returned (.tuple #[.slice none 0 0, .bool false]))) ∧ Below w.heap.size w w' := by
  obtain ⟨i1, ki, kz0, kz1, kz2⟩ := info_parts Tryz.infoU8
  have hn : n ≤ 1048576 := by have := hR.many; omega
  have hjl : ∀ j, j < m → (js j).length ≤ 8 := fun j hj' => by obtain ⟨i, hi, _, e⟩ := hj j hj'; rw [← e]; exact (hR.len i hi).2
  have HJL := hide (joinTo_length hjl)
  have HA := hide h
  have HR := hide h2
  have HRt := hide hR
  have HJ := hide hj
  have HN := hide hno
  have hcap0 : (0 : Nat) ≤ n := Nat.zero_le _
  clear h h2 hR hj hno hjl
  go_enter Tryz.func86, Tryz.ntmps86
  go_wp2
  go_loopw [6, 7, 8] (fun v i _ wr => ∃ j : Nat, j ≤ m ∧ i = .int .i64 j ∧ wr.ownsRow w.heap.size 5 1 v (joinTo js j).length ((joinTo js j).map (Value.int .u8)) ∧ Below w.heap.size w wr) (fun _ i _ _ => zs.length - (intOf i).toNat)
  case atStart => exact ⟨0, Nat.zero_le _, rfl, World.ownsRow_made w #[] 0 (Nat.le_refl _) (Nat.zero_le _) rfl, below_alloc _ _⟩
  case round =>
    obtain ⟨j, hjm, rfl, hown, hbel⟩ := hrel
    obtain ⟨av, cv, rfl⟩ := ownsRow_shape hown
    by_cases hlt : j < zs.length
    · obtain ⟨b, off, rfl, hb1, hc⟩ := HR.out (by intro e; simp [e] at hlt)
      have hc1 := (hbel.cell (p := ⟨b, off + j, none⟩) hb1).trans (hc j hlt)
      have hsz := hbel.size
      by_cases hjlt : j < m
      · obtain ⟨i, hi, hd, hp⟩ := HJ.out j hjlt
        have hlen := HJL.out j (by omega)
        have hlx := HRt.out.len i hi
        have hfi := HRt.out.first hi
        have HS := hide (joinTo_succ js j)
        generalize hz : zs.getD j 0 = z at hc1 hd
        obtain ⟨b2, o2, A2, C2, rfl, hb2, hc2⟩ := (HA.out.below hbel) (by omega)
        obtain ⟨_, e1, r1⟩ := hc2 i hi
        have hyes := l2At_yes (some ⟨b2, o2, none⟩) c n i z D P wr (HA.out.below hbel) hn hi hd (by rw [hd] at hfi; exact hfi)
        generalize A2 i = a1 at e1 r1
        generalize C2 i = d1 at e1
        rw [hp] at e1 r1 hlx
        generalize js j = xs at *
        generalize joinTo js j = ys at *
        obtain ⟨b3, o3, rfl, hb3, hc3⟩ := r1 (by intro e; subst e; simp at hlx)
        have HO := hide hown
        have HW := hide hbel
        have HC3 := hide hc3
        have HY := hide hyes
        have hi0 : ¬ (i : Int) < 0 := by omega
        have hm1 : ys.length + xs.length ≤ maxLen := by unfold maxLen; omega
        have hm2 : (ys.length + xs.length) * 1 ≤ 140737488355328 := by omega
        clear hc hc2 hc3 r1 hd hp hfi hyes hown hbel hz
        go_wp2_with (first | (go_at_call 88; refine HY.out.mono ?_; rintro e w1 ⟨rfl, rfl⟩) | (at_builtin; refine wpList_append_ints rfl (.tmp 24) (.tmp 29) 22 rfl w.heap.size 5 i1 .u8 1 Tryz.underlying22 ki kz0 kz1 kz2 _ _ ys rfl HO.out b3 o3 _ d1 xs rfl rfl HC3.out hm1 hm2 hsz ?_; intro v' w2 hown2 hkept; have O2 := hide hown2; have K2 := hide hkept; clear hown2 hkept) | fail)
        go_roundw
        case rel => exact ⟨j + 1, by omega, by go_num, by rw [HS.out, List.length_append]; exact O2.out, HW.out.trans (K2.out.below hsz (fun k hk hS => by have := (HO.out.lt _ hS).1; omega))⟩
        case measure => simp [intOf]; omega
      · have hje : j = m := by omega
        subst hje
        have hnn := HN.out hlt
        generalize zs.getD j 0 = z at hc1 hnn
        have HY := hide (l2At_no a c n z D P wr (HA.out.below hbel) hn hnn)
        have HW := hide hbel
        clear hc hown hbel hnn
        go_wp2_with (first | (go_at_call 88; refine HY.out.mono ?_; rintro e w1 ⟨rfl, rfl⟩) | fail)
        exact bodyPost_ret (v := .tuple #[.slice none 0 0, .bool false]) (by simp [results, Tryz.results86, go_sem]) rfl ⟨.inr ⟨hlt, rfl⟩, HW.out⟩
    · have hje : j = m := by omega
      subst hje
      go_wp2
      exact bodyPost_ret (v := .tuple #[.slice av (joinTo js j).length cv, .bool true]) (by simp [results, Tryz.results86, go_sem]) rfl ⟨.inl ⟨by omega, _, rfl, hown⟩, hbel⟩

set_option maxRecDepth 100000 in
set_option maxHeartbeats 800000 in
theorem specJoin_ok (a : Option Addr) (c n : Nat) (D : Nat → Int) (P : Nat → List Int) (a2 : Option Addr) (c2 : Nat) (zs : List Int) (w : World) (h : RdC w a D P n) (hn : n ≤ 1048576) (hP : ∀ i, i < n → U8 (P i) ∧ (P i).length ≤ 1048576) (h2 : Reads .i64 w a2 zs) (hl : zs.length ≤ 1048576) (hF : both (fault D P n) zs = 0)
    (m : Nat) (hm : m ≤ zs.length) (js : Nat → List Int) (hj : ∀ j, j < m → ∃ i, i < n ∧ D i = zs.getD j 0 ∧ P i = js j) (hno : m < zs.length → ∀ i, i < n → D i ≠ zs.getD m 0) :
    Calls Tryz.prog 36 #[.slice a n c, .slice a2 zs.length c2] w (ResB (if m = zs.length then 0 else 8) (if m = zs.length then joinTo js m else []) w) := by
  obtain ⟨q, hq⟩ : ∃ q, q = if m = zs.length then (0 : Int) else 8 := ⟨_, rfl⟩
  obtain ⟨r, hr⟩ : ∃ r, r = if m = zs.length then joinTo js m else [] := ⟨_, rfl⟩
  rw [← hq, ← hr]
  have HQ := hide (And.intro hq hr)
  clear hq hr
  have hfl := l2Both_any a c n D P a2 c2 zs (w.alloc (.cells #[.int .i64 0, .slice none 0 0] 29)) (h.below (below_alloc _ _)) hn hP (h2.below (below_alloc _ _)) hl
  rw [hF] at hfl
  have hl3 := (asked_zero (both_zero hF).2).1
  have HRt := hide (fault_zero (both_zero hF).1)
  have HC := hide hfl
  have HA := hide h
  have HR := hide h2
  have HJ := hide hj
  have HN := hide hno
  clear h hP hF h2 hfl hj hno
  go_enter Tryz.func36, Tryz.ntmps36
  go_wp2_with fail
  refine HC.out.mono ?_
  rintro e w1 ⟨rfl, b1⟩
  have X1 := hide ((Box.new w (.int .i64 0) (.slice none 0 0) 29).below b1)
  have hs1 : w.heap.size < w1.heap.size := by have := b1.size; simp at this; omega
  have B1 := hide (below_next (below_alloc w (.cells #[.int .i64 0, .slice none 0 0] 29)) b1)
  clear b1 HC
  go_wp2_with fail
  refine (l2Join_any a c n D P a2 c2 zs w1 (HA.out.below B1.out) HRt.out (HR.out.below B1.out) hl3 m hm js HJ.out HN.out).mono ?_
  rintro e w2 ⟨⟨hme, v, rfl, hown⟩ | ⟨hme, rfl⟩, b2⟩
  · obtain ⟨av, cv, rfl⟩ := ownsRow_shape hown
    obtain ⟨hq, hr⟩ := HQ.out
    rw [if_pos hme] at hq hr
    generalize joinTo js m = ms at *
    subst hq hr
    have HO := hide hown
    obtain ⟨⟨q0, q1⟩, q2, q3⟩ := X1.out.below b2
    have B2 := hide (below_next B1.out b2)
    clear hown b2 X1
    go_wp2_with fail
    refine bodyPost_ret (v := .agg #[.int .i64 0, .slice av r.length cv]) (by simp [results, Tryz.results36, go_sem, q0, q1]) rfl ⟨_, _, rfl, ?_, (B2.out.setCell (Nat.le_refl _) _).setCell (Nat.le_refl _) _⟩
    exact GB.mk (ownsRow_mono (ownsRow_kept (S := fun b => b = w.heap.size) HO.out (Kept.two _ _ _ _ _ _) (fun b hb e => by have := (HO.out.lt b hb).1; omega)) (by omega)) rfl
  · have hme' : ¬ m = zs.length := by omega
    obtain ⟨hq, hr⟩ := HQ.out
    rw [if_neg hme'] at hq hr
    subst hq hr
    obtain ⟨⟨q0, q1⟩, q2, q3⟩ := X1.out.below b2
    have B2 := hide (below_next B1.out b2)
    clear b2 X1
    go_wp2_with fail
    exact bodyPost_ret (v := .agg #[.int .i64 8, .slice none 0 0]) (by simp [results, Tryz.results36, go_sem, q0, q1]) rfl (ResB.no ((B2.out.setCell (Nat.le_refl _) _).setCell (Nat.le_refl _) _))


end Go.Proofs.YtejipahfodhmjaaGreat

namespace Go.Proofs.YtejipahfodhmjaaGreat
set_option linter.unusedVariables false

def lacF (ls : List (List En)) (D : Nat → Int) (P : Nat → List Int) (n : Nat) : Int := if layersP ls = 0 then fault D P n else layersP ls
theorem lac_zero {ls : List (List En)} {D : Nat → Int} {P : Nat → List Int} {n : Nat} : lacF ls D P n = 0 ↔ layersP ls = 0 ∧ fault D P n = 0 := by
  unfold lacF
  by_cases h : layersP ls = 0
  · simp [h]
  · rw [if_neg h]; simp [h]

structure NmS (ls : List (List En)) (k j : Nat) (ns : List Bs) : Prop where
  rise : RiseS ns
  path : ∀ x ∈ ns, faultP x = 0 ∧ x.length ≤ 1048576
  says : ∀ x, x ∈ ns ↔ (seenL ls x).isSome = true ∧ ((∃ es ∈ ls.take k, ∃ e ∈ es, e.path = x) ∨ ∃ es, ls[k]? = some es ∧ ∃ e ∈ es.take j, e.path = x)
theorem NmS.start (ls : List (List En)) : NmS ls 0 0 [] := ⟨List.Pairwise.nil, by simp, by simp⟩
theorem NmS.next {ls : List (List En)} {k : Nat} {es : List En} {ns : List Bs} (h : NmS ls k es.length ns) (he : ls[k]? = some es) : NmS ls (k + 1) 0 ns := by
  refine ⟨h.rise, h.path, fun x => ?_⟩
  have ht : ls.take (k + 1) = ls.take k ++ [es] := by rw [List.take_add_one, he]; rfl
  rw [h.says, ht]
  refine and_congr_right fun _ => ?_
  constructor
  · rintro (⟨fs, hf, e, h1, h2⟩ | ⟨fs, hf, e, h1, h2⟩)
    · exact .inl ⟨fs, List.mem_append_left _ hf, e, h1, h2⟩
    · rw [he] at hf
      cases hf
      exact .inl ⟨es, by simp, e, by simpa using h1, h2⟩
  · rintro (⟨fs, hf, e, h1, h2⟩ | ⟨fs, hf, e, h1, h2⟩)
    · rcases List.mem_append.1 hf with hf | hf
      · exact .inl ⟨fs, hf, e, h1, h2⟩
      · have : fs = es := by simpa using hf
        subst this
        exact .inr ⟨fs, he, e, by simpa using h1, h2⟩
    · simp at h1
theorem NmS.step {ls : List (List En)} {k j : Nat} {es : List En} {e : En} (he : ls[k]? = some es) (hj : es[j]? = some e) (x : Bs) : (∃ fs, ls[k]? = some fs ∧ ∃ f ∈ fs.take (j + 1), f.path = x) ↔ (∃ fs, ls[k]? = some fs ∧ ∃ f ∈ fs.take j, f.path = x) ∨ x = e.path := by
  constructor
  · rintro ⟨fs, hf, f, h1, h2⟩
    rw [he] at hf
    cases hf
    rw [List.take_add_one, hj] at h1
    rcases List.mem_append.1 h1 with h1 | h1
    · exact .inl ⟨es, he, f, h1, h2⟩
    · have : f = e := by simpa using h1
      subst this
      exact .inr h2.symm
  · rintro (⟨fs, hf, f, h1, h2⟩ | rfl)
    · rw [he] at hf
      cases hf
      exact ⟨es, he, f, by rw [List.take_add_one]; exact List.mem_append_left _ h1, h2⟩
    · exact ⟨es, he, e, by rw [List.take_add_one, hj]; simp, rfl⟩
theorem NmS.skip {ls : List (List En)} {k j : Nat} {es : List En} {e : En} {ns : List Bs} (h : NmS ls k j ns) (he : ls[k]? = some es) (hj : es[j]? = some e) (hs : seenL ls e.path = none ∨ e.path ∈ ns) : NmS ls k (j + 1) ns := by
  refine ⟨h.rise, h.path, fun x => ?_⟩
  rw [NmS.step he hj, h.says]
  constructor
  · rintro ⟨h1, h2 | h2⟩
    · exact ⟨h1, .inl h2⟩
    · exact ⟨h1, .inr (.inl h2)⟩
  · rintro ⟨h1, h2 | h2 | h2⟩
    · exact ⟨h1, .inl h2⟩
    · exact ⟨h1, .inr h2⟩
    · subst h2
      rcases hs with hs | hs
      · rw [hs] at h1; cases h1
      · exact (h.says _).1 hs
theorem NmS.put {ls : List (List En)} {k j q : Nat} {es : List En} {e : En} {ns : List Bs} (h : NmS ls k j ns) (he : ls[k]? = some es) (hj : es[j]? = some e) (hs : seenL ls e.path = some q) (hn : e.path ∉ ns) (hp : faultP e.path = 0) (hl : e.path.length ≤ 1048576) : NmS ls k (j + 1) (putS ns e.path) := by
  refine ⟨riseS_put h.rise hn, fun x hx => ?_, fun x => ?_⟩
  · rcases mem_putS.1 hx with rfl | hx
    · exact ⟨hp, hl⟩
    · exact h.path x hx
  · rw [mem_putS, NmS.step he hj, h.says]
    constructor
    · rintro (rfl | ⟨h1, h2 | h2⟩)
      · exact ⟨by rw [hs]; rfl, .inr (.inr rfl)⟩
      · exact ⟨h1, .inl h2⟩
      · exact ⟨h1, .inr (.inl h2)⟩
    · rintro ⟨h1, h2 | h2 | h2⟩
      · exact .inr ⟨h1, .inl h2⟩
      · exact .inr ⟨h1, .inr h2⟩
      · exact .inl h2
theorem rise_paths {es : List En} (h : Rise es) : RiseS (es.map En.path) := by
  unfold RiseS
  rw [List.pairwise_map]
  exact h
theorem NmS.all {ls : List (List En)} {ns : List Bs} (h : NmS ls ls.length 0 ns) (hR : ∀ es ∈ ls, Right es) (h4 : ls.length ≤ 4) : ns = (allE ls).map En.path := by
  have hF := rights_fit hR
  have hA := all_fit hF
  refine riseS_ext h.rise (rise_paths hA.fit.rise) fun x => ?_
  constructor
  · intro hx
    obtain ⟨h1, h2⟩ := (h.says x).1 hx
    have hp := (h.path x hx).1
    obtain ⟨k, hk⟩ := Option.isSome_iff_exists.1 h1
    have hs := hk
    unfold seenL at hs
    obtain ⟨-, e, he, -⟩ := seen_some hs
    have hf : findE (allE ls) x = some (asT e) := by
      rw [all_find hF h4 hp]
      simp [sawE, hk, he]
    obtain ⟨hm, hpx⟩ := find_mem hf
    exact List.mem_map.2 ⟨_, hm, hpx⟩
  · intro hx
    obtain ⟨e, he, rfl⟩ := List.mem_map.1 hx
    have hp := hA.fit.path he
    have hf := rise_find hA.fit.rise he
    rw [all_find hF h4 hp] at hf
    unfold sawE at hf
    cases hk : seenL ls e.path with
    | none => rw [hk] at hf; cases hf
    | some k =>
      rw [hk] at hf
      cases hs : seeL ls k e.path with
      | none => simp [hs] at hf
      | some f =>
        obtain ⟨es, h1, h2, h3⟩ := seeL_mem hs
        refine (h.says _).2 ⟨by rw [hk]; rfl, .inl ⟨es, by rw [List.take_length]; exact h1, f, h2, h3⟩⟩

def partD (D : Nat → Int) (P : Nat → List Int) : Nat → Int → Option (List Int)
  | 0, _ => none
  | n + 1, z => if D n = z then some (P n) else partD D P n z
theorem partD_none {D : Nat → Int} {P : Nat → List Int} {z : Int} : ∀ {n : Nat}, partD D P n z = none ↔ ∀ i, i < n → D i ≠ z
  | 0 => by simp [partD]
  | n + 1 => by
    unfold partD
    by_cases h : D n = z
    · rw [if_pos h]
      constructor
      · intro h2; cases h2
      · intro h2; exact absurd h (h2 n (by omega))
    · rw [if_neg h, partD_none]
      constructor
      · intro h2 i hi
        by_cases e : i = n
        · subst e; exact h
        · exact h2 i (by omega)
      · intro h2 i hi; exact h2 i (by omega)
theorem partD_some {D : Nat → Int} {P : Nat → List Int} {z : Int} {x : List Int} : ∀ {n : Nat}, partD D P n z = some x → ∃ i, i < n ∧ D i = z ∧ P i = x
  | 0, h => by cases h
  | n + 1, h => by
    unfold partD at h
    by_cases e : D n = z
    · rw [if_pos e] at h
      exact ⟨n, by omega, e, Option.some.inj h⟩
    · rw [if_neg e] at h
      obtain ⟨i, h1, h2⟩ := partD_some h
      exact ⟨i, by omega, h2⟩
theorem partD_at {D : Nat → Int} {P : Nat → List Int} {n i : Nat} (hR : RightC D P n) (hi : i < n) : partD D P n (D i) = some (P i) := by
  cases h : partD D P n (D i) with
  | none => exact absurd rfl (partD_none.1 h i hi)
  | some x =>
    obtain ⟨j, hj, h1, h2⟩ := partD_some h
    have : j = i := by
      rcases Nat.lt_trichotomy j i with h3 | h3 | h3
      · exact absurd h1 (hR.first hi j h3)
      · exact h3
      · exact absurd h1.symm (hR.first hj i h3)
    subst this
    rw [h2]
def joinD (D : Nat → Int) (P : Nat → List Int) (n : Nat) : List Int → Option (List Int)
  | [] => some []
  | z :: r => (partD D P n z).bind fun x => (joinD D P n r).map (x ++ ·)
theorem joinTo_cons (js : Nat → List Int) (k : Nat) : joinTo js (k + 1) = js 0 ++ joinTo (fun j => js (j + 1)) k := by
  unfold joinTo
  rw [List.range_succ_eq_map, List.flatMap_cons, List.flatMap_map]
theorem join_cases (D : Nat → Int) (P : Nat → List Int) (n : Nat) : ∀ zs : List Int, ∃ (m : Nat) (js : Nat → List Int), m ≤ zs.length ∧ (∀ j, j < m → ∃ i, i < n ∧ D i = zs.getD j 0 ∧ P i = js j) ∧ (m < zs.length → ∀ i, i < n → D i ≠ zs.getD m 0) ∧ joinD D P n zs = if m = zs.length then some (joinTo js m) else none
  | [] => ⟨0, fun _ => [], Nat.le_refl _, fun j hj => absurd hj (by omega), fun h => absurd h (by simp), by simp [joinD, joinTo]⟩
  | z :: r => by
    obtain ⟨m, js, h1, h2, h3, h4⟩ := join_cases D P n r
    cases hp : partD D P n z with
    | none => exact ⟨0, fun _ => [], Nat.zero_le _, fun j hj => absurd hj (by omega), fun _ => by simpa using partD_none.1 hp, by simp [joinD, hp]⟩
    | some x =>
      refine ⟨m + 1, fun j => if j = 0 then x else js (j - 1), by simp; omega, fun j hj => ?_, fun h i hi => ?_, ?_⟩
      · cases j with
        | zero =>
          obtain ⟨i, a1, a2, a3⟩ := partD_some hp
          exact ⟨i, a1, by simpa using a2, by simpa using a3⟩
        | succ j =>
          obtain ⟨i, a1, a2, a3⟩ := h2 j (by omega)
          exact ⟨i, a1, by simpa using a2, by simpa using a3⟩
      · have := h3 (by simpa using h) i hi
        simpa using this
      · rw [joinTo_cons]
        simp only [joinD, hp, Option.bind_some, h4, if_true, List.length_cons, Nat.add_right_cancel_iff]
        by_cases hm : m = r.length
        · rw [if_pos hm, if_pos hm]; simp
        · rw [if_neg hm, if_neg hm]; rfl
end Go.Proofs.YtejipahfodhmjaaGreat

namespace Go.Proofs.YtejipahfodhmjaaGreat
open Go.RowKit Go.Maps
set_option linter.unusedVariables false
attribute [local go_sem ↓] Go.wp_at_zero Go.wp_at_succ

set_option maxRecDepth 100000 in
set_option maxHeartbeats 6400000 in
theorem specPathsOver_any (a : Option Addr) (c n : Nat) (ls : List (List En)) (w : World) (h : RdL w a ls) (hn : n = ls.length) (hl : ls.length ≤ 1048576) (hs : SmallL ls) (hg : ∀ es ∈ ls, layFault es = layFaultP es) :
    Calls Tryz.prog 23 #[.slice a n c] w (ResN (layersP ls) (pthL ls) w) := by
  subst hn
  have X0 := hide (Box.new w (.int .i64 0) (.slice none 0 0) 52)
  have B0 := hide (below_alloc w (.cells #[.int .i64 0, .slice none 0 0] 52))
  have HLF := hide (specLayersFault_any a c ls.length ls _ (h.below B0.out) rfl hl hs hg)
  have HR := hide h
  clear h hs hg
  by_cases hz : layersP ls = 0
  · obtain ⟨h4, hRs⟩ := layersP_zero.1 hz
    rw [hz] at HLF ⊢
    have HRi := hide hRs
    have HPT := hide (show pthL ls = (allE ls).map En.path from by rw [pthL, if_pos hz])
    clear hz hRs
    go_enter Tryz.func23, Tryz.ntmps23
    go_wp2_with fail
    refine HLF.out.mono ?_
    rintro r w1 ⟨rfl, hb1⟩
    have B1 := hide (below_next B0.out hb1)
    have X1 := hide (X0.out.below hb1)
    have BB := hide (below_next B1.out (below_alloc w1 (.cells #[.int .i64 0, .slice none 0 0] 52)))
    have XO := hide (Box.new w1 (.int .i64 0) (.slice none 0 0) 52)
    have X2 := hide (X1.out.below (below_alloc w1 (.cells #[.int .i64 0, .slice none 0 0] 52)))
    have hlt1 : w.heap.size < w1.heap.size := X1.out.1.lt
    have hsz2 : (w1.alloc (.cells #[.int .i64 0, .slice none 0 0] 52)).heap.size = w1.heap.size + 1 := by simp
    clear hb1 X0 B0 HLF B1 X1
    obtain ⟨⟨t0, t1⟩, t2, t3⟩ := XO.out
    go_wp2_with fail
    clear t0 t1 t2 t3
    generalize w1.alloc (.cells #[.int .i64 0, .slice none 0 0] 52) = W2 at *
    generalize w1.heap.size = bO at *
    go_loopw [5] (fun i wr => ∃ (k m : Nat) (av : Option Addr) (cv : Nat) (ns : List Bs), k ≤ ls.length ∧ i = .int .i64 k ∧ ns.length ≤ m ∧ m ≤ 12 * k ∧ Hid (Box wr bO (.int .i64 0) (.slice av ns.length cv)) ∧ Hid (OwnS (bO + 1) wr (.slice av ns.length cv) ns) ∧ Hid (NmS ls k 0 ns) ∧ Hid (Below w.heap.size w wr) ∧ Hid (Box wr w.heap.size (.int .i64 0) (.slice none 0 0)) ∧ bO < wr.heap.size) (fun i _ => ls.length - (intOf i).toNat)
    case atStart => exact ⟨0, 0, none, 0, [], Nat.zero_le _, rfl, Nat.zero_le _, Nat.zero_le _, XO, hide (OwnS.nil _ _), hide (NmS.start ls), BB, X2, by omega⟩
    case round =>
      obtain ⟨k, m, av, cv, ns, hk, rfl, hnm, hm, HX, HO, HN, HW, HZ, hbw⟩ := hrel
      by_cases hlt : k < ls.length
      · obtain ⟨b, off, es, x, cc, rfl, hb, he, c0, hr⟩ := HR.out.at hlt
        have hRi := HRi.out es (List.mem_of_getElem? he)
        have hel := hRi.len
        have HRE := hide hr
        have HLk := hide he
        have HRI := hide hRi
        have HSM := hide (right_small hRi)
        have KC : Hid (∀ w', Below w.heap.size w w' → w'.cell? ⟨b, off + k, none⟩ = some (.slice x es.length cc)) := hide (fun w' hb' => (hb'.cell (p := ⟨b, off + k, none⟩) hb).trans c0)
        have hk0 : (0 : Int) ≤ (k : Int) := by omega
        have hk1 : (k : Int) < (ls.length : Int) := by omega
        clear hr hRi he c0
        go_wp2_with fail
        go_loopw [6] (fun i wx => ∃ (j m : Nat) (av : Option Addr) (cv : Nat) (ns : List Bs), j ≤ es.length ∧ i = .int .i64 j ∧ ns.length ≤ m ∧ m ≤ 12 * k + j ∧ Hid (Box wx bO (.int .i64 0) (.slice av ns.length cv)) ∧ Hid (OwnS (bO + 1) wx (.slice av ns.length cv) ns) ∧ Hid (NmS ls k j ns) ∧ Hid (Below w.heap.size w wx) ∧ Hid (Box wx w.heap.size (.int .i64 0) (.slice none 0 0)) ∧ bO < wx.heap.size) (fun i _ => es.length - (intOf i).toNat)
        case atStart => exact ⟨0, m, av, cv, ns, Nat.zero_le _, rfl, hnm, by omega, HX, HO, HN, HW, HZ, hbw⟩
        case round =>
          clear HX HO HN HW HZ hbw hnm hm
          obtain ⟨j, m, av, cv, ns, hj, rfl, hnm, hm, HX, HO, HN, HW, HZ, hbw⟩ := hrel
          have c0 := KC.out _ HW.out
          by_cases hlt2 : j < es.length
          · obtain ⟨bb, off2, e, y, yc, hxe, hbb, he, z0, z1, z2, z3, hrc⟩ := HRE.out.at hlt2
            subst hxe
            have hpf := entFault_zero (HRI.out.ent e (List.mem_of_getElem? he))
            have hsm := HSM.out e (List.mem_of_getElem? he)
            have KE : Hid (∀ w', Below w.heap.size w w' → w'.cell? ⟨bb, off2 + j * 4, none⟩ = some (.string (str e.path))) := hide (fun w' hb' => (hb'.cell (p := ⟨bb, off2 + j * 4, none⟩) hbb).trans z0)
            have e0 := KE.out _ HW.out
            have HPL := hide (l8Place_any (some ⟨b, off, none⟩) c ls.length ls e.path wr (HR.out.below HW.out) rfl h4 HRi.out hpf hsm.1)
            have hj0 : (0 : Int) ≤ (j : Int) := by omega
            have hj1 : (j : Int) < (es.length : Int) := by omega
            have HPF := hide hpf
            have HEj := hide he
            clear he hrc z0 z1 z2 z3 hpf
            obtain ⟨LN, hLN⟩ : ∃ LN, LN = ns.length := ⟨_, rfl⟩
            rw [← hLN] at HX HO hnm
            have HLN := hide hLN
            clear hLN
            cases hsn : seenL ls e.path with
            | none =>
              rw [hsn, show placeI none = -1 from rfl] at HPL
              have HN2 := hide (HN.out.skip HLk.out HEj.out (.inl hsn))
              clear hsn
              go_wp2_with fail
              refine HPL.out.mono ?_
              rintro r w3 ⟨rfl, hb3⟩
              have HX3 := hide (HX.out.below hb3)
              have HO3 := hide (HO.out.below hb3)
              have HW3 := hide (below_next HW.out hb3)
              have HZ3 := hide (HZ.out.below hb3)
              have hb3s := hb3.size
              clear hb3 HX HO HW HZ HPL c0 e0
              go_wp2_with fail
              go_roundw
              case rel =>
                have e9 := HLN.out
                subst e9
                exact ⟨j + 1, m, av, cv, ns, by omega, by go_num, hnm, by omega, HX3, HO3, HN2, HW3, HZ3, by omega⟩
              case measure => simp [intOf]; omega
            | some q =>
              rw [hsn, show placeI (some q) = (q : Int) from rfl] at HPL
              have HSN := hide hsn
              clear hsn
              have hq0 : (0 : Int) ≤ (q : Int) := by omega
              go_wp2_with fail
              refine HPL.out.mono ?_
              rintro r w3 ⟨rfl, hb3⟩
              have HX3 := hide (HX.out.below hb3)
              have HO3 := hide (HO.out.below hb3)
              have HW3 := hide (below_next HW.out hb3)
              have HZ3 := hide (HZ.out.below hb3)
              have hb3s := hb3.size
              clear hb3 HX HO HW HZ HPL c0 e0
              have HIN := hide (l8In_any av cv LN ns e.path w3 HO3.out.reads HLN.out (by rw [← HLN.out]; omega))
              obtain ⟨⟨t0, t1⟩, t2, t3⟩ := HX3.out
              by_cases hmm : e.path ∈ ns
              · rw [decide_eq_true hmm] at HIN
                have HN2 := hide (HN.out.skip HLk.out HEj.out (.inr hmm))
                clear hmm
                go_wp2_with fail
                refine HIN.out.mono ?_
                rintro r w4 ⟨rfl, hw4⟩
                have hw5 := hw4.symm
                clear hw4
                subst hw5
                go_wp2_with fail
                go_roundw
                case rel =>
                  have e9 := HLN.out
                  subst e9
                  exact ⟨j + 1, m, av, cv, ns, by omega, by go_num, hnm, by omega, HX3, HO3, HN2, HW3, HZ3, by omega⟩
                case measure => simp [intOf]; omega
              · rw [decide_eq_false hmm] at HIN
                have HPN := hide (HN.out.put HLk.out HEj.out HSN.out hmm HPF.out hsm.1)
                clear hmm
                have HPU := hide (l8Put_any av cv LN ns e.path w3 HO3.out HLN.out (by rw [← HLN.out]; omega))
                go_wp2_with fail
                refine HIN.out.mono ?_
                rintro r w4 ⟨rfl, hw4⟩
                have hw5 := hw4.symm
                clear hw4
                subst hw5
                go_wp2_with fail
                refine HPU.out.mono ?_
                rintro r w6 ⟨av6, cv6, rfl, hO6, hb6⟩
                have HX6 := hide (HX3.out.below hb6)
                have HW6 := hide (below_next HW3.out hb6)
                have HZ6 := hide (HZ3.out.below hb6)
                have O6 := hide hO6
                have HL6 := hide (putS_len ns e.path)
                have hb6s := hb6.size
                clear hO6 hb6 t0 t1 t2 t3
                obtain ⟨⟨t0, t1⟩, t2, t3⟩ := HX6.out
                generalize putS ns e.path = ns6 at *
                clear HPU HIN
                go_wp2_with fail
                go_roundw
                case rel =>
                  have e9 := HLN.out
                  have e8 := HL6.out
                  refine ⟨j + 1, m + 1, av6, cv6, ns6, by omega, by go_num, by omega, by omega, hide ?_, hide ?_, HPN, hide ?_, hide ?_, by simp [World.setCell]; omega⟩
                  · exact box_set1 HX6.out _
                  · exact (O6.out.mono (by omega)).kept (Kept.setCell (S := fun b => b = bO) (p := ⟨bO, 1, none⟩) (Kept.refl _ w6) (fun _ => rfl) _) (fun g hg hS => by have := (O6.out.lt g hg).1; omega)
                  · exact HW6.out.setCell (p := ⟨bO, 1, none⟩) (by show w.heap.size ≤ bO; omega) _
                  · exact HZ6.out.kept (Kept.setCell (S := fun b => b = bO) (p := ⟨bO, 1, none⟩) (Kept.refl _ w6) (fun _ => rfl) _) (by omega)
                case measure => simp [intOf]; omega
          · go_wp2_with fail
            go_roundw
            case rel =>
              have hje : j = es.length := by omega
              subst hje
              exact ⟨k + 1, m, av, cv, ns, by omega, by go_num, hnm, by omega, HX, HO, hide (HN.out.next HLk.out), HW, HZ, hbw⟩
            case measure => simp [intOf]; omega
      · obtain ⟨⟨t0, t1⟩, t2, t3⟩ := HX.out
        obtain ⟨⟨r0, r1⟩, r2, r3⟩ := HZ.out
        have hne : bO ≠ w.heap.size := by omega
        have hke : k = ls.length := by omega
        have HNE := hide (show ns = pthL ls from by rw [HPT.out]; exact NmS.all (by rw [← hke]; exact HN.out) HRi.out h4)
        have hown := HO.out
        have HOL := hide (fun g hg => (hown.lt g hg).1)
        clear hown hke
        go_wp2_with fail
        refine bodyPost_ret (v := .agg #[.int .i64 0, .slice av ns.length cv]) (by simp [results, Tryz.results23, go_sem, r0, r1]) rfl ?_
        rw [← HNE.out]
        refine ⟨av, cv, rfl, ?_, ?_⟩
        · exact (HO.out.kept (Kept.two wr w.heap.size 0 1 _ _) (fun g hg hS => by have := HOL.out g hg; omega)).mono (by omega)
        · exact (HW.out.setCell (p := ⟨w.heap.size, 0, none⟩) (Nat.le_refl _) _).setCell (p := ⟨w.heap.size, 1, none⟩) (Nat.le_refl _) _
  · have HCC := hide (show pthL ls = [] from by rw [pthL, if_neg hz])
    generalize layersP ls = F at *
    have hz2 : (F != 0) = true := by simp; exact hz
    clear hz
    go_enter Tryz.func23, Tryz.ntmps23
    go_wp2_with fail
    refine HLF.out.mono ?_
    rintro r w1 ⟨rfl, hb1⟩
    have B1 := hide (below_next B0.out hb1)
    obtain ⟨⟨t0, t1⟩, t2, t3⟩ := X0.out.below hb1
    clear hb1
    go_wp2_with fail
    exact bodyPost_ret (v := .agg #[.int .i64 F, .slice none 0 0]) (by simp [results, Tryz.results23, go_sem, t0, t1]) rfl (by rw [HCC.out]; exact ResN.bad (Nat.le_refl _) B1.out)
end Go.Proofs.YtejipahfodhmjaaGreat

namespace Go.Proofs.YtejipahfodhmjaaGreat
open Go.RowKit
set_option linter.unusedVariables false

theorem getD_mem {α : Type} {l : List α} {i : Nat} (x : α) (h : i < l.length) : l.getD i x ∈ l := by
  rw [List.getD_eq_getElem?_getD, List.getElem?_eq_getElem h]; exact List.getElem_mem h
end Go.Proofs.YtejipahfodhmjaaGreat

namespace Go.Proofs.YtejipahfodhmjaaGreat
open Go.RowKit Go.Maps
set_option linter.unusedVariables false
attribute [local go_sem ↓] Go.wp_at_zero Go.wp_at_succ

set_option maxRecDepth 100000 in
set_option maxHeartbeats 800000 in
theorem lacFault_any (a : Option Addr) (c m : Nat) (ls : List (List En)) (b : Option Addr) (d n : Nat) (D : Nat → Int) (P : Nat → List Int) (w : World) (h : RdL w a ls) (hm : m = ls.length) (hl : ls.length ≤ 1048576) (hs : SmallL ls) (hC : RdC w b D P n) (hn : n ≤ 1048576) (hP : ∀ i, i < n → U8 (P i) ∧ (P i).length ≤ 1048576) :
    Calls Tryz.prog 54 #[.slice a m c, .slice b n d] w fun e w' => e = .returned (.int .i64 (lacF ls D P n)) ∧ Below w.heap.size w w' := by
  subst hm
  have HLF := hide (implLayersFault_any a c ls.length ls w h rfl hl hs)
  have HCF := hide (fun (u : World) (hu : Below w.heap.size w u) => implFault_any b d n D P u (hC.below hu) hn hP)
  unfold lacF
  clear h hC hP hs
  by_cases hz : layersP ls = 0
  · rw [hz] at HLF
    rw [if_pos hz]
    generalize fault D P n = F at *
    clear hz
    go_enter Tryz.func54, Tryz.ntmps54
    go_wp2_with fail
    refine HLF.out.mono ?_
    rintro r w1 ⟨rfl, hb1⟩
    have B1 := hide hb1
    clear hb1
    go_wp2_with fail
    refine (HCF.out _ B1.out).mono ?_
    rintro r w2 ⟨rfl, hb2⟩
    have B2 := hide (below_next B1.out hb2)
    clear hb2
    go_wp2_with fail
    go_ret
    exact ⟨rfl, B2.out⟩
  · rw [if_neg hz]
    generalize layersP ls = F at *
    have hz2 : (F != 0) = true := by simp; exact hz
    clear hz
    go_enter Tryz.func54, Tryz.ntmps54
    go_wp2_with fail
    refine HLF.out.mono ?_
    rintro r w1 ⟨rfl, hb1⟩
    have B1 := hide hb1
    clear hb1
    go_wp2_with fail
    go_ret
    exact ⟨rfl, B1.out⟩
theorem ent_digs {e : En} (hz : entFault e = 0) : ∀ d ∈ e.chunks, 0 ≤ d ∧ d ≤ 4294967295 := by
  intro d hc
  have hall : e.chunks.all isDig = true := by
    by_cases hx : e.chunks.all isDig = true
    · exact hx
    · exfalso
      unfold entFault at hz
      rw [if_neg hx] at hz
      split at hz
      · split at hz
        · split at hz
          · split at hz
            · omega
            · omega
          · omega
        · omega
      · contradiction
  have := List.all_eq_true.1 hall d hc
  simpa [isDig] using this
theorem both_right {D : Nat → Int} {P : Nat → List Int} {n : Nat} {e : En} (hf : fault D P n = 0) (he : entFault e = 0) : both (fault D P n) e.chunks = 0 := by
  unfold both
  rw [if_pos hf]
  have h3 := entFault_chunks he
  have hd := ent_digs he
  unfold asked
  rw [if_neg (by omega)]
  refine firstBad_zero _ _ fun j _ hj => ?_
  have hm : e.chunks.getD j 0 ∈ e.chunks := getD_mem 0 (by omega)
  obtain ⟨h0, h1⟩ := hd _ hm
  exact digFault_ok rfl h0 h1
end Go.Proofs.YtejipahfodhmjaaGreat

namespace Go.Proofs.YtejipahfodhmjaaGreat
open Go.RowKit Go.Maps
set_option linter.unusedVariables false
attribute [local go_sem ↓] Go.wp_at_zero Go.wp_at_succ

theorem plc_ask {es : List (List En)} {p : Bs} (h : plcC es p = 0) : askL es p = 0 := by
  unfold plcC at h
  by_cases h0 : askL es p = 0
  · exact h0
  · rw [if_neg h0] at h; exact h
theorem lookL_one {es : List (List En)} {p : Bs} (h : plcC es p = 0) : ∃ e, findE (allE es) p = some e ∧ lookL es p = [e] := by
  obtain ⟨h1, h2⟩ := look_all (plc_ask h)
  rw [h1] at h
  cases hf : findE (allE es) p with
  | none => rw [hf] at h; simp at h
  | some e => exact ⟨e, rfl, by rw [h2, hf]; rfl⟩
end Go.Proofs.YtejipahfodhmjaaGreat

namespace Go.Proofs.YtejipahfodhmjaaGreat
open Go.RowKit Go.Maps
set_option linter.unusedVariables false
attribute [local go_sem ↓] Go.wp_at_zero Go.wp_at_succ

def GW (B : Nat) (w : World) (v : Value) (es : List En) : Prop :=
  ∃ rs : List Rw, rs.map Rw.e = es ∧ w.ownsRow B 40 4 v es.length (rowR rs) ∧ ∀ r ∈ rs, w.ownsRow B 2 1 (.slice r.a r.e.chunks.length r.c) r.e.chunks.length (r.e.chunks.map (Value.int .i64))
end Go.Proofs.YtejipahfodhmjaaGreat

namespace Go.Proofs.YtejipahfodhmjaaGreat
open Go.RowKit Go.Maps
set_option linter.unusedVariables false
attribute [local go_sem ↓] Go.wp_at_zero Go.wp_at_succ

theorem saw_some {ls : List (List En)} {p : Bs} {e : En} (h4 : ls.length ≤ 4) (hR : ∀ es ∈ ls, Right es) (hp : faultP p = 0) (h : findE (allE ls) p = some e) : ∃ i f, seenL ls p = some i ∧ seeL ls i p = some f ∧ asT f = e := by
  rw [all_find (rights_fit hR) h4 hp, sawE] at h
  cases hs : seenL ls p with
  | none => rw [hs] at h; cases h
  | some i =>
    obtain ⟨-, f, hf, -⟩ := seen_some (show seenG (seeL ls) p 4 = some i from hs)
    rw [hs] at h
    simp [hf] at h
    exact ⟨i, f, rfl, hf, h⟩
theorem l8Look_yes (a : Option Addr) (c n : Nat) (ls : List (List En)) (p : Bs) (w : World) (h : RdL w a ls) (hn : n = ls.length) (h4 : ls.length ≤ 4) (hR : ∀ es ∈ ls, Right es) (hp : faultP p = 0) (hpl : p.length ≤ 1048576) (e : En) (hs : findE (allE ls) p = some e) :
    Calls Tryz.prog 77 #[.slice a n c, .string (str p)] w (LookYes e w) := by
  obtain ⟨i, f, h1, h2, h3⟩ := saw_some h4 hR hp hs
  have := l8Look_some a c n ls p w h hn h4 hR hp hpl i f h1 h2
  rwa [h3] at this
end Go.Proofs.YtejipahfodhmjaaGreat

namespace Go.Proofs.YtejipahfodhmjaaGreat
open Go.RowKit Go.Maps
set_option linter.unusedVariables false
attribute [local go_sem ↓] Go.wp_at_zero Go.wp_at_succ

theorem all_path_len {ls : List (List En)} (hR : ∀ es ∈ ls, Right es) (hs : SmallL ls) (h4 : ls.length ≤ 4) (e : En) (he : e ∈ allE ls) : e.path.length ≤ 1048576 := by
  have hF := rights_fit hR
  have hA := all_fit hF
  have hf := rise_find hA.fit.rise he
  rw [all_find hF h4 (hA.fit.path he)] at hf
  unfold sawE at hf
  cases hk : seenL ls e.path with
  | none => rw [hk] at hf; cases hf
  | some k =>
    rw [hk] at hf
    cases hs2 : seeL ls k e.path with
    | none => simp [hs2] at hf
    | some f =>
      obtain ⟨es, h1, h2, h3⟩ := seeL_mem hs2
      have := ((hs es h1).2 f h2).1
      rwa [h3] at this
set_option maxRecDepth 100000 in
set_option maxHeartbeats 800000 in
theorem l11Asked_ok (a : Option Addr) (c m : Nat) (ls : List (List En)) (b : Option Addr) (d n : Nat) (D : Nat → Int) (P : Nat → List Int) (w : World) (h : RdL w a ls) (hm : m = ls.length) (hl : ls.length ≤ 1048576) (hs : SmallL ls) (hg : ∀ es ∈ ls, layFault es = layFaultP es) (hC : RdC w b D P n) (hn : n ≤ 1048576) (hP : ∀ i, i < n → U8 (P i) ∧ (P i).length ≤ 1048576) :
    Calls Tryz.prog 58 #[.slice a m c, .slice b n d] w fun e w' => e = .returned (.int .i64 (lacF ls D P n)) ∧ Below w.heap.size w w' := by
  subst hm
  have HLF := hide (specLayersFault_any a c ls.length ls w h rfl hl hs hg)
  have HCF := hide (fun (u : World) (hu : Below w.heap.size w u) => specFault_any b d n D P u (hC.below hu) hn hP)
  unfold lacF
  clear h hC hP hs hg
  by_cases hz : layersP ls = 0
  · rw [hz] at HLF
    rw [if_pos hz]
    generalize fault D P n = F at *
    clear hz
    go_enter Tryz.func58, Tryz.ntmps58
    go_wp2_with fail
    refine HLF.out.mono ?_
    rintro r w1 ⟨rfl, hb1⟩
    have B1 := hide hb1
    clear hb1
    go_wp2_with fail
    refine (HCF.out _ B1.out).mono ?_
    rintro r w2 ⟨rfl, hb2⟩
    have B2 := hide (below_next B1.out hb2)
    clear hb2
    go_wp2_with fail
    go_ret
    exact ⟨rfl, B2.out⟩
  · rw [if_neg hz]
    generalize layersP ls = F at *
    have hz2 : (F != 0) = true := by simp; exact hz
    clear hz
    go_enter Tryz.func58, Tryz.ntmps58
    go_wp2_with fail
    refine HLF.out.mono ?_
    rintro r w1 ⟨rfl, hb1⟩
    have B1 := hide hb1
    clear hb1
    go_wp2_with fail
    go_ret
    exact ⟨rfl, B1.out⟩
end Go.Proofs.YtejipahfodhmjaaGreat

namespace Go.Proofs.YtejipahfodhmjaaGreat
open Go.RowKit Go.Maps
set_option linter.unusedVariables false
attribute [local go_sem ↓] Go.wp_at_zero Go.wp_at_succ

theorem OwnS.keptP {p B : Nat} {w w' : World} {v : Value} {ns : List Bs} (h : OwnS B w v ns) (hk : Kept (fun b => b = p) w w') (hp : p < B) : OwnS B w' v ns := h.kept hk (fun g hg e => by have := (h.lt g hg).1; omega)
def GoodLs (ls : List (List En)) : Prop := ls.length ≤ 5 ∧ SmallL ls ∧ ∀ es ∈ ls, es.length ≤ 13 ∧ layFault es = layFaultP es
theorem goodLs_of {rs : List Ly} (h5 : rs.length ≤ 5) (h : ∀ x ∈ rs, GoodH x.es ∧ x.es.length ≤ 13 ∧ SmallE x.es) : GoodLs (rs.map Ly.es) := by
  refine ⟨by rw [List.length_map]; exact h5, fun es he => ?_, fun es he => ?_⟩
  · obtain ⟨x, hx, rfl⟩ := List.mem_map.1 he
    obtain ⟨_, h2, h3⟩ := h x hx
    exact ⟨by omega, h3⟩
  · obtain ⟨x, hx, rfl⟩ := List.mem_map.1 he
    obtain ⟨h1, h2, _⟩ := h x hx
    exact ⟨h2, h1.good.symm⟩
end Go.Proofs.YtejipahfodhmjaaGreat

