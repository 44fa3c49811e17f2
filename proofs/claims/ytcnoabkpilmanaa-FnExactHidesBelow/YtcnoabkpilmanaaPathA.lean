/-
  The model's chapter 3: what is above a path, its parent, its last name, what is below.
-/
import Derived.Test.YtcnoabkpilmanaaPathS
namespace Go.Proofs.Ytcnoabkpilmanaa
open Go.RowKit
set_option linter.unusedVariables false

/-- The first m of what is above. -/
def aboveK (ns : List Bs) (m : Nat) : List Bs := (List.range m).map fun k => joinB (ns.take (k + 1))
theorem aboveK_zero (ns : List Bs) : aboveK ns 0 = [] := rfl
theorem aboveK_succ (ns : List Bs) (m : Nat) : aboveK ns (m + 1) = aboveK ns m ++ [joinB (ns.take (m + 1))] := by simp [aboveK, List.range_succ]
theorem aboveK_length (ns : List Bs) (m : Nat) : (aboveK ns m).length = m := by simp [aboveK]
theorem join_cut_len (s : ByteArray) : (joinB (cutB s.data.toList.tail)).length ≤ s.size + 1 := by
  rw [join_cut, List.length_cons, List.length_tail, ← Lib.size_eq]; omega

set_option maxRecDepth 100000 in
set_option maxHeartbeats 1600000 in
theorem l3Above_any (s : ByteArray) (w : World) (h1 : 1 ≤ s.size) (hs : s.size ≤ 2097152) :
    Calls Try.prog 39 #[.string s] w fun e w' => ∃ v, e = .returned v ∧ OwnS w.heap.size w' v (aboveN (cutB s.data.toList.tail)) ∧ Below w.heap.size w w' := by
  obtain ⟨i1, ki, kz0, kz1, kz2⟩ := info_parts infoS
  have h1' : (1 : Int) ≤ (s.size : Int) := by omega
  have hel := extract_le s 1 s.size
  have HT := hide (tail_data s)
  have hcl := cutB_length s.data.toList.tail
  have hel2 : s.data.toList.tail.length ≤ s.size := by rw [List.length_tail, ← Lib.size_eq]; omega
  have hjl := join_cut_len s
  have hpos := List.length_pos_iff.2 (cutB_ne s.data.toList.tail)
  generalize hns : cutB s.data.toList.tail = ns at *
  have HN := hide hns
  clear hns
  go_enter Try.func39, Try.ntmps39
  go_wp2_with fail
  refine (l3Cut_any _ _ (by omega)).mono ?_
  rintro e w1 ⟨v, rfl, hO, hb1⟩
  rw [HT.out, HN.out] at hO
  obtain ⟨na, nc, rfl⟩ := hO.shape
  have hnc := hO.cap rfl
  have HR := hide hO.reads
  have HB := hide hb1
  have HPB := hide (fun b (hb : na.map Addr.block = some b) => hO.lt b (by cases na with | none => simp at hb | some x => simpa [Value.ownBlock] using hb))
  have n1 := hb1.size
  clear hO hb1
  go_wp2_with fail
  go_loopw [4, 5] (fun v i wr => ∃ m : Nat, m + 1 ≤ ns.length ∧ i = .int .i64 (m + 1) ∧ Hid (OwnS w1.heap.size wr v (aboveK ns m)) ∧ Hid (ReadsS wr na ns) ∧ Hid (Below w.heap.size w wr) ∧ w1.heap.size ≤ wr.heap.size) (fun _ i _ => ns.length - (intOf i).toNat)
  case atStart => exact ⟨0, by omega, rfl, hide (World.ownsRow_made (base := w1.heap.size) (e := 9) (size := 1) w1 #[] 0 (Nat.le_refl _) (Nat.zero_le _) rfl), hide (HR.out.below (below_alloc _ _)), hide (below_next HB.out (below_alloc _ _)), by simp⟩
  case round =>
    obtain ⟨m, hm, rfl, HO, HRr, HBr, hszr⟩ := hrel
    obtain ⟨va, vc, rfl⟩ := HO.out.shape
    rw [aboveK_length] at *
    by_cases hlt : m + 1 < ns.length
    · have hm1 : m + 1 ≤ maxLen := by unfold maxLen; omega
      have hm2 : (m + 1) * 16 ≤ 140737488355328 := by omega
      have hjt := join_take_le ns (m + 1)
      have hlt2 : (m : Int) + 1 < (ns.length : Int) := by omega
      have hcp : (m : Int) + 1 ≤ (nc : Int) := by omega
      have HO' := hide (show wr.ownsRow w1.heap.size 9 1 (.slice va m vc) m ((aboveK ns m).map vS) by have := HO.out; unfold OwnS at this; rwa [aboveK_length] at this)
      go_wp2_with (first | (go_at_call 45; refine (l3Join_any _ _ (ns.take (m + 1)) _ (HRr.out.take (m + 1)) (by simp; omega) (by omega) _ (by simp; omega)).mono ?_; rintro e w2 ⟨rfl, rfl⟩) | (at_builtin; refine wpList_append_one rfl (.tmp 16) (.tmp 21) 46 rfl w1.heap.size 9 i1 (.string ⟨#[]⟩) 1 16 Try.underlying46 ki kz0 kz1 kz2 rfl (by decide) _ _ _ rfl HO'.out rfl rfl (by intro u hu; simp at hu; subst hu; rfl) hm1 hm2 hszr ?_; intro v' w3 hown2 hkept; have O2 := hide hown2; have K2 := hide hkept; clear hown2 hkept))
      go_roundw
      case rel => exact ⟨m + 1, by omega, by go_num, hide (by rw [aboveK_succ]; exact OwnS.snoc (ps := aboveK ns m) (by rw [aboveK_length]; exact O2.out) rfl), hide (HRr.out.kept K2.out (fun _ x hx hS => by have h1 := (HPB.out x.block (by rw [hx]; rfl)).2; have h2 := (HO'.out.lt _ hS).1; omega)), hide (HBr.out.trans (K2.out.below (by omega) (fun b hb hS => by have := (HO'.out.lt _ hS).1; omega))), by have := K2.out.size; omega⟩
      case measure => simp [intOf]; omega
    · have hlt2 : ¬ (m : Int) + 1 < (ns.length : Int) := by omega
      have HE := hide (show aboveN ns = aboveK ns m by unfold aboveN aboveK; rw [show ns.length - 1 = m by omega])
      go_wp2_with fail
      go_ret
      exact ⟨_, rfl, by rw [HE.out]; exact HO.out.mono n1, HBr.out⟩

theorem faultP_pos {s : ByteArray} (h : faultP s.data.toList = 0) : 1 ≤ s.size := by
  obtain ⟨ns, _, _, _, e⟩ := faultP_zero h
  have := congrArg List.length e
  rw [← Lib.size_eq] at this
  simp at this
  omega
theorem above_bad {p : Bs} (h : faultP p ≠ 0) : above p = [] := by simp [above, h]
theorem above_good {p : Bs} (h : faultP p = 0) : above p = aboveN (cutB p.tail) := by simp [above, h]
theorem above_len (p : Bs) : (above p).length ≤ 2 := by
  by_cases h : faultP p = 0
  · obtain ⟨ns, hN, _, hc, _⟩ := faultP_zero h
    rw [above_good h, aboveN_length, hc]
    have := hN.2.2.2
    omega
  · rw [above_bad h]; simp



/-- What ParentOf and LastOf answer. -/
def parC (p : Bs) : Int := if faultP p = 0 then (if above p = [] then 4 else 0) else faultP p
def parT (p : Bs) : Bs := (above p).getLastD []
def lastT (p : Bs) : Bs := if faultP p = 0 then lastN (cutB p.tail) else []

theorem getLast_at {l : List Bs} (h : l ≠ []) : l[l.length - 1]? = some (l.getLastD []) := by
  rw [List.getLastD_eq_getLast?, List.getLast?_eq_getElem?]
  have : l.length - 1 < l.length := by have := List.length_pos_iff.2 h; omega
  simp [this]
theorem aboveN_getLast_ne {ns : List Bs} (h : aboveN ns ≠ []) : (aboveN ns).getLastD [] ≠ [] := by
  have hm : (aboveN ns).getLastD [] ∈ aboveN ns := List.mem_of_getElem? (getLast_at h)
  obtain ⟨k, h0, hk, e⟩ := mem_aboveN.1 hm
  rw [e]
  cases ns with
  | nil => simp at hk
  | cons n ns =>
    cases k with
    | zero => omega
    | succ k => simp [joinB]

set_option maxRecDepth 100000 in
set_option maxHeartbeats 800000 in
theorem l3Parent_any (s : ByteArray) (w : World) (h1 : 1 ≤ s.size) (hs : s.size ≤ 2097152) :
    Calls Try.prog 38 #[.string s] w fun e w' => e = .returned (.string (str ((aboveN (cutB s.data.toList.tail)).getLastD []))) ∧ Below w.heap.size w w' := by
  have hlen : (aboveN (cutB s.data.toList.tail)).length ≤ 4194304 := by
    have hlen := aboveN_length (cutB s.data.toList.tail)
    have hcl := cutB_length s.data.toList.tail
    have hel2 : s.data.toList.tail.length ≤ s.size := by rw [List.length_tail, ← Lib.size_eq]; omega
    omega
  obtain ⟨ab, hab⟩ : ∃ ab, ab = aboveN (cutB s.data.toList.tail) := ⟨_, rfl⟩
  rw [← hab] at hlen ⊢
  have HAB := hide hab
  clear hab
  go_enter Try.func38, Try.ntmps38
  go_wp2_with fail
  refine (l3Above_any _ _ h1 hs).mono ?_
  rintro e w1 ⟨v, rfl, hO, hb1⟩
  rw [← HAB.out] at hO
  obtain ⟨va, vc, rfl⟩ := hO.shape
  have HB := hide hb1
  clear hb1
  by_cases h0 : ab = []
  · subst h0
    go_wp2_with fail
    go_ret
    exact ⟨rfl, HB.out⟩
  · have hp := List.length_pos_iff.2 h0
    obtain ⟨b, off, p, rfl, hb, hpe, hck⟩ := hO.reads.at (k := ab.length - 1) (by omega)
    have HP := hide (Option.some.inj (hpe.symm.trans (getLast_at h0)))
    clear hpe hO
    have hz : ((ab.length : Int) == 0) = false := by simp; omega
    have hp' : (1 : Int) ≤ (ab.length : Int) := by omega
    have hp2 : (ab.length : Int) ≤ 4194304 := by omega
    go_wp2_with fail
    go_ret
    exact ⟨ret_str (by rw [HP.out]), HB.out⟩

theorem par_bad {p : Bs} (h : faultP p ≠ 0) : parC p = faultP p ∧ parT p = [] := by simp [parC, parT, h, above_bad h]
theorem par_none {p : Bs} (h : faultP p = 0) (ha : aboveN (cutB p.tail) = []) : parC p = 4 ∧ parT p = [] := by
  have e := above_good h
  rw [ha] at e
  simp [parC, parT, h, e]
theorem par_good {p : Bs} (h : faultP p = 0) (ha : aboveN (cutB p.tail) ≠ []) : parC p = 0 ∧ parT p = (aboveN (cutB p.tail)).getLastD [] := by
  have e := above_good h
  exact ⟨by simp [parC, h, e, ha], by rw [parT, e]⟩



theorem last_bad {p : Bs} (h : faultP p ≠ 0) : lastT p = [] := by simp [lastT, h]
theorem last_good {p : Bs} (h : faultP p = 0) : lastT p = lastN (cutB p.tail) := by simp [lastT, h]


theorem belowB_short {s t : ByteArray} (h : ¬ t.size + 1 < s.size) : belowB s.data.toList t.data.toList = false := by
  simp [belowB, h]
theorem belowB_part {s t : ByteArray} (h : t.size + 1 < s.size) (h2 : ((s.extract 0 t.size).toList == t.toList) = false) : belowB s.data.toList t.data.toList = false := by
  rw [Lib.extract_toList, ByteArray.toList_eq, List.drop_zero, Nat.sub_zero] at h2
  simp only [belowB, ← Lib.size_eq, h2, Bool.and_false, Bool.false_and]
theorem belowB_whole {s t : ByteArray} (h : t.size + 1 < s.size) (h2 : ((s.extract 0 t.size).toList == t.toList) = true) : belowB s.data.toList t.data.toList = ((s[t.size].toNat : Int) == 47) := by
  rw [Lib.extract_toList, ByteArray.toList_eq, List.drop_zero, Nat.sub_zero] at h2
  have hl : t.size < s.data.toList.length := by rw [← Lib.size_eq]; omega
  have e : (s.data.toList.drop t.size).head? = some s[t.size] := by
    rw [List.head?_drop, List.getElem?_eq_getElem hl]; rfl
  simp only [belowB, ← Lib.size_eq, h2, h, e, decide_true, Bool.true_and]
  rw [Bool.eq_iff_iff]
  simp only [beq_iff_eq, Option.some.injEq]
  constructor
  · intro h; rw [h]; rfl
  · intro h; apply UInt8.toNat_inj.1; show _ = 47; omega


/-- What IsBelow answers. -/
def isBelow (p t : Bs) : Bool := decide (t ∈ above p)
theorem isBelow_bad {p t : Bs} (h : faultP p ≠ 0) : isBelow p t = false := by simp [isBelow, above_bad h]
theorem isBelow_good {p t : Bs} (h : faultP p = 0) : isBelow p t = decide (faultP t = 0 ∧ belowB p t = true) := by
  simp only [isBelow, above_good h, above_iff h]


end Go.Proofs.Ytcnoabkpilmanaa
