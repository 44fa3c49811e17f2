/-
  Texts put together: DrawH DrawI OvrD MntA.
-/
import Derived.Test.YtebgfaohhhgdpaaGreatKMounts13
import Derived.Test.YtebgfaohhhgdpaaGreatKMounts12
import Derived.Test.YtebgfaohhhgdpaaGreatKMounts8
import Derived.Test.YtebgfaohhhgdpaaGreatKMounts9
import Derived.Maps.AppendAt
import Derived.Test.YtebgfaohhhgdpaaGreatKMounts6
import Derived.Laws.CopyRow
import Derived.ProofKit
namespace Go.Proofs.YtebgfaohhhgdpaaGreat
open Go.RowKit Go.Maps
set_option linter.unusedVariables false
attribute [local go_sem ↓] Go.wp_at_zero Go.wp_at_succ

theorem up_parent {p q : Bs} {i : Nat} (hp : faultP p = 0) (h : (aboveN (cutB p.tail))[i]? = some q) :
    faultP q = 0 ∧ ((parentP q = [] ∧ i = 0) ∨ ∃ j, i = j + 1 ∧ (aboveN (cutB p.tail))[j]? = some (parentP q)) := by
  obtain ⟨ns, hN, hpe, hc, hs⟩ := faultP_zero hp
  rw [hc] at h ⊢
  have hi : i < ns.length - 1 := by have := (List.getElem?_eq_some_iff.1 h).1; rwa [aboveN_length] at this
  have hq : q = joinB (ns.take (i + 1)) := by
    have := h
    unfold aboveN at this
    rw [List.getElem?_map, List.getElem?_range hi] at this
    simpa using this.symm
  have hNt : Names (ns.take (i + 1)) := names_take hN (by omega)
  have hcq : cutB q.tail = ns.take (i + 1) := by rw [hq]; exact cut_join hNt.1 (names_no hNt)
  refine ⟨by rw [hq]; exact faultP_of hNt, ?_⟩
  have hlen : (ns.take (i + 1)).length = i + 1 := by rw [List.length_take]; omega
  have hpar : parentP q = (aboveN (ns.take (i + 1))).getLastD [] := by rw [parentP, hcq]
  cases i with
  | zero =>
    refine .inl ⟨?_, rfl⟩
    rw [hpar, aboveN, hlen]
    rfl
  | succ j =>
    refine .inr ⟨j, rfl, ?_⟩
    rw [hpar]
    unfold aboveN
    rw [hlen, List.getElem?_map, List.getElem?_range (by omega), show j + 1 + 1 - 1 = j + 1 by omega, List.range_succ, List.map_append, List.map_cons, List.map_nil]
    simp [List.getLastD_eq_getLast?, List.take_take]
theorem path_short {p : Bs} (h : faultP p = 0) : p.length ≤ 15 := by
  obtain ⟨ns, hN, hpe, _, _⟩ := faultP_zero h
  have := join_len'' ns 4 hN.2.2.1
  have := hN.2.2.2
  rw [hpe]
  omega
theorem right_small {es : List En} (h : Right es) : SmallE es := fun e he => by
  have h1 := path_short (entFault_zero (h.ent e he))
  have h2 := entFault_chunks (h.ent e he)
  omega
theorem putCode_eq {es : List En} (h : Right es) (e : En) : putCode es e = putCodeP es e := by
  rw [putCode, putCodeP, right_E.2 h, right_P.2 h, homeP_eq h.rise]
theorem GE.keptP {p B : Nat} {w w' : World} {v : Value} {es : List En} (h : GE B w.heap.size w v es) (hk : Kept (fun b => b = p) w w') (hp : p < B) : GE B w'.heap.size w' v es :=
  (h.kept hk (fun b h1 _ e => by omega)).wide hk.size

theorem cells3h (w : World) (a b c : Int) (t : TypeId) : ∀ i, i < 3 → (w.alloc (.cells #[.int .i64 a, .int .i64 b, .int .i64 c] t)).cell? ⟨w.heap.size, i, none⟩ = some (.int .i64 ([a, b, c].getD i 0)) := by
  intro i hi
  match i, hi with
  | 0, _ | 1, _ | 2, _ => simp
def Upto (up : List Bs) (es : List En) (j : Nat) : Prop := es.length < 12 → j = 0 ∨ ∃ q, up[j - 1]? = some q ∧ hasDir es q = true
theorem hasDir_mem {es : List En} {d : En} {q : Bs} (h : d ∈ es) (hq : d.path = q) (hk : dirK d.kind = true) : hasDir es q = true := by
  rw [hasDir, List.any_eq_true]
  exact ⟨d, h, by simp [hq, hk]⟩
theorem hasDir_get {es : List En} {q : Bs} (h : hasDir es q = true) : ∃ d ∈ es, d.path = q ∧ dirK d.kind = true := by
  rw [hasDir, List.any_eq_true] at h
  obtain ⟨d, hd, h⟩ := h
  simp only [Bool.and_eq_true, decide_eq_true_eq] at h
  exact ⟨d, hd, h⟩
theorem put_dir {p q : Bs} {es : List En} {j : Nat} {k : Int} (hp : faultP p = 0) (hq : (aboveN (cutB p.tail))[j]? = some q) (hR : Right es) (hU : Upto (aboveN (cutB p.tail)) es j) (hl : es.length < 12) (hk : k = 2 ∨ k = 4) :
    Right (putE es ⟨q, k, 0, []⟩) ∧ Upto (aboveN (cutB p.tail)) (putE es ⟨q, k, 0, []⟩) (j + 1) := by
  obtain ⟨hf, hpar⟩ := up_parent hp hq
  have hef : entFault ⟨q, k, 0, []⟩ = 0 := bare_right hf (by rcases hk with rfl | rfl <;> decide)
  have hhome : homeP es q = true := by
    rw [homeP_iff]
    rcases hpar with ⟨h0, _⟩ | ⟨i, rfl, hi⟩
    · exact .inl h0
    · rcases hU hl with h | ⟨q', h1, h2⟩
      · omega
      · rw [Nat.add_sub_cancel, hi] at h1
        cases h1
        exact .inr (hasDir_get h2)
  have hlen : (putE es ⟨q, k, 0, []⟩).length ≤ 12 := by
    have : (putE es ⟨q, k, 0, []⟩).length = (baseE es ⟨q, k, 0, []⟩).length + 1 := by
      unfold putE putAt
      rw [List.length_append, List.length_cons, List.length_take, List.length_drop]
      omega
    have := baseE_len es ⟨q, k, 0, []⟩
    omega
  refine ⟨right_put hR hef hhome hlen, fun _ => .inr ⟨q, by rw [Nat.add_sub_cancel]; exact hq, ?_⟩⟩
  exact hasDir_mem (mem_putE.2 (.inl rfl)) rfl (decide_eq_true hk)

set_option maxRecDepth 100000 in
set_option maxHeartbeats 6400000 in
theorem right_e (p : Nat) (zs : List Int) (T : Int) (w : World) (h : SrcX w p zs T) (hu : U8 zs) (hT : T ≤ 500000) (hl : zs.length ≤ 2097152) :
    Calls Tryz.prog 65 #[.pointer (some ⟨p, 0, none⟩)] w fun r w' => ∃ (es : List En) (av : Option Addr) (cv : Nat), r = .returned (.slice av es.length cv) ∧ Right es ∧ GE w.heap.size w'.heap.size w' (.slice av es.length cv) es ∧ SrcX w' p zs (T + 1000) ∧ Kept (fun b => b = p) w w' := by
  have hp := h.lt
  have S0 := hide (h.below (below_alloc w (.cells #[] 53)))
  have G0 := hide (GE.made w)
  have K0 := hide ((Kept.refl (fun b => b = p) w).alloc (.cells #[] 53))
  have HU := hide hu
  clear h hu
  go_enter Tryz.func65, Tryz.ntmps65
  go_wp2_with fail
  refine (next_e p zs T 10 _ S0.out HU.out (by omega) (by decide) (by decide) hl).mono ?_
  rintro r w1 ⟨m0, rfl, hm0, s1, k1⟩
  have S1 := hide s1
  have K1 := hide (K0.out.trans k1)
  have G1 := hide (G0.out.keptP k1 hp)
  clear s1 k1 S0 K0 G0
  go_wp2_with fail
  go_loopw [3, 4] (fun v k wr => ∃ (m : Nat) (es : List En), k = .int .i64 m ∧ m ≤ 9 ∧ Hid (Right es) ∧ Hid (GE w.heap.size wr.heap.size wr v es) ∧ Hid (SrcX wr p zs (T + 1 + 60 * (9 - (m : Int)))) ∧ Hid (Kept (fun b => b = p) w wr)) (fun _ k _ => (intOf k).toNat)
  case atStart => exact ⟨m0, [], rfl, by omega, hide right_nil, G1, hide (S1.out.mono (by omega)), K1⟩
  case round =>
    obtain ⟨m, es, rfl, hm9, HRi, HG, HSr, HK⟩ := hrel
    obtain ⟨lv, lc, hv⟩ := HG.out.shape
    subst hv
    by_cases hm : 0 < m
    · have hm' : (0 : Int) < (m : Int) := by omega
      have hwr := HK.out.size
      go_wp2_with fail
      refine (drawEntry_e p zs _ _ HSr.out HU.out (by omega) hl).mono ?_
      rintro r w2 ⟨e, a, c, rfl, ⟨hef, hxl⟩, ho2, s2, k2⟩
      have hpz := entFault_zero hef
      have AE := hide (below_alloc w2 (.cells #[.string (str e.path), .int .i64 e.kind, .int .i64 e.size, .slice a e.chunks.length c] 53))
      have F2 := hide (Four.new w2 (.string (str e.path)) (.int .i64 e.kind) (.int .i64 e.size) (.slice a e.chunks.length c) 53)
      have S2 := hide (s2.below AE.out)
      have K2 := hide ((HK.out.trans k2).alloc (.cells #[.string (str e.path), .int .i64 e.kind, .int .i64 e.size, .slice a e.chunks.length c] 53))
      have G2 := hide (((HG.out.keptP k2 hp).below AE.out).wide AE.out.size)
      have R2 := hide ((ownInts_reads ho2 rfl).below AE.out)
      have hRb := hide (fun b (hb : (Value.slice a e.chunks.length c).ownBlock = some b) => (ho2.lt b hb).1)
      have HEF := hide hef
      have HPZ := hide hpz
      have hs2 := k2.size
      clear s2 k2 ho2 HG HSr HK hef
      have hcl : e.chunks.length ≤ 3 := entFault_chunks HEF.out
      go_wp2_with fail
      have hb2 : w2.heap.size < (w2.alloc (.cells #[.string (str e.path), .int .i64 e.kind, .int .i64 e.size, .slice a e.chunks.length c] 53)).heap.size := F2.out.lt
      generalize w2.alloc (.cells #[.string (str e.path), .int .i64 e.kind, .int .i64 e.size, .slice a e.chunks.length c] 53) = W2 at *
      obtain ⟨b2, hb2e⟩ : ∃ b2, b2 = w2.heap.size := ⟨_, rfl⟩
      rw [← hb2e] at F2 hb2 hs2 ⊢
      clear hb2e AE
      refine (l3Above_any _ _ (by rw [str_size]; exact path_pos hpz) (by rw [str_size]; omega)).mono ?_
      rintro r w3 ⟨uv, rfl, hO3, hb3⟩
      rw [str_data] at hO3
      obtain ⟨ua, uc, rfl⟩ := hO3.shape
      have UR := hide hO3.reads
      have hUB := hide (fun b hb => (hO3.lt b hb).1)
      have F3 := hide (F2.out.below hb3)
      have S3 := hide (S2.out.below hb3)
      have K3 := hide (K2.out.trans (Kept.of_below hb3))
      have G3 := hide ((G2.out.below hb3).wide hb3.size)
      have R3 := hide (R2.out.below hb3)
      have hs3 := hb3.size
      clear hb3 hO3 F2 S2 K2 G2 R2 hpz
      have hul : (aboveN (cutB e.path.tail)).length ≤ 2 := by
        obtain ⟨ns, hN, _, hc, _⟩ := faultP_zero HPZ.out
        rw [hc, aboveN_length]
        have := hN.2.2.2
        omega
      have hpw3 : p < w3.heap.size := S3.out.lt
      obtain ⟨up, hup⟩ : ∃ up, up = aboveN (cutB e.path.tail) := ⟨_, rfl⟩
      rw [← hup] at UR hUB hul ⊢
      have HUPE := hide hup
      clear hup
      go_wp2_with fail
      go_loopw [3, 7] (fun v i wr2 => ∃ (j : Nat) (fs : List En), i = .int .i64 j ∧ j ≤ up.length ∧ Hid (Right fs) ∧ Hid (Upto (aboveN (cutB e.path.tail)) fs j) ∧ Hid (GE w.heap.size wr2.heap.size wr2 v fs) ∧ Hid (SrcX wr2 p zs (T + 1 + 60 * (9 - (m : Int)) + 30 + j)) ∧ Hid (Kept (fun b => b = p) w3 wr2)) (fun _ i _ => up.length - (intOf i).toNat)
      case atStart => exact ⟨0, es, rfl, Nat.zero_le _, HRi, hide (fun _ => .inl rfl), G3, hide (by simpa using S3.out), hide (Kept.refl _ _)⟩
      case round =>
        obtain ⟨j, fs, rfl, hj, HR2, HUp, HG2, HS2, HK2⟩ := hrel
        obtain ⟨fv, fc, hv⟩ := HG2.out.shape
        subst hv
        have hf12 := HR2.out.len
        have hsz2 := HK2.out.size
        have UR2 := hide (UR.out.kept HK2.out (fun hz x hx e => by subst hx; have := hUB.out x.block rfl; omega))
        by_cases hlt : j < up.length
        · obtain ⟨bu, ou, q, rfl, hbu, hqu, hcq⟩ := UR2.out.at hlt
          have hbup : bu ≠ p := by have := hUB.out bu rfl; omega
          have hq : (aboveN (cutB e.path.tail))[j]? = some q := by rw [← HUPE.out]; exact hqu
          have HFQ := hide (up_parent HPZ.out hq).1
          clear hqu
          go_wp2_with fail
          refine (l4At_any fv fc fs.length fs q _ HG2.out.rd rfl (by omega)).mono ?_
          rintro r wr2 ⟨rfl, rfl⟩
          cases hat : atE fs q with
          | none =>
            simp only [placeI]
            by_cases hl12 : fs.length < 12
            · have hl12' : (fs.length : Int) < 12 := by omega
              have BD := hide ((below_alloc wr2 (.cells #[.int .i64 2, .int .i64 2, .int .i64 4] 2)).drew)
              have S5 := hide (HS2.out.below BD.out)
              have K5 := ((HK2.out.alloc (.cells #[.int .i64 2, .int .i64 2, .int .i64 4] 2)).drew)
              have G5 := hide ((HG2.out.below BD.out).wide BD.out.size)
              have CC : Hid (∀ i, i < 3 → (wr2.alloc (.cells #[.int .i64 2, .int .i64 2, .int .i64 4] 2)).drew.cell? ⟨wr2.heap.size, i, none⟩ = some (.int .i64 (([2, 2, 4] : List Int).getD i 0))) := hide (cells3h wr2 2 2 4 2)
              have cqd := (BD.out.cell (p := ⟨bu, ou + j, none⟩) hbu).trans hcq
              have HFS := hide (right_small HR2.out)
              go_wp2_with fail
              go_region_held3 (fun w' => w'.cell? ⟨bu, ou + j, none⟩ = some (.string (str q))) (first | exact c6 | exact c7 | go_keep)
                ((first
                  | (go_at_call 73; refine (pick_e p wr2.heap.size 3 3 [2, 2, 4] zs _ _ S5.out HU.out (by omega) hl (by decide) (by decide) rfl (by omega) (by show wr2.heap.size < (wr2.alloc (.cells #[.int .i64 2, .int .i64 2, .int .i64 4] 2)).heap.size; simp) CC.out).mono ?_; rintro r w6 ⟨kv, hkv, rfl, s6, k6⟩; have hlt6 : bu < (wr2.alloc (.cells #[.int .i64 2, .int .i64 2, .int .i64 4] 2)).drew.heap.size := (Nat.lt_of_lt_of_le hbu BD.out.size); have c6 := (k6.cell (p := ⟨bu, ou + j, none⟩) hlt6 (by omega)).trans cqd; have hlt7 : bu < w6.heap.size := Nat.lt_of_lt_of_le hlt6 k6.size; have S6 := hide s6; have K6 := hide (K5.trans k6); have G6 := hide (G5.out.keptP k6 hp); have HKV := hide (show kv = 2 ∨ kv = 4 from by simp at hkv; omega); have hs6 := k6.size; clear s6 k6 hkv)
                  | (go_at_call 113; refine (l4Put_any fv fc fs.length fs ⟨q, kv, 0, []⟩ none 0 0 _ G6.out.rd rfl (by omega) HFS.out rfl (fun h => absurd rfl h) (by show q.length ≤ 1048576; have := path_short HFQ.out; omega) (by simp)).mono ?_; rintro r w7 ⟨g7, cv7, rfl, hG7, hb7⟩; have c7 := (hb7.cell (p := ⟨bu, ou + j, none⟩) hlt7).trans c6; have S7 := hide (S6.out.below hb7); have K7 := hide (K6.out.trans (Kept.of_below hb7)); have G7 := hide (hG7.mono (B' := w.heap.size) (by have := K6.out.size; have := K3.out.size; omega)); clear hG7 hb7)))
              have HPD := hide (put_dir (k := kv) HPZ.out hq HR2.out HUp.out hl12 HKV.out)
              go_wp2_with fail
              go_roundw
              case rel => exact ⟨j + 1, putE fs ⟨q, kv, 0, []⟩, by go_num, by omega, hide HPD.out.1, hide HPD.out.2, G7, hide (S7.out.mono (by omega)), K7⟩
              case measure => simp [intOf]; omega
            · have hl12' : ¬ (fs.length : Int) < 12 := by omega
              go_wp2_with fail
              go_roundw
              case rel => exact ⟨j + 1, fs, by go_num, by omega, HR2, hide (fun h => absurd h (by omega)), HG2, hide (HS2.out.mono (by omega)), HK2⟩
              case measure => simp [intOf]; omega
          | some k =>
            have hkl := atE_lt hat
            have hfk := atE_find fs q
            rw [hat] at hfk
            obtain ⟨bf, off, d, xd, cd, rfl, hbf, hd, d0, d1, d2, d3, hrd⟩ := HG2.out.rd.at hkl
            rw [Option.bind_some, hd] at hfk
            obtain ⟨hdm, hdp⟩ := find_mem hfk
            simp only [placeI]
            have hk0 : ¬ (k : Int) < 0 := by omega
            have hk1 : (k : Int) < (fs.length : Int) := by omega
            clear hfk hrd d0 d2 d3 hat
            cases hdk : dirK d.kind
            · go_wp2_with fail
              refine (l4IsDir_any _ _ d.kind _ d1).mono ?_
              rintro r wr2 ⟨rfl, rfl⟩
              rw [hdk]
              clear d1
              obtain ⟨fv, hfv⟩ : ∃ fv : Option Addr, fv = some ⟨bf, off, none⟩ := ⟨_, rfl⟩
              rw [← hfv] at HG2 ⊢
              clear hfv
              by_cases hl12 : fs.length < 12
              · have hl12' : (fs.length : Int) < 12 := by omega
                have BD := hide ((below_alloc wr2 (.cells #[.int .i64 2, .int .i64 2, .int .i64 4] 2)).drew)
                have S5 := hide (HS2.out.below BD.out)
                have K5 := ((HK2.out.alloc (.cells #[.int .i64 2, .int .i64 2, .int .i64 4] 2)).drew)
                have G5 := hide ((HG2.out.below BD.out).wide BD.out.size)
                have CC : Hid (∀ i, i < 3 → (wr2.alloc (.cells #[.int .i64 2, .int .i64 2, .int .i64 4] 2)).drew.cell? ⟨wr2.heap.size, i, none⟩ = some (.int .i64 (([2, 2, 4] : List Int).getD i 0))) := hide (cells3h wr2 2 2 4 2)
                have cqd := (BD.out.cell (p := ⟨bu, ou + j, none⟩) hbu).trans hcq
                have HFS := hide (right_small HR2.out)
                go_wp2_with fail
                go_region_held3 (fun w' => w'.cell? ⟨bu, ou + j, none⟩ = some (.string (str q))) (first | exact c6 | exact c7 | go_keep)
                  ((first
                    | (go_at_call 73; refine (pick_e p wr2.heap.size 3 3 [2, 2, 4] zs _ _ S5.out HU.out (by omega) hl (by decide) (by decide) rfl (by omega) (by show wr2.heap.size < (wr2.alloc (.cells #[.int .i64 2, .int .i64 2, .int .i64 4] 2)).heap.size; simp) CC.out).mono ?_; rintro r w6 ⟨kv, hkv, rfl, s6, k6⟩; have hlt6 : bu < (wr2.alloc (.cells #[.int .i64 2, .int .i64 2, .int .i64 4] 2)).drew.heap.size := (Nat.lt_of_lt_of_le hbu BD.out.size); have c6 := (k6.cell (p := ⟨bu, ou + j, none⟩) hlt6 (by omega)).trans cqd; have hlt7 : bu < w6.heap.size := Nat.lt_of_lt_of_le hlt6 k6.size; have S6 := hide s6; have K6 := hide (K5.trans k6); have G6 := hide (G5.out.keptP k6 hp); have HKV := hide (show kv = 2 ∨ kv = 4 from by simp at hkv; omega); have hs6 := k6.size; clear s6 k6 hkv)
                    | (go_at_call 113; refine (l4Put_any fv fc fs.length fs ⟨q, kv, 0, []⟩ none 0 0 _ G6.out.rd rfl (by omega) HFS.out rfl (fun h => absurd rfl h) (by show q.length ≤ 1048576; have := path_short HFQ.out; omega) (by simp)).mono ?_; rintro r w7 ⟨g7, cv7, rfl, hG7, hb7⟩; have c7 := (hb7.cell (p := ⟨bu, ou + j, none⟩) hlt7).trans c6; have S7 := hide (S6.out.below hb7); have K7 := hide (K6.out.trans (Kept.of_below hb7)); have G7 := hide (hG7.mono (B' := w.heap.size) (by have := K6.out.size; have := K3.out.size; omega)); clear hG7 hb7)))
                have HPD := hide (put_dir (k := kv) HPZ.out hq HR2.out HUp.out hl12 HKV.out)
                go_wp2_with fail
                go_roundw
                case rel => exact ⟨j + 1, putE fs ⟨q, kv, 0, []⟩, by go_num, by omega, hide HPD.out.1, hide HPD.out.2, G7, hide (S7.out.mono (by omega)), K7⟩
                case measure => simp [intOf]; omega
              · have hl12' : ¬ (fs.length : Int) < 12 := by omega
                go_wp2_with fail
                go_roundw
                case rel => exact ⟨j + 1, fs, by go_num, by omega, HR2, hide (fun h => absurd h (by omega)), HG2, hide (HS2.out.mono (by omega)), HK2⟩
                case measure => simp [intOf]; omega
            · have HUq := hide (show Upto (aboveN (cutB e.path.tail)) fs (j + 1) from fun _ => .inr ⟨q, by rw [Nat.add_sub_cancel]; exact hq, hasDir_mem hdm hdp hdk⟩)
              go_wp2_with fail
              refine (l4IsDir_any _ _ d.kind _ d1).mono ?_
              rintro r wr2 ⟨rfl, rfl⟩
              rw [hdk]
              clear d1
              go_wp2_with fail
              go_roundw
              case rel => exact ⟨j + 1, fs, by go_num, by omega, HR2, HUq, HG2, hide (HS2.out.mono (by omega)), HK2⟩
              case measure => simp [intOf]; omega
        · have F9 := F3.out
          have R9 := hide (R3.out.kept HK2.out (fun hz x hx e => by subst hx; have := hRb.out x.block rfl; omega))
          have hbw3 : b2 < w3.heap.size := F3.out.lt
          have n0 : ¬ b2 = p := by omega
          have g0 := (HK2.out.cell (p := ⟨b2, 0, none⟩) hbw3 n0).trans F9.1
          have g1 := (HK2.out.cell (p := ⟨b2, 1, none⟩) hbw3 n0).trans F9.2.1
          have g2 := (HK2.out.cell (p := ⟨b2, 2, none⟩) hbw3 n0).trans F9.2.2.1
          have g3 := (HK2.out.cell (p := ⟨b2, 3, none⟩) hbw3 n0).trans F9.2.2.2
          clear F9
          go_wp2_with fail
          refine (specPutEntry_any fv fc fs.length fs e a e.chunks.length c _ HG2.out.rd rfl (by omega) (right_small HR2.out) rfl R9.out (by omega) (by omega)).mono ?_
          rintro r w5 ⟨av5, cv5, rfl, hG5, hb5⟩
          have HPE := hide (putCode_eq HR2.out e)
          have AR := hide (below_alloc w5 (.cells #[.int .i64 (putCode fs e), .slice av5 (putList fs e).length cv5] 42))
          have S9 := hide ((HS2.out.below hb5).below AR.out)
          have K9 := hide (((K3.out.trans HK2.out).trans (Kept.of_below hb5)).alloc (.cells #[.int .i64 (putCode fs e), .slice av5 (putList fs e).length cv5] 42))
          have GO := hide ((((HG2.out.below hb5).wide hb5.size).below AR.out).wide AR.out.size)
          have GN := hide (((hG5.mono (B' := w.heap.size) (by have := K3.out.size; omega)).below AR.out).wide AR.out.size)
          clear hG5 hb5 g0 g1 g2 g3
          by_cases hc : putCode fs e = 0
          · have hcP : putCodeP fs e = 0 := by rw [← HPE.out]; exact hc
            have hPL : putList fs e = putE fs e := by rw [putList, if_pos hc]
            have HRN := hide (putP_zero hcP).2.2.2.2
            rw [hc, hPL] at S9 K9 GO GN AR ⊢
            clear hc hcP hPL
            go_wp2_with fail
            go_roundw
            case rel => exact ⟨m - 1, putE fs e, by go_num, by omega, HRN, GN, hide (S9.out.mono (by omega)), K9⟩
            case measure => simp [intOf]; omega
          · have hcn : (putCode fs e == 0) = false := by simp; exact hc
            clear hc
            generalize putCode fs e = pc at *
            generalize putList fs e = pl at *
            go_wp2_with fail
            go_roundw
            case rel => exact ⟨m - 1, fs, by go_num, by omega, HR2, GO, hide (S9.out.mono (by omega)), K9⟩
            case measure => simp [intOf]; omega
    · have hm' : ¬ (0 : Int) < (m : Int) := by omega
      go_wp2_with fail
      go_ret
      exact ⟨es, lv, lc, rfl, HRi.out, HG.out, HSr.out.mono (by omega), HK.out⟩

end Go.Proofs.YtebgfaohhhgdpaaGreat

namespace Go.Proofs.YtebgfaohhhgdpaaGreat
open Go.RowKit Go.Maps
set_option linter.unusedVariables false
attribute [local go_sem ↓] Go.wp_at_zero Go.wp_at_succ

theorem GE.push2 {B T : Nat} {w1 w2 : World} {v v' : Value} {es : List En} {rs : List Rw} {e : En} {a : Option Addr} {c : Nat} (he : rs.map Rw.e = es)
    (h1 : w1.ownsRow B 53 4 v es.length (rowR rs))
    (h2 : ∀ r ∈ rs, w1.ownsRow B 2 1 (.slice r.a r.e.chunks.length r.c) r.e.chunks.length (r.e.chunks.map (Value.int .i64)))
    (h3 : rs.Pairwise (fun r r' => ∀ g, r.a.map Addr.block = some g → r'.a.map Addr.block ≠ some g)) (h4 : ∀ r ∈ rs, ∀ g, r.a.map Addr.block = some g → g < T) (hB : B ≤ T) (hT : T ≤ w1.heap.size)
    (hown : w1.ownsRow T 2 1 (.slice a e.chunks.length c) e.chunks.length (e.chunks.map (Value.int .i64)))
    (hv' : w2.ownsRow B 53 4 v' (es.length + 1) (rowR rs ++ cellsR ⟨e, a, c⟩))
    (hk : Kept (fun b => v.ownBlock = some b) w1 w2) : GE B w2.heap.size w2 v' (es ++ [e]) := by
  have hg0 : ∀ g', a.map Addr.block = some g' → T ≤ g' ∧ g' < w1.heap.size := fun g' hg => hown.lt g' (block_own hg)
  have hsz := hk.size
  refine ⟨rs ++ [⟨e, a, c⟩], by rw [List.map_append, he]; rfl, ?_, ?_, ?_, ?_, fun b hb => (hv'.lt b hb).2⟩
  · rw [rowR_append, List.length_append]
    simpa [rowR] using hv'
  · intro r hr
    rcases List.mem_append.1 hr with hr | hr
    · exact ownsRow_kept (h2 r hr) hk (fun b hb hS => ownsRow_apart h1 (h2 r hr) (by decide) hS hb)
    · simp only [List.mem_singleton] at hr
      subst hr
      exact ownsRow_kept (ownsRow_mono hown hB) hk (fun b hb hS => ownsRow_apart h1 hown (by decide) hS hb)
  · rw [List.pairwise_append]
    refine ⟨h3, List.pairwise_singleton _ _, fun r hr r' hr' g hg hg' => ?_⟩
    simp only [List.mem_singleton] at hr'
    subst hr'
    have := h4 r hr g hg
    have := hg0 g hg'
    omega
  · intro r hr g hg
    rcases List.mem_append.1 hr with hr | hr
    · have := h4 r hr g hg
      omega
    · simp only [List.mem_singleton] at hr
      subst hr
      have := hg0 g hg
      omega
theorem GE.store2 {B T : Nat} {w1 : World} {G n c : Nat} {es : List En} {j : Nat} {e : En} {a : Option Addr} {cc : Nat} (h : GE B T w1 (.slice (some ⟨G, 0, none⟩) n c) es) (hn : n = es.length) (hj : j < es.length) (hB : B ≤ T) (hT : T ≤ w1.heap.size)
    (hown : w1.ownsRow T 2 1 (.slice a e.chunks.length cc) e.chunks.length (e.chunks.map (Value.int .i64))) :
    GE B w1.heap.size ((((w1.setCell ⟨G, j * 4, none⟩ (.string (str e.path))).setCell ⟨G, j * 4 + 1, none⟩ (.int .i64 e.kind)).setCell ⟨G, j * 4 + 2, none⟩ (.int .i64 e.size)).setCell ⟨G, j * 4 + 3, none⟩ (.slice a e.chunks.length cc)) (.slice (some ⟨G, 0, none⟩) n c) (es.set j e) := by
  subst hn
  obtain ⟨rs, hrs, h1, h2, h3, h4, h5⟩ := h
  have hl : rs.length = es.length := by rw [← hrs, List.length_map]
  have s1 := ((((h1.stored (j * 4) (.string (str e.path))).1.stored (j * 4 + 1) (.int .i64 e.kind)).1.stored (j * 4 + 2) (.int .i64 e.size)).1.stored (j * 4 + 3) (.slice a e.chunks.length cc)).1
  rw [rowR_set4 rs j ⟨e, a, cc⟩ (by omega)] at s1
  have hkp : Kept (fun b => b = G) w1 ((((w1.setCell ⟨G, j * 4, none⟩ (.string (str e.path))).setCell ⟨G, j * 4 + 1, none⟩ (.int .i64 e.kind)).setCell ⟨G, j * 4 + 2, none⟩ (.int .i64 e.size)).setCell ⟨G, j * 4 + 3, none⟩ (.slice a e.chunks.length cc)) :=
    Kept.setCell (S := fun b => b = G) (p := ⟨G, j * 4 + 3, none⟩) (Kept.setCell (S := fun b => b = G) (p := ⟨G, j * 4 + 2, none⟩) (Kept.two _ _ _ _ _ _) (fun _ => rfl) _) (fun _ => rfl) _
  have hnew : ∀ g, a.map Addr.block = some g → T ≤ g ∧ g < w1.heap.size := fun g hg => hown.lt g (block_own hg)
  refine ⟨rs.set j ⟨e, a, cc⟩, by rw [List.map_set, hrs], by rw [List.length_set]; exact s1, ?_, ?_, ?_, fun b hb => by have := h5 b hb; omega⟩
  · intro r0 hr0
    rcases List.mem_or_eq_of_mem_set hr0 with hr | rfl
    · exact ownsRow_kept (h2 r0 hr) hkp (fun b hb hS => ownsRow_apart h1 (h2 r0 hr) (by decide) (by subst hS; rfl) hb)
    · exact ownsRow_kept (ownsRow_mono hown hB) hkp (fun b hb hS => ownsRow_apart h1 hown (by decide) (by subst hS; rfl) hb)
  · rw [List.pairwise_iff_getElem]
    intro i i' hi hi' hlt g hg hg'
    rw [List.length_set] at hi hi'
    rw [List.getElem_set] at hg hg'
    by_cases e1 : j = i
    · rw [if_pos e1] at hg
      rw [if_neg (by omega)] at hg'
      have := h4 _ (List.getElem_mem hi') g hg'
      have := hnew g hg
      omega
    · rw [if_neg e1] at hg
      by_cases e2 : j = i'
      · rw [if_pos e2] at hg'
        have := h4 _ (List.getElem_mem hi) g hg
        have := hnew g hg'
        omega
      · rw [if_neg e2] at hg'
        exact List.pairwise_iff_getElem.1 h3 i i' hi hi' hlt g hg hg'
  · intro r0 hr0 g hg
    rcases List.mem_or_eq_of_mem_set hr0 with hr | rfl
    · have := h4 r0 hr g hg; omega
    · exact (hnew g hg).2
def LayD (w : World) (p : Nat) (zs : List Int) (T : Int) (es : List En) (v : Value) (w' : World) : Prop :=
  GoodH es ∧ es.length ≤ 13 ∧ SmallE es ∧ GE w.heap.size w'.heap.size w' v es ∧ SrcX w' p zs T ∧ Kept (fun b => b = p) w w'

set_option maxRecDepth 100000 in
set_option maxHeartbeats 6400000 in
theorem bentLay_e (p : Nat) (zs : List Int) (T : Int) (w : World) (h : SrcX w p zs T) (hu : U8 zs) (hT : T ≤ 100000) (hl : zs.length ≤ 2097152) :
    Calls Tryz.prog 71 #[.pointer (some ⟨p, 0, none⟩)] w fun r w' => ∃ (es : List En) (av : Option Addr) (cv : Nat), r = .returned (.slice av es.length cv) ∧ LayD w p zs (T + 1100) es (.slice av es.length cv) w' := by
  obtain ⟨i1, ki, kz0, kz1, kz2⟩ := info_parts Tryz.infoEn
  have hp := h.lt
  have HS := hide h
  have HU := hide hu
  clear h hu
  go_enter Tryz.func71, Tryz.ntmps71
  go_wp2_with fail
  refine (right_e p zs T _ HS.out HU.out (by omega) hl).mono ?_
  rintro r w1 ⟨es, lv, lc, rfl, hR, hG1, s1, k1⟩
  have HRi := hide hR
  have G1 := hide hG1
  have S1 := hide s1
  have K1 := hide k1
  clear hR hG1 s1 k1 HS
  go_wp2_with fail
  refine (next_e p zs _ 16 _ S1.out HU.out (by omega) (by decide) (by decide) hl).mono ?_
  rintro r w2 ⟨i, rfl, hi, s2, k2⟩
  have S2 := hide s2
  have K2 := hide (K1.out.trans k2)
  have G2 := hide (G1.out.keptP k2 hp)
  have hl12 := HRi.out.len
  have hsz2 := K2.out.size
  clear s2 k2 G1 S1 K1
  by_cases h0 : i = 0
  · subst h0
    go_wp2_with fail
    refine (bentEntry_e p zs _ _ S2.out HU.out (by omega) hl).mono ?_
    rintro r w3 ⟨e, a, c, rfl, ⟨hel, hec⟩, ho3, s3, k3⟩
    have G3 := hide (G2.out.kept k3 (fun b h1 _ e => by omega))
    have S3 := hide s3
    have K3 := hide (K2.out.trans k3)
    have O3 := hide ho3
    have hs3 := k3.size
    clear ho3 s3 k3
    obtain ⟨rs, g1, g2, g3, g4, g5, g6⟩ := G3.out
    have Q1 := hide g1
    have Q2 := hide g2
    have Q3 := hide g3
    have Q4 := hide g4
    have Q5 := hide g5
    clear g1 g2 g3 g4 g5 g6
    have hm1 : es.length + 1 ≤ maxLen := by unfold maxLen; omega
    have hm1' : (es.length + 1) * 56 ≤ 140737488355328 := by omega
    go_wp2_with (at_builtin; refine wpList_append_put rfl (.tmp 10) (.tmp 13) 25 rfl w.heap.size 53 i1 (.agg #[.string ⟨#[]⟩, .int .i64 0, .int .i64 0, .slice none 0 0]) 4 56 Tryz.underlying25 ki kz0 kz1 kz2 rfl (by decide) _ _ _ rfl Q2.out _ rfl rfl rfl (by intro u hu; simp at hu; rcases hu with rfl | rfl | rfl | rfl <;> rfl) hm1 hm1' (by omega) ?_; intro av4 cv4 w4 hown4 hk4; have O4 := hide hown4; have K4 := hide hk4; clear hown4 hk4)
    go_ret
    refine ⟨es ++ [e], av4, cv4, by rw [List.length_append]; rfl, goodH_snoc HRi.out.rise HRi.out.home, by rw [List.length_append]; simp; omega, fun y hy => ?_, ?_, ?_, ?_⟩
    · rcases List.mem_append.1 hy with hy | hy
      · exact right_small HRi.out y hy
      · simp only [List.mem_singleton] at hy; subst hy; omega
    · rw [List.length_append]
      exact GE.push2 Q1.out Q2.out Q3.out Q4.out Q5.out (by omega) (by omega) O3.out O4.out K4.out
    · exact (S3.out.kept K4.out (fun b hb e => by have := (Q2.out.lt b e).1; omega)).mono (by omega)
    · exact K3.out.trans_own K4.out (fun b hb e => by have := (Q2.out.lt b e).1; omega)
  · by_cases h1 : i = 1
    · subst h1
      by_cases hpos : 0 < es.length
      · have hpos' : (0 : Int) < (es.length : Int) := by omega
        obtain ⟨g, rfl, -⟩ := G2.out.addr rfl (.inl hpos)
        go_wp2_with fail
        refine (bentEntry_e p zs _ _ S2.out HU.out (by omega) hl).mono ?_
        rintro r w3 ⟨e, a, c, rfl, ⟨hel, hec⟩, ho3, s3, k3⟩
        have G3 := hide (G2.out.kept k3 (fun b h1 _ e => by omega))
        have S3 := hide s3
        have K3 := hide (K2.out.trans k3)
        have O3 := hide ho3
        have hs3 := k3.size
        clear ho3 s3 k3
        have he0 : es[0]? = some es[0] := List.getElem?_eq_getElem hpos
        obtain ⟨G, x', y', hGe, hg1, hg2, m0, m1, m2, m3, mf, -⟩ := G3.out.open he0
        simp only [Option.some.injEq, Addr.mk.injEq, and_true] at hGe
        subst hGe
        have mf0 := mf 0
        have mf1 := mf 1
        have mf2 := mf 2
        have mf3 := mf 3
        simp only [Nat.zero_mul, Nat.zero_add] at m0 m1 m2 m3
        generalize es[0] = z0 at *
        clear mf he0
        have HST := hide (GE.store2 (j := 0) G3.out rfl hpos (by omega) (by omega) O3.out)
        simp only [Nat.zero_mul, Nat.zero_add] at HST
        go_wp2_with fail
        go_ret
        have hk : Kept (fun b => b = g) w3 ((((w3.setCell ⟨g, 0, none⟩ (.string (str e.path))).setCell ⟨g, 1, none⟩ (.int .i64 e.kind)).setCell ⟨g, 2, none⟩ (.int .i64 e.size)).setCell ⟨g, 3, none⟩ (.slice a e.chunks.length c)) :=
          Kept.setCell (S := fun b => b = g) (p := ⟨g, 3, none⟩) (Kept.setCell (S := fun b => b = g) (p := ⟨g, 2, none⟩) (Kept.two _ _ _ _ _ _) (fun _ => rfl) _) (fun _ => rfl) _
        have hgood : GoodH (es.set 0 e) := by
          cases hes : es with
          | nil => rw [hes] at hpos; simp at hpos
          | cons r0 tl =>
            have := HRi.out
            rw [hes] at this
            exact goodH_set this
        refine ⟨es.set 0 e, some ⟨g, 0, none⟩, lc, by rw [List.length_set]; rfl, hgood, by rw [List.length_set]; omega, fun y hy => ?_, ?_, ?_, ?_⟩
        · rcases List.mem_or_eq_of_mem_set hy with hy | rfl
          · exact right_small HRi.out y hy
          · omega
        · rw [List.length_set]
          simpa [World.setCell] using HST.out
        · exact (S3.out.kept hk (fun b hb e => by omega)).mono (by omega)
        · exact K3.out.trans_own hk (fun b hb e => by omega)
      · have hpos' : ¬ (0 : Int) < (es.length : Int) := by omega
        go_wp2_with fail
        go_ret
        exact ⟨es, lv, lc, rfl, goodH_rise HRi.out.rise, by omega, right_small HRi.out, G2.out, S2.out.mono (by omega), K2.out⟩
    · by_cases h2 : i = 2
      · subst h2
        have hby : i1.bytes * 13 ≤ 281474976710656 := by rw [kz2]; omega
        have hml : 13 ≤ maxLen := by unfold maxLen; omega
        go_wp2_with (at_make; refine wpList_make_full _ rfl (.const (.int .i64 13)) (.const (.int .i64 13)) 25 rfl w2.heap.size 53 i1 (.agg #[.string ⟨#[]⟩, .int .i64 0, .int .i64 0, .slice none 0 0]) 4 Tryz.underlying25 ki kz0 kz1 .i64 .i64 _ _ 13 rfl rfl rfl rfl hby hml (Nat.le_refl _) ?_; intro w3 ho3 hg3; have O3 := hide ho3; have GW := hide hg3; clear ho3 hg3)
        have B3 : Hid (Below w2.heap.size w2 w3) := (Below.refl _ _).grown GW.out (Nat.le_refl _) (fun k hk => by simp at hk)
        have G3 := hide (GE.mono (B' := w.heap.size) (GE.zeros (T := w3.heap.size) O3.out (fun b hb => (O3.out.lt b hb).2)) (by omega))
        have hlr : (List.replicate 13 zEn).length = 13 := by simp
        go_wp2_with fail
        go_ret
        refine ⟨List.replicate 13 zEn, some ⟨w2.heap.size, 0, none⟩, 13, by rw [hlr]; rfl, goodH_first (e := zEn) (tl := List.replicate 12 zEn) (by decide), by rw [hlr]; decide, fun y hy => ?_, by rw [hlr]; exact G3.out, (S2.out.below B3.out).mono (by omega), K2.out.trans (Kept.of_below B3.out)⟩
        rw [(List.mem_replicate.1 hy).2]
        simp [zEn]
      · have e0 : ((i : Int) == 0) = false := by simp; omega
        have e1 : ((i : Int) == 1) = false := by simp; omega
        have e2 : ((i : Int) == 2) = false := by simp; omega
        clear h0 h1 h2
        go_wp2_with fail
        go_ret
        exact ⟨es, lv, lc, rfl, goodH_rise HRi.out.rise, by omega, right_small HRi.out, G2.out, S2.out.mono (by omega), K2.out⟩


end Go.Proofs.YtebgfaohhhgdpaaGreat

namespace Go.Proofs.YtebgfaohhhgdpaaGreat
open Go.RowKit Go.Maps
set_option linter.unusedVariables false
attribute [local go_sem ↓] Go.wp_at_zero Go.wp_at_succ

structure Ly where
  es : List En
  a : Option Addr
  c : Nat
def lyV (x : Ly) : Value := .slice x.a x.es.length x.c
def OwnLs (p base : Nat) (w : World) (v : Value) (rs : List Ly) : Prop :=
  w.ownsRow base 25 1 v rs.length (rs.map lyV) ∧ ∀ x ∈ rs, ∃ B T, p < B ∧ T ≤ w.heap.size ∧ (∀ g, v.ownBlock = some g → g < B ∨ T ≤ g) ∧ GE B T w (lyV x) x.es
theorem OwnLs.made (p : Nat) (w : World) : OwnLs p w.heap.size (w.alloc (.cells #[] 25)) (.slice (some ⟨w.heap.size, 0, none⟩) 0 0) [] :=
  ⟨World.ownsRow_made w #[] 0 (Nat.le_refl _) (Nat.zero_le _) rfl, fun x hx => by simp at hx⟩
theorem OwnLs.kept {p base : Nat} {w w' : World} {v : Value} {rs : List Ly} (h : OwnLs p base w v rs) (hk : Kept (fun b => b = p) w w') (hp : p < base) : OwnLs p base w' v rs := by
  refine ⟨h.1.kept (row := some p) ⟨hk.os, hk.tape, hk.output, hk.size, fun k hk2 hne => hk.block k hk2 (fun e => hne (by rw [e]))⟩ (Or.inr fun e => by have := (h.1.lt p e).1; omega), fun x hx => ?_⟩
  obtain ⟨B, T, h1, h2, h3, h4⟩ := h.2 x hx
  exact ⟨B, T, h1, Nat.le_trans h2 hk.size, h3, h4.kept hk (fun b hb _ e => by omega)⟩
theorem OwnLs.below {p base : Nat} {w w' : World} {v : Value} {rs : List Ly} (h : OwnLs p base w v rs) (hk : Below w.heap.size w w') : OwnLs p base w' v rs := by
  refine ⟨h.1.kept (row := none) ⟨hk.os, hk.tape, hk.output, hk.size, fun k hk2 _ => hk.block k hk2⟩ ?_, fun x hx => ?_⟩
  · cases hv : v.ownBlock
    · exact Or.inl rfl
    · exact Or.inr (by simp)
  · obtain ⟨B, T, h1, h2, h3, h4⟩ := h.2 x hx
    exact ⟨B, T, h1, Nat.le_trans h2 hk.size, h3, h4.below hk⟩
theorem OwnLs.snoc {p base : Nat} {w w2 : World} {v v' : Value} {rs : List Ly} {x : Ly} {B T : Nat} {o : Obj} (h : OwnLs p base w v rs) (hp : p < B) (hT : T ≤ w.heap.size) (hvB : ∀ g, v.ownBlock = some g → g < B ∨ T ≤ g) (hG : GE B T w (lyV x) x.es)
    (hown : w2.ownsRow base 25 1 v' (rs.length + 1) (rs.map lyV ++ [lyV x])) (hg : (w.alloc o).grownBy w2 v.ownBlock) (hv' : v'.ownBlock = v.ownBlock ∨ v'.ownBlock = some (w.alloc o).heap.size) : OwnLs p base w2 v' (rs ++ [x]) := by
  have hs : (w.alloc o).heap.size = w.heap.size + 1 := by simp
  have hA := below_alloc w o
  have hgs := hg.size
  have step : ∀ y B T, p < B → T ≤ w.heap.size → (∀ g, v.ownBlock = some g → g < B ∨ T ≤ g) → GE B T w (lyV y) y.es → ∃ B T, p < B ∧ T ≤ w2.heap.size ∧ (∀ g, v'.ownBlock = some g → g < B ∨ T ≤ g) ∧ GE B T w2 (lyV y) y.es := by
    intro y B T h1 h2 h3 h4
    refine ⟨B, T, h1, by omega, fun g hgv => ?_, (h4.below hA).kept (S := fun b => v.ownBlock = some b) ⟨hg.os, hg.tape, hg.output, hg.size, fun k hk hn => hg.block k hk (fun e => hn e.symm)⟩ (fun b hb ht e => by rcases h3 b e with h5 | h5 <;> omega)⟩
    rcases hv' with e | e
    · exact h3 g (e.symm.trans hgv)
    · rw [e] at hgv
      have := Option.some.inj hgv
      exact Or.inr (by omega)
  refine ⟨by simpa using hown, fun y hy => ?_⟩
  rcases List.mem_append.1 hy with hy | hy
  · obtain ⟨B, T, h1, h2, h3, h4⟩ := h.2 y hy
    exact step y B T h1 h2 h3 h4
  · simp only [List.mem_singleton] at hy
    subst hy
    exact step _ B T hp hT hvB hG
theorem OwnLs.shape {p base : Nat} {w : World} {v : Value} {rs : List Ly} (h : OwnLs p base w v rs) : ∃ a c, v = .slice a rs.length c := ownsRow_shape h.1
theorem OwnLs.rd {p base : Nat} {w : World} {a : Option Addr} {n c : Nat} {rs : List Ly} (h : OwnLs p base w (.slice a n c) rs) : RdL w a (rs.map Ly.es) := by
  intro hz
  have hne : rs ≠ [] := fun e => hz (by rw [e]; rfl)
  have hpos : 0 < rs.length := List.length_pos_iff.2 hne
  have hrow := h.1
  rcases hrow.2 with ⟨h', h0⟩ | ⟨g, cap, cur, h', hb, hgb, _⟩
  · omega
  · simp only [Value.slice.injEq] at h'
    obtain ⟨rfl, rfl, rfl⟩ := h'
    have hlt : g < w.heap.size := (Array.getElem?_eq_some_iff.1 hgb).1
    refine ⟨g, 0, fun i => ((rs[i]?).map Ly.a).getD none, fun i => ((rs[i]?).map Ly.c).getD 0, rfl, hlt, fun i es he => ?_⟩
    rw [List.getElem?_map] at he
    obtain ⟨x, hx, rfl⟩ := Option.map_eq_some_iff.1 he
    have hi : i < rs.length := (List.getElem?_eq_some_iff.1 hx).1
    simp only [hx, Option.map_some, Option.getD_some, Nat.zero_add]
    refine ⟨?_, ?_⟩
    · have := hrow.cellAt i (by omega)
      rw [this, List.getElem?_map, hx]; rfl
    · obtain ⟨B, T, _, _, _, h4⟩ := h.2 x (List.mem_of_getElem? hx)
      exact GE.rd (show GE B T w (.slice x.a x.es.length x.c) x.es from h4)
theorem infoLs : (Tryz.prog.info? 25).map (fun i => (i.zero, i.size, i.bytes)) = some (some (.slice none 0 0), 1, 24) := by kernel_rfl
end Go.Proofs.YtebgfaohhhgdpaaGreat

namespace Go.Proofs.YtebgfaohhhgdpaaGreat
open Go.RowKit Go.Maps
set_option linter.unusedVariables false
attribute [local go_sem ↓] Go.wp_at_zero Go.wp_at_succ

theorem kept_none {w w' : World} (h : w.grownBy w' none) : Below w.heap.size w w' := ⟨h.os, h.tape, h.output, h.size, fun k hk => h.block k hk (by simp)⟩
theorem wpList_copy_onto {P : Program} {w : World} {ops : Array Oper} {rest : List Oper} {o : Oper} {a : Act} {Q : Exit → Act → World → Prop} (hgd : o.guard = none) (d s : Operand) (t : TypeId)
    (ho : o.op = .call { callee := .builtin .copy, args := #[d, s], argTypes := #[t, t] })
    (base : Nat) (e : TypeId) (i : TypeInfo) (size : Nat) (ht : P.underlying t = some (.slice e)) (hi : P.info? e = some i) (hsize : i.size = size) (hpos : 0 < size)
    (g n c : Nat) (xs : List Value) (hd : a.eval d = .slice (some ⟨g, 0, none⟩) n c) (hown : w.ownsRow base e size (.slice (some ⟨g, 0, none⟩) n c) n xs)
    (sp : Option Addr) (m sc : Nat) (cs : List Value) (hs : a.eval s = .slice sp m sc) (hm : m ≤ n) (hcl : cs.length = m * size)
    (hsrc : cs ≠ [] → ∃ ad, sp = some ad ∧ ∀ j u, cs[j]? = some u → w.cell? (ad.add j) = some u) (h1 : ∀ u ∈ cs, u.oneCell' = true)
    (h : ∀ w', w'.ownsRow base e size (.slice (some ⟨g, 0, none⟩) n c) n (cs ++ xs.drop (m * size)) → Kept (fun b => b = g) w w' → wpList P ops Q rest (a.put o.dst (goInt m)) w') :
    wpList P ops Q (o :: rest) a w := by
  have hmin : Nat.min m n = m := Nat.min_eq_left hm
  refine wpList_plain hgd fun K hK => ?_
  by_cases hz : cs = []
  · subst hz
    have hm0 : m = 0 := by
      simp only [List.length_nil] at hcl
      rcases Nat.mul_eq_zero.1 hcl.symm with h0 | h0
      · exact h0
      · omega
    subst hm0
    have hl : ∀ (x : Addr), (loadCells x 0).run P w = .ok #[] w := fun x => by simpa using run_loadCells_list (P := P) w x [] (by simp)
    have hrun : (Builtin.copy_ #[t, t] o.type #[.slice (some ⟨g, 0, none⟩) n c, .slice sp 0 sc]).run P w = .ok (goInt 0) w := by
      cases sp <;> simp [Builtin.copy_, run_underlying ht, Builtin.lenOf, Builtin.firstCells, sizeOf, typeInfo, hi, storeCells, hl]
    unfold Oper.wp
    simp [execOp, ho, resolve, invoke, builtin, hd, hs, hrun, Result.andThen]
    exact hK _ _ (h w (by simpa using hown) (Kept.refl _ _))
  · obtain ⟨ad, rfl, hsr2⟩ := hsrc hz
    rcases hown.2 with ⟨hv, _⟩ | ⟨g', cap, cur, hv, hb, hh, hnc, hcm, hcs, htk⟩
    · cases hv
    · cases hv
      have hfit : cs.length ≤ cur.size := by
        rw [hcl, hcs]
        exact Nat.mul_le_mul_right _ (Nat.le_trans hm hnc)
      have hl := run_loadCells_list (P := P) w ad cs hsr2
      have hst := run_storeCells_at P g 0 e cs 0 cur w hh (by simpa using hfit) h1
      have hrun : (Builtin.copy_ #[t, t] o.type #[.slice (some ⟨g, 0, none⟩) n c, .slice (some ad) m sc]).run P w = .ok (goInt m) (w.setRow g (cs ++ cur.toList.drop cs.length).toArray) := by
        rw [hcl] at hl
        simp [Builtin.copy_, run_underlying ht, Builtin.lenOf, Builtin.firstCells, sizeOf, typeInfo, hi, hsize, hmin, hl, hst]
      unfold Oper.wp
      simp [execOp, ho, resolve, invoke, builtin, hd, hs, hrun, Result.andThen]
      refine hK _ _ (h _ ⟨?_, .inr ⟨g, c, (cs ++ cur.toList.drop cs.length).toArray, rfl, hb, setRow_heap w g cur _ e (0, 0) hh, hnc, hcm, ?_, ?_⟩⟩ ⟨rfl, rfl, rfl, by simp [World.setRow], fun k hk hn => setRow_other w g k _ hn⟩)
      · rw [List.length_append, List.length_drop, hown.1, hcl, ← Nat.sub_mul, ← Nat.add_mul]
        congr 1; omega
      · simp only [List.size_toArray, List.length_append, List.length_drop, Array.length_toList]
        omega
      · have hle : cs.length ≤ n * size := by rw [hcl]; exact Nat.mul_le_mul_right _ hm
        rw [List.take_append, List.take_of_length_le hle, ← htk, List.drop_take, hcl]
theorem RdL.cells {w : World} {a : Option Addr} {ls : List (List En)} (h : RdL w a ls) : ∃ vs : List Value, vs.length = ls.length ∧ (∀ W : World, Below w.heap.size w W → vs ≠ [] → ∃ ad, a = some ad ∧ ∀ j u, vs[j]? = some u → W.cell? (ad.add j) = some u) ∧ (∀ u ∈ vs, u.oneCell' = true) ∧ ∀ (i : Nat) (es : List En), ls[i]? = some es → ∃ x c, vs[i]? = some (Value.slice x es.length c) ∧ RdE w x es := by
  by_cases hz : ls = []
  · subst hz
    exact ⟨[], rfl, fun _ _ h => absurd rfl h, fun u hu => by simp at hu, fun i es he => by simp at he⟩
  · obtain ⟨b, off, A, C, rfl, hb, hc⟩ := h hz
    refine ⟨(List.range ls.length).map fun i => Value.slice (A i) (ls.getD i []).length (C i), by simp, fun W hW _ => ⟨⟨b, off, none⟩, rfl, fun j u hj => ?_⟩, fun u hu => ?_, fun i es he => ?_⟩
    · have hlt : j < ls.length := by have := (List.getElem?_eq_some_iff.1 hj).1; simpa using this
      have he : ls[j]? = some ls[j] := List.getElem?_eq_getElem hlt
      obtain ⟨c0, -⟩ := hc j _ he
      rw [List.getElem?_map, List.getElem?_range hlt] at hj
      simp only [Option.map_some, Option.some.injEq] at hj
      rw [add_addr, hW.cell (p := ⟨b, off + j, none⟩) hb, c0, ← hj]
      simp [List.getD_eq_getElem?_getD, he]
    · obtain ⟨i, -, rfl⟩ := List.mem_map.1 hu
      rfl
    · have hlt : i < ls.length := (List.getElem?_eq_some_iff.1 he).1
      obtain ⟨-, r⟩ := hc i es he
      exact ⟨A i, C i, by rw [List.getElem?_map, List.getElem?_range hlt]; simp [List.getD_eq_getElem?_getD, he], r⟩
theorem made_last (n : Nat) : (madeCells (Value.slice none 0 0).cells ((n + 1) * 1)).toList.drop (n * 1) = [Value.slice none 0 0] := by
  unfold madeCells
  simp only [Nat.mul_one, Array.toList_map, Array.toList_range, List.range_succ, List.map_append]
  rw [List.drop_append_of_le_length (by simp), List.drop_of_length_le (by simp)]
  simp [Value.cells, Nat.mod_one]
theorem rdL_made {w W : World} {ls : List (List En)} {U : List En} {u : Option Addr} {uc : Nat} {vs : List Value} {x : Value} (hO : W.ownsRow w.heap.size 25 1 (.slice (some ⟨w.heap.size, 0, none⟩) (ls.length + 1) (ls.length + 1)) (ls.length + 1) (vs ++ [x])) (hB : Below w.heap.size w W) (hv : vs.length = ls.length)
    (hr : ∀ (i : Nat) (es : List En), ls[i]? = some es → ∃ x c, vs[i]? = some (Value.slice x es.length c) ∧ RdE w x es) (hU : RdE w u U) : RdL (W.setCell ⟨w.heap.size, ls.length, none⟩ (.slice u U.length uc)) (some ⟨w.heap.size, 0, none⟩) (ls ++ [U]) := by
  have hlt := (hO.lt w.heap.size rfl).2
  have hK : Kept (fun b => b = w.heap.size) W (W.setCell ⟨w.heap.size, ls.length, none⟩ (.slice u U.length uc)) := Kept.setCell (S := fun b => b = w.heap.size) (p := ⟨w.heap.size, ls.length, none⟩) (Kept.refl _ _) (fun _ => rfl) _
  have hBB : Below w.heap.size w (W.setCell ⟨w.heap.size, ls.length, none⟩ (.slice u U.length uc)) := hB.setCell (p := ⟨w.heap.size, ls.length, none⟩) (Nat.le_refl _) _
  have hc : ∀ j, j < ls.length + 1 → W.cell? ⟨w.heap.size, j, none⟩ = (vs ++ [x])[j]? := fun j hj => hO.cellAt j (by omega)
  have hat : ∀ i es, (ls ++ [U])[i]? = some es → ∃ x c, (W.setCell ⟨w.heap.size, ls.length, none⟩ (.slice u U.length uc)).cell? ⟨w.heap.size, 0 + i, none⟩ = some (.slice x es.length c) ∧ RdE (W.setCell ⟨w.heap.size, ls.length, none⟩ (.slice u U.length uc)) x es := fun i es he => by
    rw [Nat.zero_add]
    by_cases hi : i < ls.length
    · rw [List.getElem?_append_left hi] at he
      obtain ⟨y, c, hy, hre⟩ := hr i es he
      refine ⟨y, c, ?_, hre.below hBB⟩
      rw [cell_set_other (fun e => absurd (congrArg Addr.off e) (by show ¬ ls.length = i; omega)), hc i (by omega), List.getElem?_append_left (by omega)]
      exact hy
    · have hi2 : i = ls.length := by
        have := (List.getElem?_eq_some_iff.1 he).1
        simp at this; omega
      subst hi2
      simp at he
      subst he
      refine ⟨u, uc, ?_, hU.below hBB⟩
      exact cell_set_same (u := x) (by rw [hc _ (by omega), List.getElem?_append_right (by omega)]; simp [hv])
  intro _
  refine ⟨w.heap.size, 0, fun i => ((ls ++ [U])[i]?.bind fun es => if h : (ls ++ [U])[i]? = some es then some (Classical.choose (hat i es h)) else none).getD none, fun i => ((ls ++ [U])[i]?.bind fun es => if h : (ls ++ [U])[i]? = some es then some (Classical.choose (Classical.choose_spec (hat i es h))) else none).getD 0, rfl, ?_, fun i es he => ?_⟩
  · simp [World.setCell]; exact hlt
  · have h1 := Classical.choose_spec (Classical.choose_spec (hat i es he))
    simp only [he, Option.bind_some, dif_pos]
    exact h1
theorem row_end {w : World} {B g n c : Nat} {t : TypeId} {vs : List Value} {x : Value} (h : w.ownsRow B t 1 (.slice (some ⟨g, 0, none⟩) (n + 1) c) (n + 1) (vs ++ [x])) (hv : vs.length = n) : w.cell? ⟨g, n, none⟩ = some x := by
  rw [h.cellAt n (by omega), List.getElem?_append_right (by omega)]; simp [hv]
set_option maxRecDepth 100000 in
set_option maxHeartbeats 3200000 in
theorem withUpper_any (a : Option Addr) (c n : Nat) (ls : List (List En)) (u : Option Addr) (uc m : Nat) (U : List En) (w : World) (h : RdL w a ls) (hn : n = ls.length) (hl : ls.length ≤ 1000000) (hU : RdE w u U) (hm : m = U.length) :
    Calls Tryz.prog 27 #[.slice a n c, .slice u m uc] w fun r w' => ∃ av cv, r = .returned (.slice av (ls ++ [U]).length cv) ∧ RdL w' av (ls ++ [U]) ∧ Below w.heap.size w w' := by
  subst hn
  subst hm
  obtain ⟨i1, ki, kz0, kz1, kz2⟩ := info_parts infoLs
  obtain ⟨vs, hvl, hvc, hv1, hvr⟩ := RdL.cells h
  have HVC := hide hvc
  have HV1 := hide hv1
  have HVR := hide hvr
  have HU := hide hU
  have hby : i1.bytes * (ls.length + 1) ≤ 281474976710656 := by rw [kz2]; omega
  have hml : ls.length + 1 ≤ maxLen := by unfold maxLen; omega
  have hk0 : (0 : Int) ≤ (ls.length : Int) := by omega
  have hvn : vs.length = ls.length * 1 := by omega
  have hle : ls.length ≤ ls.length + 1 := by omega
  have HLen := hide (show (ls ++ [U]).length = ls.length + 1 by simp)
  have HVL := hide hvl
  clear h hvc hv1 hvr hU hvl
  have HVN := hide hvn
  clear hvn
  have HZC : Hid ((madeCells (Value.slice none 0 0).cells ((ls.length + 1) * 1)).toList.drop (ls.length * 1) = [Value.slice none 0 0]) := hide (made_last ls.length)
  have HRd : Hid (∀ (W : World) (x : Value), W.ownsRow w.heap.size 25 1 (.slice (some ⟨w.heap.size, 0, none⟩) (ls.length + 1) (ls.length + 1)) (ls.length + 1) (vs ++ [x]) → Below w.heap.size w W → RdL (W.setCell ⟨w.heap.size, ls.length, none⟩ (.slice u U.length uc)) (some ⟨w.heap.size, 0, none⟩) (ls ++ [U])) := hide (fun W x hO hB => rdL_made hO hB HVL.out HVR.out HU.out)
  generalize hNN : ls.length = N at *
  clear hNN
  have hw1 : IntKind.i64.wrap ((N : Int) + 1) = ((N : Int) + 1) := by simp [IntKind.wrap, IntKind.signed, IntKind.bits]; omega
  have hk1 : (N : Int) < ((N : Int) + 1) := by omega
  go_enter Tryz.func27, Tryz.ntmps27
  go_wp2_with (first
    | (at_make; refine wpList_make_full _ rfl (.tmp 8) (.tmp 8) 24 rfl w.heap.size 25 i1 (.slice none 0 0) 1 Tryz.underlying24 ki kz0 kz1 .i64 .i64 _ _ (N + 1) rfl rfl (by simp) (by simp) hby hml (Nat.le_refl _) ?_; intro w1 ho1 hg1; have O1 := hide ho1; have B1 := hide (kept_none hg1); clear ho1 hg1)
    | (refine wpList_copy_onto rfl (.tmp 10) (.tmp 11) 24 rfl w.heap.size 25 i1 1 Tryz.underlying24 ki kz1 (by decide) w.heap.size (N + 1) (N + 1) _ rfl O1.out a N c vs rfl hle HVN.out (HVC.out w1 B1.out) HV1.out ?_; rw [HZC.out]; intro w2 ho2 hk2; have O2 := hide ho2; have B2 := hide (B1.out.trans (hk2.below (B := w.heap.size) B1.out.size (fun b hb e => by omega))); have cN : w2.cell? ⟨w.heap.size, N, none⟩ = some (.slice none 0 0) := (row_end ho2 HVL.out); have fN : w2.frozen? ⟨w.heap.size, N, none⟩ = false := ho2.frozenAt _; clear ho2 hk2))
  go_ret
  exact ⟨_, _, by rw [HLen.out]; rfl, HRd.out _ _ O2.out B2.out, B2.out.setCell (p := ⟨w.heap.size, N, none⟩) (Nat.le_refl _) _⟩
end Go.Proofs.YtebgfaohhhgdpaaGreat

