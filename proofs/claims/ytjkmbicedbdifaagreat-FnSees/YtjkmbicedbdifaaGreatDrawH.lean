/-
  The model's draws of a right layer.
-/
import Derived.Test.YtjkmbicedbdifaaGreatDrawG
import Derived.Test.YtjkmbicedbdifaaGreatJ3
namespace Go.Proofs.YtjkmbicedbdifaaGreat
open Go.RowKit Go.Maps
set_option linter.unusedVariables false
attribute [local go_sem ↓] Go.wp_at_zero Go.wp_at_succ

theorem up_parent {p q : Bs} {i : Nat} (hp : faultP p = 0) (h : (aboveN (cutB p.tail))[i]? = some q) :
    faultP q = 0 ∧ ((parentP q = [] ∧ i = 0) ∨ ∃ j, i = j + 1 ∧ (aboveN (cutB p.tail))[j]? = some (parentP q)) := by
  obtain ⟨ns, hN, hpe, hc, hs⟩ := faultP_zero hp
  rw [hc] at h ⊢
  have hi : i < ns.length - 1 := by have := (List.getElem?_eq_some_iff.1 h).1; rwa [aboveN_length] at this
  have hq : q = joinB (ns.take (i + 1)) := by
    have := h
    unfold aboveN at this
    rw [List.getElem?_map, List.getElem?_range hi] at this
    simpa using this.symm
  have hNt : Names (ns.take (i + 1)) := names_take hN (by omega)
  have hcq : cutB q.tail = ns.take (i + 1) := by rw [hq]; exact cut_join hNt.1 (names_no hNt)
  refine ⟨by rw [hq]; exact faultP_of hNt, ?_⟩
  have hlen : (ns.take (i + 1)).length = i + 1 := by rw [List.length_take]; omega
  have hpar : parentP q = (aboveN (ns.take (i + 1))).getLastD [] := by rw [parentP, hcq]
  cases i with
  | zero =>
    refine .inl ⟨?_, rfl⟩
    rw [hpar, aboveN, hlen]
    rfl
  | succ j =>
    refine .inr ⟨j, rfl, ?_⟩
    rw [hpar]
    unfold aboveN
    rw [hlen, List.getElem?_map, List.getElem?_range (by omega), show j + 1 + 1 - 1 = j + 1 by omega, List.range_succ, List.map_append, List.map_cons, List.map_nil]
    simp [List.getLastD_eq_getLast?, List.take_take]
theorem path_short {p : Bs} (h : faultP p = 0) : p.length ≤ 15 := by
  obtain ⟨ns, hN, hpe, _, _⟩ := faultP_zero h
  have := join_len'' ns 4 hN.2.2.1
  have := hN.2.2.2
  rw [hpe]
  omega
theorem right_small {es : List En} (h : Right es) : SmallE es := fun e he => by
  have h1 := path_short (entFault_zero (h.ent e he))
  have h2 := entFault_chunks (h.ent e he)
  omega
theorem putCode_eq {es : List En} (h : Right es) (e : En) : putCode es e = putCodeP es e := by
  rw [putCode, putCodeP, right_E.2 h, right_P.2 h, homeP_eq h.rise]
theorem GE.keptP {p B : Nat} {w w' : World} {v : Value} {es : List En} (h : GE B w.heap.size w v es) (hk : Kept (fun b => b = p) w w') (hp : p < B) : GE B w'.heap.size w' v es :=
  (h.kept hk (fun b h1 _ e => by omega)).wide hk.size

theorem cells3h (w : World) (a b c : Int) (t : TypeId) : ∀ i, i < 3 → (w.alloc (.cells #[.int .i64 a, .int .i64 b, .int .i64 c] t)).cell? ⟨w.heap.size, i, none⟩ = some (.int .i64 ([a, b, c].getD i 0)) := by
  intro i hi
  match i, hi with
  | 0, _ | 1, _ | 2, _ => simp
/-- Where the layer has room all that is above place j is there. -/
def Upto (up : List Bs) (es : List En) (j : Nat) : Prop := es.length < 12 → j = 0 ∨ ∃ q, up[j - 1]? = some q ∧ hasDir es q = true
theorem hasDir_mem {es : List En} {d : En} {q : Bs} (h : d ∈ es) (hq : d.path = q) (hk : dirK d.kind = true) : hasDir es q = true := by
  rw [hasDir, List.any_eq_true]
  exact ⟨d, h, by simp [hq, hk]⟩
theorem hasDir_get {es : List En} {q : Bs} (h : hasDir es q = true) : ∃ d ∈ es, d.path = q ∧ dirK d.kind = true := by
  rw [hasDir, List.any_eq_true] at h
  obtain ⟨d, hd, h⟩ := h
  simp only [Bool.and_eq_true, decide_eq_true_eq] at h
  exact ⟨d, hd, h⟩
theorem put_dir {p q : Bs} {es : List En} {j : Nat} {k : Int} (hp : faultP p = 0) (hq : (aboveN (cutB p.tail))[j]? = some q) (hR : Right es) (hU : Upto (aboveN (cutB p.tail)) es j) (hl : es.length < 12) (hk : k = 2 ∨ k = 4) :
    Right (putE es ⟨q, k, 0, []⟩) ∧ Upto (aboveN (cutB p.tail)) (putE es ⟨q, k, 0, []⟩) (j + 1) := by
  obtain ⟨hf, hpar⟩ := up_parent hp hq
  have hef : entFault ⟨q, k, 0, []⟩ = 0 := bare_right hf (by rcases hk with rfl | rfl <;> decide)
  have hhome : homeP es q = true := by
    rw [homeP_iff]
    rcases hpar with ⟨h0, _⟩ | ⟨i, rfl, hi⟩
    · exact .inl h0
    · rcases hU hl with h | ⟨q', h1, h2⟩
      · omega
      · rw [Nat.add_sub_cancel, hi] at h1
        cases h1
        exact .inr (hasDir_get h2)
  have hlen : (putE es ⟨q, k, 0, []⟩).length ≤ 12 := by
    have : (putE es ⟨q, k, 0, []⟩).length = (baseE es ⟨q, k, 0, []⟩).length + 1 := by
      unfold putE putAt
      rw [List.length_append, List.length_cons, List.length_take, List.length_drop]
      omega
    have := baseE_len es ⟨q, k, 0, []⟩
    omega
  refine ⟨right_put hR hef hhome hlen, fun _ => .inr ⟨q, by rw [Nat.add_sub_cancel]; exact hq, ?_⟩⟩
  exact hasDir_mem (mem_putE.2 (.inl rfl)) rfl (decide_eq_true hk)

set_option maxRecDepth 100000 in
set_option maxHeartbeats 6400000 in
theorem right_e (p : Nat) (zs : List Int) (T : Int) (w : World) (h : SrcX w p zs T) (hu : U8 zs) (hT : T ≤ 500000) (hl : zs.length ≤ 2097152) :
    Calls Tryz.prog 57 #[.pointer (some ⟨p, 0, none⟩)] w fun r w' => ∃ (es : List En) (av : Option Addr) (cv : Nat), r = .returned (.slice av es.length cv) ∧ Right es ∧ GE w.heap.size w'.heap.size w' (.slice av es.length cv) es ∧ SrcX w' p zs (T + 1000) ∧ Kept (fun b => b = p) w w' := by
  have hp := h.lt
  have S0 := hide (h.below (below_alloc w (.cells #[] 40)))
  have G0 := hide (GE.made w)
  have K0 := hide ((Kept.refl (fun b => b = p) w).alloc (.cells #[] 40))
  have HU := hide hu
  clear h hu
  go_enter Tryz.func57, Tryz.ntmps57
  go_wp2_with fail
  refine (next_e p zs T 10 _ S0.out HU.out (by omega) (by decide) (by decide) hl).mono ?_
  rintro r w1 ⟨m0, rfl, hm0, s1, k1⟩
  have S1 := hide s1
  have K1 := hide (K0.out.trans k1)
  have G1 := hide (G0.out.keptP k1 hp)
  clear s1 k1 S0 K0 G0
  go_wp2_with fail
  go_loopw [3, 4] (fun v k wr => ∃ (m : Nat) (es : List En), k = .int .i64 m ∧ m ≤ 9 ∧ Hid (Right es) ∧ Hid (GE w.heap.size wr.heap.size wr v es) ∧ Hid (SrcX wr p zs (T + 1 + 60 * (9 - (m : Int)))) ∧ Hid (Kept (fun b => b = p) w wr)) (fun _ k _ => (intOf k).toNat)
  case atStart => exact ⟨m0, [], rfl, by omega, hide right_nil, G1, hide (S1.out.mono (by omega)), K1⟩
  case round =>
    obtain ⟨m, es, rfl, hm9, HRi, HG, HSr, HK⟩ := hrel
    obtain ⟨lv, lc, hv⟩ := HG.out.shape
    subst hv
    by_cases hm : 0 < m
    · have hm' : (0 : Int) < (m : Int) := by omega
      have hwr := HK.out.size
      go_wp2_with fail
      refine (drawEntry_e p zs _ _ HSr.out HU.out (by omega) hl).mono ?_
      rintro r w2 ⟨e, a, c, rfl, ⟨hef, hxl⟩, ho2, s2, k2⟩
      have hpz := entFault_zero hef
      have AE := hide (below_alloc w2 (.cells #[.string (str e.path), .int .i64 e.kind, .int .i64 e.size, .slice a e.chunks.length c] 40))
      have F2 := hide (Four.new w2 (.string (str e.path)) (.int .i64 e.kind) (.int .i64 e.size) (.slice a e.chunks.length c) 40)
      have S2 := hide (s2.below AE.out)
      have K2 := hide ((HK.out.trans k2).alloc (.cells #[.string (str e.path), .int .i64 e.kind, .int .i64 e.size, .slice a e.chunks.length c] 40))
      have G2 := hide (((HG.out.keptP k2 hp).below AE.out).wide AE.out.size)
      have R2 := hide ((ownInts_reads ho2 rfl).below AE.out)
      have hRb := hide (fun b (hb : (Value.slice a e.chunks.length c).ownBlock = some b) => (ho2.lt b hb).1)
      have HEF := hide hef
      have HPZ := hide hpz
      have hs2 := k2.size
      clear s2 k2 ho2 HG HSr HK hef
      have hcl : e.chunks.length ≤ 3 := entFault_chunks HEF.out
      go_wp2_with fail
      have hb2 : w2.heap.size < (w2.alloc (.cells #[.string (str e.path), .int .i64 e.kind, .int .i64 e.size, .slice a e.chunks.length c] 40)).heap.size := F2.out.lt
      generalize w2.alloc (.cells #[.string (str e.path), .int .i64 e.kind, .int .i64 e.size, .slice a e.chunks.length c] 40) = W2 at *
      obtain ⟨b2, hb2e⟩ : ∃ b2, b2 = w2.heap.size := ⟨_, rfl⟩
      rw [← hb2e] at F2 hb2 hs2 ⊢
      clear hb2e AE
      refine (l3Above_any _ _ (by rw [str_size]; exact path_pos hpz) (by rw [str_size]; omega)).mono ?_
      rintro r w3 ⟨uv, rfl, hO3, hb3⟩
      rw [str_data] at hO3
      obtain ⟨ua, uc, rfl⟩ := hO3.shape
      have UR := hide hO3.reads
      have hUB := hide (fun b hb => (hO3.lt b hb).1)
      have F3 := hide (F2.out.below hb3)
      have S3 := hide (S2.out.below hb3)
      have K3 := hide (K2.out.trans (Kept.of_below hb3))
      have G3 := hide ((G2.out.below hb3).wide hb3.size)
      have R3 := hide (R2.out.below hb3)
      have hs3 := hb3.size
      clear hb3 hO3 F2 S2 K2 G2 R2 hpz
      have hul : (aboveN (cutB e.path.tail)).length ≤ 2 := by
        obtain ⟨ns, hN, _, hc, _⟩ := faultP_zero HPZ.out
        rw [hc, aboveN_length]
        have := hN.2.2.2
        omega
      have hpw3 : p < w3.heap.size := S3.out.lt
      obtain ⟨up, hup⟩ : ∃ up, up = aboveN (cutB e.path.tail) := ⟨_, rfl⟩
      rw [← hup] at UR hUB hul ⊢
      have HUPE := hide hup
      clear hup
      go_wp2_with fail
      go_loopw [3, 7] (fun v i wr2 => ∃ (j : Nat) (fs : List En), i = .int .i64 j ∧ j ≤ up.length ∧ Hid (Right fs) ∧ Hid (Upto (aboveN (cutB e.path.tail)) fs j) ∧ Hid (GE w.heap.size wr2.heap.size wr2 v fs) ∧ Hid (SrcX wr2 p zs (T + 1 + 60 * (9 - (m : Int)) + 30 + j)) ∧ Hid (Kept (fun b => b = p) w3 wr2)) (fun _ i _ => up.length - (intOf i).toNat)
      case atStart => exact ⟨0, es, rfl, Nat.zero_le _, HRi, hide (fun _ => .inl rfl), G3, hide (by simpa using S3.out), hide (Kept.refl _ _)⟩
      case round =>
        obtain ⟨j, fs, rfl, hj, HR2, HUp, HG2, HS2, HK2⟩ := hrel
        obtain ⟨fv, fc, hv⟩ := HG2.out.shape
        subst hv
        have hf12 := HR2.out.len
        have hsz2 := HK2.out.size
        have UR2 := hide (UR.out.kept HK2.out (fun hz x hx e => by subst hx; have := hUB.out x.block rfl; omega))
        by_cases hlt : j < up.length
        · obtain ⟨bu, ou, q, rfl, hbu, hqu, hcq⟩ := UR2.out.at hlt
          have hbup : bu ≠ p := by have := hUB.out bu rfl; omega
          have hq : (aboveN (cutB e.path.tail))[j]? = some q := by rw [← HUPE.out]; exact hqu
          have HFQ := hide (up_parent HPZ.out hq).1
          clear hqu
          go_wp2_with fail
          refine (l4At_any fv fc fs.length fs q _ HG2.out.rd rfl (by omega)).mono ?_
          rintro r wr2 ⟨rfl, rfl⟩
          cases hat : atE fs q with
          | none =>
            simp only [placeI]
            by_cases hl12 : fs.length < 12
            · have hl12' : (fs.length : Int) < 12 := by omega
              have BD := hide ((below_alloc wr2 (.cells #[.int .i64 2, .int .i64 2, .int .i64 4] 2)).drew)
              have S5 := hide (HS2.out.below BD.out)
              have K5 := ((HK2.out.alloc (.cells #[.int .i64 2, .int .i64 2, .int .i64 4] 2)).drew)
              have G5 := hide ((HG2.out.below BD.out).wide BD.out.size)
              have CC : Hid (∀ i, i < 3 → (wr2.alloc (.cells #[.int .i64 2, .int .i64 2, .int .i64 4] 2)).drew.cell? ⟨wr2.heap.size, i, none⟩ = some (.int .i64 (([2, 2, 4] : List Int).getD i 0))) := hide (cells3h wr2 2 2 4 2)
              have cqd := (BD.out.cell (p := ⟨bu, ou + j, none⟩) hbu).trans hcq
              have HFS := hide (right_small HR2.out)
              go_wp2_with fail
              go_region_held3 (fun w' => w'.cell? ⟨bu, ou + j, none⟩ = some (.string (str q))) (first | exact c6 | exact c7 | go_keep)
                ((first
                  | (go_at_call 56; refine (pick_e p wr2.heap.size 3 3 [2, 2, 4] zs _ _ S5.out HU.out (by omega) hl (by decide) (by decide) rfl (by omega) (by show wr2.heap.size < (wr2.alloc (.cells #[.int .i64 2, .int .i64 2, .int .i64 4] 2)).heap.size; simp) CC.out).mono ?_; rintro r w6 ⟨kv, hkv, rfl, s6, k6⟩; have hlt6 : bu < (wr2.alloc (.cells #[.int .i64 2, .int .i64 2, .int .i64 4] 2)).drew.heap.size := (Nat.lt_of_lt_of_le hbu BD.out.size); have c6 := (k6.cell (p := ⟨bu, ou + j, none⟩) hlt6 (by omega)).trans cqd; have hlt7 : bu < w6.heap.size := Nat.lt_of_lt_of_le hlt6 k6.size; have S6 := hide s6; have K6 := hide (K5.trans k6); have G6 := hide (G5.out.keptP k6 hp); have HKV := hide (show kv = 2 ∨ kv = 4 from by simp at hkv; omega); have hs6 := k6.size; clear s6 k6 hkv)
                  | (go_at_call 94; refine (l4Put_any fv fc fs.length fs ⟨q, kv, 0, []⟩ none 0 0 _ G6.out.rd rfl (by omega) HFS.out rfl (fun h => absurd rfl h) (by show q.length ≤ 1048576; have := path_short HFQ.out; omega) (by simp)).mono ?_; rintro r w7 ⟨g7, cv7, rfl, hG7, hb7⟩; have c7 := (hb7.cell (p := ⟨bu, ou + j, none⟩) hlt7).trans c6; have S7 := hide (S6.out.below hb7); have K7 := hide (K6.out.trans (Kept.of_below hb7)); have G7 := hide (hG7.mono (B' := w.heap.size) (by have := K6.out.size; have := K3.out.size; omega)); clear hG7 hb7)))
              have HPD := hide (put_dir (k := kv) HPZ.out hq HR2.out HUp.out hl12 HKV.out)
              go_wp2_with fail
              go_roundw
              case rel => exact ⟨j + 1, putE fs ⟨q, kv, 0, []⟩, by go_num, by omega, hide HPD.out.1, hide HPD.out.2, G7, hide (S7.out.mono (by omega)), K7⟩
              case measure => simp [intOf]; omega
            · have hl12' : ¬ (fs.length : Int) < 12 := by omega
              go_wp2_with fail
              go_roundw
              case rel => exact ⟨j + 1, fs, by go_num, by omega, HR2, hide (fun h => absurd h (by omega)), HG2, hide (HS2.out.mono (by omega)), HK2⟩
              case measure => simp [intOf]; omega
          | some k =>
            have hkl := atE_lt hat
            have hfk := atE_find fs q
            rw [hat] at hfk
            obtain ⟨bf, off, d, xd, cd, rfl, hbf, hd, d0, d1, d2, d3, hrd⟩ := HG2.out.rd.at hkl
            rw [Option.bind_some, hd] at hfk
            obtain ⟨hdm, hdp⟩ := find_mem hfk
            simp only [placeI]
            have hk0 : ¬ (k : Int) < 0 := by omega
            have hk1 : (k : Int) < (fs.length : Int) := by omega
            clear hfk hrd d0 d2 d3 hat
            cases hdk : dirK d.kind
            · go_wp2_with fail
              refine (l4IsDir_any _ _ d.kind _ d1).mono ?_
              rintro r wr2 ⟨rfl, rfl⟩
              rw [hdk]
              clear d1
              obtain ⟨fv, hfv⟩ : ∃ fv : Option Addr, fv = some ⟨bf, off, none⟩ := ⟨_, rfl⟩
              rw [← hfv] at HG2 ⊢
              clear hfv
              by_cases hl12 : fs.length < 12
              · have hl12' : (fs.length : Int) < 12 := by omega
                have BD := hide ((below_alloc wr2 (.cells #[.int .i64 2, .int .i64 2, .int .i64 4] 2)).drew)
                have S5 := hide (HS2.out.below BD.out)
                have K5 := ((HK2.out.alloc (.cells #[.int .i64 2, .int .i64 2, .int .i64 4] 2)).drew)
                have G5 := hide ((HG2.out.below BD.out).wide BD.out.size)
                have CC : Hid (∀ i, i < 3 → (wr2.alloc (.cells #[.int .i64 2, .int .i64 2, .int .i64 4] 2)).drew.cell? ⟨wr2.heap.size, i, none⟩ = some (.int .i64 (([2, 2, 4] : List Int).getD i 0))) := hide (cells3h wr2 2 2 4 2)
                have cqd := (BD.out.cell (p := ⟨bu, ou + j, none⟩) hbu).trans hcq
                have HFS := hide (right_small HR2.out)
                go_wp2_with fail
                go_region_held3 (fun w' => w'.cell? ⟨bu, ou + j, none⟩ = some (.string (str q))) (first | exact c6 | exact c7 | go_keep)
                  ((first
                    | (go_at_call 56; refine (pick_e p wr2.heap.size 3 3 [2, 2, 4] zs _ _ S5.out HU.out (by omega) hl (by decide) (by decide) rfl (by omega) (by show wr2.heap.size < (wr2.alloc (.cells #[.int .i64 2, .int .i64 2, .int .i64 4] 2)).heap.size; simp) CC.out).mono ?_; rintro r w6 ⟨kv, hkv, rfl, s6, k6⟩; have hlt6 : bu < (wr2.alloc (.cells #[.int .i64 2, .int .i64 2, .int .i64 4] 2)).drew.heap.size := (Nat.lt_of_lt_of_le hbu BD.out.size); have c6 := (k6.cell (p := ⟨bu, ou + j, none⟩) hlt6 (by omega)).trans cqd; have hlt7 : bu < w6.heap.size := Nat.lt_of_lt_of_le hlt6 k6.size; have S6 := hide s6; have K6 := hide (K5.trans k6); have G6 := hide (G5.out.keptP k6 hp); have HKV := hide (show kv = 2 ∨ kv = 4 from by simp at hkv; omega); have hs6 := k6.size; clear s6 k6 hkv)
                    | (go_at_call 94; refine (l4Put_any fv fc fs.length fs ⟨q, kv, 0, []⟩ none 0 0 _ G6.out.rd rfl (by omega) HFS.out rfl (fun h => absurd rfl h) (by show q.length ≤ 1048576; have := path_short HFQ.out; omega) (by simp)).mono ?_; rintro r w7 ⟨g7, cv7, rfl, hG7, hb7⟩; have c7 := (hb7.cell (p := ⟨bu, ou + j, none⟩) hlt7).trans c6; have S7 := hide (S6.out.below hb7); have K7 := hide (K6.out.trans (Kept.of_below hb7)); have G7 := hide (hG7.mono (B' := w.heap.size) (by have := K6.out.size; have := K3.out.size; omega)); clear hG7 hb7)))
                have HPD := hide (put_dir (k := kv) HPZ.out hq HR2.out HUp.out hl12 HKV.out)
                go_wp2_with fail
                go_roundw
                case rel => exact ⟨j + 1, putE fs ⟨q, kv, 0, []⟩, by go_num, by omega, hide HPD.out.1, hide HPD.out.2, G7, hide (S7.out.mono (by omega)), K7⟩
                case measure => simp [intOf]; omega
              · have hl12' : ¬ (fs.length : Int) < 12 := by omega
                go_wp2_with fail
                go_roundw
                case rel => exact ⟨j + 1, fs, by go_num, by omega, HR2, hide (fun h => absurd h (by omega)), HG2, hide (HS2.out.mono (by omega)), HK2⟩
                case measure => simp [intOf]; omega
            · have HUq := hide (show Upto (aboveN (cutB e.path.tail)) fs (j + 1) from fun _ => .inr ⟨q, by rw [Nat.add_sub_cancel]; exact hq, hasDir_mem hdm hdp hdk⟩)
              go_wp2_with fail
              refine (l4IsDir_any _ _ d.kind _ d1).mono ?_
              rintro r wr2 ⟨rfl, rfl⟩
              rw [hdk]
              clear d1
              go_wp2_with fail
              go_roundw
              case rel => exact ⟨j + 1, fs, by go_num, by omega, HR2, HUq, HG2, hide (HS2.out.mono (by omega)), HK2⟩
              case measure => simp [intOf]; omega
        · have F9 := F3.out
          have R9 := hide (R3.out.kept HK2.out (fun hz x hx e => by subst hx; have := hRb.out x.block rfl; omega))
          have hbw3 : b2 < w3.heap.size := F3.out.lt
          have n0 : ¬ b2 = p := by omega
          have g0 := (HK2.out.cell (p := ⟨b2, 0, none⟩) hbw3 n0).trans F9.1
          have g1 := (HK2.out.cell (p := ⟨b2, 1, none⟩) hbw3 n0).trans F9.2.1
          have g2 := (HK2.out.cell (p := ⟨b2, 2, none⟩) hbw3 n0).trans F9.2.2.1
          have g3 := (HK2.out.cell (p := ⟨b2, 3, none⟩) hbw3 n0).trans F9.2.2.2
          clear F9
          go_wp2_with fail
          refine (specPutEntry_any fv fc fs.length fs e a e.chunks.length c _ HG2.out.rd rfl (by omega) (right_small HR2.out) rfl R9.out (by omega) (by omega)).mono ?_
          rintro r w5 ⟨av5, cv5, rfl, hG5, hb5⟩
          have HPE := hide (putCode_eq HR2.out e)
          have AR := hide (below_alloc w5 (.cells #[.int .i64 (putCode fs e), .slice av5 (putList fs e).length cv5] 36))
          have S9 := hide ((HS2.out.below hb5).below AR.out)
          have K9 := hide (((K3.out.trans HK2.out).trans (Kept.of_below hb5)).alloc (.cells #[.int .i64 (putCode fs e), .slice av5 (putList fs e).length cv5] 36))
          have GO := hide ((((HG2.out.below hb5).wide hb5.size).below AR.out).wide AR.out.size)
          have GN := hide (((hG5.mono (B' := w.heap.size) (by have := K3.out.size; omega)).below AR.out).wide AR.out.size)
          clear hG5 hb5 g0 g1 g2 g3
          by_cases hc : putCode fs e = 0
          · have hcP : putCodeP fs e = 0 := by rw [← HPE.out]; exact hc
            have hPL : putList fs e = putE fs e := by rw [putList, if_pos hc]
            have HRN := hide (putP_zero hcP).2.2.2.2
            rw [hc, hPL] at S9 K9 GO GN AR ⊢
            clear hc hcP hPL
            go_wp2_with fail
            go_roundw
            case rel => exact ⟨m - 1, putE fs e, by go_num, by omega, HRN, GN, hide (S9.out.mono (by omega)), K9⟩
            case measure => simp [intOf]; omega
          · have hcn : (putCode fs e == 0) = false := by simp; exact hc
            clear hc
            generalize putCode fs e = pc at *
            generalize putList fs e = pl at *
            go_wp2_with fail
            go_roundw
            case rel => exact ⟨m - 1, fs, by go_num, by omega, HR2, GO, hide (S9.out.mono (by omega)), K9⟩
            case measure => simp [intOf]; omega
    · have hm' : ¬ (0 : Int) < (m : Int) := by omega
      go_wp2_with fail
      go_ret
      exact ⟨es, lv, lc, rfl, HRi.out, HG.out, HSr.out.mono (by omega), HK.out⟩

end Go.Proofs.YtjkmbicedbdifaaGreat
