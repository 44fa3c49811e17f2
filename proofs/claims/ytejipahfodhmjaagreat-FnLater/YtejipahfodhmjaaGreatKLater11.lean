/-
  Texts put together: LazG Flat Chunks ChunksRd Fault FaultC Store BytesR StoreC ChunksMk.
-/
import Derived.Test.YtejipahfodhmjaaGreatKLater10
import Derived.Deep.RegionHeld3
import Derived.Deep.CutRange
import Derived.Test.YtejipahfodhmjaaGreatKLater1
import Derived.Test.YtejipahfodhmjaaGreatKLater4
import Derived.Maps.OwnSet
import Derived.Test.YtejipahfodhmjaaGreatKLater3
namespace Go.Proofs.YtejipahfodhmjaaGreat
open Go.RowKit Go.Maps
set_option linter.unusedVariables false
attribute [local go_sem ↓] Go.wp_at_zero Go.wp_at_succ

theorem StL.rowAt {lo : Nat} {w : World} {a : Option Addr} {n c : Nat} {rs : List Ly} (h : StL lo w (.slice a n c) rs) {i : Nat} {x : Ly} (hx : rs[i]? = some x) : ∃ g, a = some ⟨g, 0, none⟩ ∧ w.cell? ⟨g, i, none⟩ = some (.slice x.a x.es.length x.c) := by
  have hi : i < rs.length := (List.getElem?_eq_some_iff.1 hx).1
  have hrow := h.row
  rcases hrow.2 with ⟨h', h0⟩ | ⟨g, cap, cur, h', hb, hgb, _⟩
  · omega
  · simp only [Value.slice.injEq] at h'
    obtain ⟨rfl, rfl, rfl⟩ := h'
    refine ⟨g, rfl, ?_⟩
    have := hrow.cellAt i (by omega)
    rw [this, List.getElem?_map, hx]
    rfl
theorem four_set0 {w : World} {G o : Nat} {u0 u1 u2 u3 x : Value} (h : w.cell? ⟨G, o, none⟩ = some x) : ((((w.setCell ⟨G, o, none⟩ u0).setCell ⟨G, o + 1, none⟩ u1).setCell ⟨G, o + 2, none⟩ u2).setCell ⟨G, o + 3, none⟩ u3).cell? ⟨G, o, none⟩ = some u0 := by
  rw [cell_set_other (by simp), cell_set_other (by simp), cell_set_other (by simp), cell_set_same h]
theorem four_keptL (w : World) (G o : Nat) (u0 u1 u2 u3 : Value) : Kept (fun b => b = G) w ((((w.setCell ⟨G, o, none⟩ u0).setCell ⟨G, o + 1, none⟩ u1).setCell ⟨G, o + 2, none⟩ u2).setCell ⟨G, o + 3, none⟩ u3) :=
  Kept.setCell (S := fun b => b = G) (p := ⟨G, o + 3, none⟩) (Kept.setCell (S := fun b => b = G) (p := ⟨G, o + 2, none⟩) (Kept.two _ _ _ _ _ _) (fun _ => rfl) _) (fun _ => rfl) _
theorem get_set_at {rs : List Ly} {i : Nat} {x y : Ly} (h : rs[i]? = some x) : (rs.set i y)[i]? = some y := by
  rw [List.getElem?_set, if_pos rfl, if_pos (List.getElem?_eq_some_iff.1 h).1]
theorem lyS_set {rs : List Ly} {i : Nat} {y : Ly} (h : ∀ x ∈ rs, LyS x.es) (hy : LyS y.es) : ∀ x ∈ rs.set i y, LyS x.es := fun x hx => by
  rcases List.mem_or_eq_of_mem_set hx with hx | rfl
  · exact h x hx
  · exact hy
set_option maxRecDepth 100000 in
set_option maxHeartbeats 6400000 in
theorem l11Layers_s (p : Nat) (zs : List Int) (T : Int) (w : World) (h : SrcX w p zs T) (hu : U8 zs) (hT : T ≤ 40000) (hl : zs.length ≤ 2097152) :
    Calls Tryz.prog 72 #[.pointer (some ⟨p, 0, none⟩)] w fun r w' => ∃ v rs, r = .returned v ∧ LaysS w p zs (T + 6500) v rs w' := by
  have hp := h.lt
  have HS := hide h
  have HU := hide hu
  clear h hu
  go_enter Tryz.func72, Tryz.ntmps72
  go_wp2_with fail
  refine (l7Layers_s p zs T w HS.out HU.out (by omega) hl).mono ?_
  rintro r w1 ⟨v, rs, rfl, h5, hLy, hSt, s1, k1⟩
  obtain ⟨va, vc, rfl⟩ := hSt.shape
  have HL1 := hide hLy
  have St1 := hide hSt
  have S1 := hide s1
  have K1 := hide k1
  clear hLy hSt s1 k1 HS
  obtain ⟨N, hN⟩ : ∃ N, N = rs.length := ⟨_, rfl⟩
  rw [← hN] at h5 St1 ⊢
  have HN0 := hide hN.symm
  clear hN
  go_wp2_with fail
  go_loopw [4, 5] (fun i _ wr => ∃ (k : Nat) (rs : List Ly), k ≤ N ∧ i = .int .i64 k ∧ Hid (rs.length = N) ∧ Hid (∀ x ∈ rs, LyS x.es) ∧ Hid (StL w.heap.size wr (.slice va N vc) rs) ∧ Hid (SrcX wr p zs (T + 6000 + 100 * k)) ∧ Hid (Kept (fun b => b = p) w wr)) (fun i _ _ => N - (intOf i).toNat)
  case atStart => exact ⟨0, rs, Nat.zero_le _, rfl, HN0, HL1, St1, hide (by simpa using S1.out), K1⟩
  case round =>
    clear HL1 St1 S1 K1 HN0
    obtain ⟨k, rs, hk, rfl, HN, HLy, HSt, HS, HK⟩ := hrel
    by_cases hlt : k < N
    · have hlt' : (k : Int) < (N : Int) := by omega
      have hk0 : (0 : Int) ≤ (k : Int) := by omega
      obtain ⟨x0, hxx⟩ : ∃ x0, rs[k]? = some x0 := ⟨rs[k]'(by rw [HN.out]; exact hlt), List.getElem?_eq_getElem _⟩
      have hM := (HLy.out x0 (List.mem_of_getElem? hxx)).2.1
      obtain ⟨M, hMe⟩ : ∃ M, M = x0.es.length := ⟨_, rfl⟩
      rw [← hMe] at hM
      have HX0 := hide hxx
      have HM0 := hide hMe.symm
      clear hxx hMe
      go_wp2_with fail
      go_loopw [5] (fun i wx => ∃ (j : Nat) (rs : List Ly) (x : Ly), j ≤ M ∧ i = .int .i64 j ∧ Hid (rs.length = N) ∧ Hid (rs[k]? = some x) ∧ Hid (x.es.length = M) ∧ Hid (∀ x ∈ rs, LyS x.es) ∧ Hid (StL w.heap.size wx (.slice va N vc) rs) ∧ Hid (SrcX wx p zs (T + 6000 + 100 * k + 6 * j)) ∧ Hid (Kept (fun b => b = p) w wx)) (fun i _ => M - (intOf i).toNat)
      case atStart => exact ⟨0, rs, x0, Nat.zero_le _, rfl, HN, HX0, HM0, HLy, HSt, hide (by simpa using HS.out), HK⟩
      case round =>
        clear HLy HSt HS HK HN HX0 HM0
        obtain ⟨j, rs, x, hj, rfl, HN, HX, HM, HLy, HSt, HS, HK⟩ := hrel
        have hsz := HK.out.size
        by_cases hlt2 : j < M
        · have hj' : (j : Int) < (M : Int) := by omega
          have hj0 : (0 : Int) ≤ (j : Int) := by omega
          obtain ⟨e, hee⟩ : ∃ e, x.es[j]? = some e := ⟨x.es[j]'(by rw [HM.out]; exact hlt2), List.getElem?_eq_getElem _⟩
          obtain ⟨g, G, y, yc, hva, hgl, c0, hG, hGlo, hGl, hGg, z0, z1, z2, z3, hfr⟩ := HSt.out.at HX.out hee
          subst hva
          rw [HM.out] at c0
          have HE := hide hee
          have HG := hide hG
          have KB : Hid (∀ u : World, Kept (fun b => b = p) wr u → (u.cell? ⟨g, k, none⟩ = some (.slice (some ⟨G, 0, none⟩) M x.c) ∧ u.cell? ⟨G, j * 4, none⟩ = some (.string (str e.path))) ∧ u.cell? ⟨G, j * 4 + 1, none⟩ = some (.int .i64 e.kind)) := hide (fun u hu => by
            have hgp : g ≠ p := fun e9 => by have := (HSt.out.row.lt g rfl).1; omega
            have hGp : G ≠ p := by omega
            exact ⟨⟨(hu.cell (p := ⟨g, k, none⟩) hgl hgp).trans c0, (hu.cell (p := ⟨G, j * 4, none⟩) hGl hGp).trans z0⟩, (hu.cell (p := ⟨G, j * 4 + 1, none⟩) hGl hGp).trans z1⟩)
          clear hee hG c0 z0 z1 z2 z3 hfr
          obtain ⟨⟨c0, z0⟩, z1⟩ := KB.out wr (Kept.refl _ _)
          by_cases hk1 : e.kind = 1
          · have hkb : (e.kind == 1) = true := by simpa using hk1
            have HK1 := hide hk1
            clear hk1
            go_wp2_with fail
            refine (chance_e p zs _ 2 wr HS.out HU.out (by omega) (by decide) (by decide) hl).mono ?_
            rintro r w2 ⟨ch, rfl, s2, k2⟩
            have S2 := hide s2
            have K2 := hide k2
            clear s2 k2 c0 z0 z1
            obtain ⟨⟨c0, z0⟩, z1⟩ := KB.out w2 K2.out
            cases ch with
            | false =>
              have St2 := hide (HSt.out.kept K2.out (fun b e => by omega))
              go_wp2_with fail
              go_roundw
              case rel => exact ⟨j + 1, rs, x, by omega, by go_num, HN, HX, HM, HLy, St2, hide (S2.out.mono (by omega)), hide (HK.out.trans K2.out)⟩
              case measure => simp [intOf]; omega
            | true =>
              have KD := hide (K2.out.trans (Kept.of_below (Below.refl w2.heap.size w2).drew))
              have SD := hide (S2.out.below (Below.refl w2.heap.size w2).drew)
              go_upto_region 9 with fail
              clear c0 z0 z1
              go_region_held3 (fun u => u.cell? ⟨g, k, none⟩ = some (.slice (some ⟨G, 0, none⟩) M x.c) ∧ u.cell? ⟨G, j * 4, none⟩ = some (.string (str e.path))) (first | exact (KB.out _ K5.out).1 | exact (KB.out _ K4.out).1 | exact (KB.out _ K3.out).1 | exact (KB.out _ KD.out).1 | exact KS.out | go_keep)
                ((first
                  | (go_at_call 47; refine (next_e p zs _ 3 _ SD.out HU.out (by omega) (by decide) (by decide) hl).mono ?_; rintro r w3 ⟨nv, rfl, hnv, s3, k3⟩; have S3 := hide s3; have K3 := hide (KD.out.trans k3); obtain ⟨n, hn1, hn2⟩ : ∃ n : Nat, (n : Int) = 1 + (nv : Int) ∧ n ≤ 3 := ⟨1 + nv, by omega, by omega⟩; have hwn : IntKind.i64.wrap (1 + (nv : Int)) = (n : Int) := (by rw [← hn1]; simp [IntKind.wrap, IntKind.signed, IntKind.bits]; omega); clear s3 k3 hnv hn1)
                  | (go_at_call 79; refine (l4File_any e.path a4 c4 ds _ R4.out UD.out hcap (by omega)).mono ?_; rintro r w5 ⟨av, cv, rfl, ho5, hb5⟩; have O5 := hide ho5; have K5 := hide (K4.out.trans (Kept.of_below hb5)); have S5 := hide (S4.out.below hb5); have B5 := hide hb5; have St5 := hide (HSt.out.kept K5.out (fun b e => by omega)); obtain ⟨g5, G5, y5, yc5, hva5, -, -, hG5, -, -, -, m0, m1, m2, m3, mf⟩ := St5.out.at HX.out HE.out; have e5 : G = G5 := (by have h9 := HG.out.symm.trans hG5; simpa using h9); subst e5; have mf0 := mf (j * 4); have mf1 := mf (j * 4 + 1); have mf2 := mf (j * 4 + 2); have mf3 := mf (j * 4 + 3); have hg5 : g < w5.heap.size := World.block_lt_of_cell? w5 ⟨g, k, none⟩ (KB.out _ K5.out).1.1; have KS := hide (And.intro (((four_keptL w5 G (j * 4) (.string (str e.path)) (.int .i64 1) (.int .i64 ds.length) (.slice av (cut ds).length cv)).cell (p := ⟨g, k, none⟩) hg5 (fun e9 => hGg e9.symm)).trans (KB.out _ K5.out).1.1) (four_set0 (u0 := .string (str e.path)) (u1 := .int .i64 1) (u2 := .int .i64 ds.length) (u3 := .slice av (cut ds).length cv) m0)); clear ho5 hb5 mf hva5 hG5)
                  | (go_at_call 46; refine (some_e p n zs _ _ S3.out HU.out (by omega) hl (by omega)).mono ?_; rintro r w4 ⟨a4, c4, ds, rfl, hdl, hud, ho4, s4, k4⟩; subst hdl; have S4 := hide s4; have K4 := hide (K3.out.trans k4); have R4 := hide (ownInts_reads ho4 rfl); have hcap := ownsRow_cap ho4; have UD := hide hud; clear s4 k4 hud ho4)))
              have HOW : Hid (w5.ownsRow w.heap.size 2 1 (.slice av (fileE e.path ds).chunks.length cv) (fileE e.path ds).chunks.length ((fileE e.path ds).chunks.map (Value.int .i64))) := by
                have hle : (fileE e.path ds).chunks.length = (cut ds).length := digs_length _ _
                rw [hle]
                exact hide (ownsRow_mono O5.out (by have := K4.out.size; have := hsz; omega))
              have hle : (fileE e.path ds).chunks.length = (cut ds).length := digs_length _ _
              have STR := hide (StL.store (e := fileE e.path ds) St5.out HX.out HG.out (show j < x.es.length by rw [HM.out]; exact hlt2) HOW.out)
              rw [hle] at STR
              have KW := hide (four_keptL w5 G (j * 4) (.string (str e.path)) (.int .i64 1) (.int .i64 ds.length) (.slice av (cut ds).length cv))
              have HLN := hide (lyS_set (i := k) (y := ⟨x.es.set j (fileE e.path ds), x.a, x.c⟩) HLy.out ((HLy.out x (List.mem_of_getElem? HX.out)).set HE.out HK1.out (by omega)))
              go_wp2_with fail
              go_roundw
              case rel => exact ⟨j + 1, rs.set k ⟨x.es.set j (fileE e.path ds), x.a, x.c⟩, ⟨x.es.set j (fileE e.path ds), x.a, x.c⟩, by omega, by go_num, hide (by rw [List.length_set]; exact HN.out), hide (get_set_at HX.out), hide (by simp only [List.length_set]; exact HM.out), HLN, STR, hide ((S5.out.kept KW.out (fun b hb e9 => by omega)).mono (by omega)), hide ((HK.out.trans K5.out).trans_own KW.out (fun b hb e9 => by omega))⟩
              case measure => simp [intOf]; omega
          · have hkb : (e.kind == 1) = false := by simpa using hk1
            clear hk1
            go_wp2_with fail
            go_roundw
            case rel => exact ⟨j + 1, rs, x, by omega, by go_num, HN, HX, HM, HLy, HSt, hide (HS.out.mono (by omega)), HK⟩
            case measure => simp [intOf]; omega
        · have hj' : ¬ (j : Int) < (M : Int) := by omega
          obtain ⟨g, hva, c0⟩ := HSt.out.rowAt HX.out
          subst hva
          rw [HM.out] at c0
          go_wp2_with fail
          go_roundw
          case rel => exact ⟨k + 1, rs, by omega, by go_num, HN, HLy, HSt, hide (HS.out.mono (by omega)), HK⟩
          case measure => simp [intOf]; omega
    · have hlt' : ¬ (k : Int) < (N : Int) := by omega
      go_wp2_with fail
      go_ret
      exact ⟨_, rfl, rs, by rw [HN.out]; exact h5, HLy.out, HSt.out, HS.out.mono (by omega), HK.out⟩
end Go.Proofs.YtejipahfodhmjaaGreat

namespace Go.Proofs.YtejipahfodhmjaaGreat
open Go.RowKit
set_option linter.unusedVariables false

def flat (n : Nat) (F : Nat → List Value) : List Value := (List.range n).flatMap F

theorem flat_succ (n : Nat) (F : Nat → List Value) : flat (n + 1) F = flat n F ++ F n := by
  simp [flat, List.range_succ]
theorem flat_length {k : Nat} {F : Nat → List Value} : ∀ {n : Nat}, (∀ i, i < n → (F i).length = k) → (flat n F).length = n * k
  | 0, _ => by simp [flat]
  | n + 1, h => by
    rw [flat_succ, List.length_append, flat_length (fun i hi => h i (by omega)), h n (by omega), Nat.succ_mul]
theorem flat_get {k : Nat} {F : Nat → List Value} : ∀ {n : Nat}, (∀ i, i < n → (F i).length = k) → ∀ i r, i < n → r < k → (flat n F)[i * k + r]? = (F i)[r]?
  | 0, _, i, r, hi, _ => by omega
  | n + 1, h, i, r, hi, hr => by
    have hl := flat_length (n := n) (F := F) (k := k) (fun i hi => h i (by omega))
    rw [flat_succ]
    by_cases e : i = n
    · subst e
      rw [List.getElem?_append_right (by omega), hl]
      congr 1
      omega
    · have hlt : i * k + r < n * k := by
        have : (i + 1) * k ≤ n * k := Nat.mul_le_mul_right k (by omega)
        rw [Nat.succ_mul] at this
        omega
      rw [List.getElem?_append_left (by omega)]
      exact flat_get (fun i hi => h i (by omega)) i r (by omega) hr
theorem flat_congr {F G : Nat → List Value} {n : Nat} (h : ∀ i, i < n → F i = G i) : flat n F = flat n G := by
  unfold flat
  induction n with
  | zero => rfl
  | succ n ih =>
    rw [List.range_succ, List.flatMap_append, List.flatMap_append, ih (fun i hi => h i (by omega))]
    simp [h n (by omega)]
theorem flat_set {k : Nat} {F : Nat → List Value} {n : Nat} (h : ∀ i, i < n → (F i).length = k) (i r : Nat) (hi : i < n) (hr : r < k) (u : Value) :
    (flat n F).set (i * k + r) u = flat n (fun t => if t = i then (F t).set r u else F t) := by
  have h' : ∀ t, t < n → (if t = i then (F t).set r u else F t).length = k := fun t ht => by
    by_cases e : t = i
    · rw [if_pos e, List.length_set]; exact h t ht
    · rw [if_neg e]; exact h t ht
  have l1 := flat_length h
  have l2 := flat_length h'
  apply List.ext_getElem?
  intro p
  by_cases hp : p < n * k
  · have hk : 0 < k := by omega
    have e : p = p / k * k + p % k := by rw [Nat.mul_comm]; exact (Nat.div_add_mod p k).symm
    have h1 : p / k < n := Nat.div_lt_of_lt_mul (by rw [Nat.mul_comm]; exact hp)
    have h2 : p % k < k := Nat.mod_lt _ hk
    generalize p / k = a at e h1
    generalize p % k = b at e h2
    subst e
    rw [flat_get h' a b h1 h2]
    by_cases ea : a = i
    · subst ea
      rw [if_pos rfl]
      by_cases eb : b = r
      · subst eb
        rw [List.getElem?_set_self (by omega), List.getElem?_set_self (by rw [h a h1]; omega)]
      · rw [List.getElem?_set_ne (by omega), List.getElem?_set_ne (by omega), flat_get h a b h1 h2]
    · rw [if_neg ea]
      have hne : i * k + r ≠ a * k + b := by
        intro e
        rcases Nat.lt_or_gt_of_ne ea with hlt | hgt
        · have : (a + 1) * k ≤ i * k := Nat.mul_le_mul_right k hlt
          rw [Nat.succ_mul] at this
          omega
        · have : (i + 1) * k ≤ a * k := Nat.mul_le_mul_right k hgt
          rw [Nat.succ_mul] at this
          omega
      rw [List.getElem?_set_ne hne, flat_get h a b h1 h2]
  · rw [List.getElem?_eq_none (by rw [List.length_set]; omega), List.getElem?_eq_none (by omega)]

end Go.Proofs.YtejipahfodhmjaaGreat

namespace Go.Proofs.YtejipahfodhmjaaGreat
open Go.RowKit
set_option linter.unusedVariables false

def RdC (w : World) (a : Option Addr) (D : Nat → Int) (P : Nat → List Int) (n : Nat) : Prop :=
  0 < n → ∃ (b off : Nat) (A : Nat → Option Addr) (C : Nat → Nat), a = some ⟨b, off, none⟩ ∧ b < w.heap.size ∧ ∀ i, i < n → w.cell? ⟨b, off + i * 2, none⟩ = some (.int .i64 (D i)) ∧ w.cell? ⟨b, off + i * 2 + 1, none⟩ = some (.slice (A i) (P i).length (C i)) ∧ Reads .u8 w (A i) (P i)

theorem RdC.below {w w' : World} {a : Option Addr} {D : Nat → Int} {P : Nat → List Int} {n : Nat} (h : RdC w a D P n) (hk : Below w.heap.size w w') : RdC w' a D P n := by
  intro hn
  obtain ⟨b, off, A, C, e, hb, hc⟩ := h hn
  exact ⟨b, off, A, C, e, Nat.lt_of_lt_of_le hb hk.size, fun i hi => ⟨(hk.cell (p := ⟨b, off + i * 2, none⟩) hb).trans (hc i hi).1, (hk.cell (p := ⟨b, off + i * 2 + 1, none⟩) hb).trans (hc i hi).2.1, (hc i hi).2.2.below hk⟩⟩

def chCells (D : Nat → Int) (P : Nat → List Int) (A : Nat → Option Addr) (C : Nat → Nat) (i : Nat) : List Value := [.int .i64 (D i), .slice (A i) (P i).length (C i)]

def GC (B T : Nat) (w : World) (v : Value) (D : Nat → Int) (P : Nat → List Int) (n : Nat) : Prop :=
  ∃ (A : Nat → Option Addr) (C : Nat → Nat), w.ownsRow B 108 2 v n (flat n (chCells D P A C)) ∧
    (∀ i, i < n → w.ownsRow B 5 1 (.slice (A i) (P i).length (C i)) (P i).length ((P i).map (Value.int .u8))) ∧
    (∀ i i' g, i < n → i' < n → (A i).map Addr.block = some g → (A i').map Addr.block = some g → i = i') ∧
    (∀ i g, i < n → (A i).map Addr.block = some g → g < T) ∧ ∀ b, v.ownBlock = some b → b < T

theorem Tryz.infoCh : (Tryz.prog.info? 108).map (fun i => (i.zero, i.size, i.bytes)) = some (some (.agg #[.int .i64 0, .slice none 0 0]), 2, 32) := by kernel_rfl

def laid (j : Nat) (D : Nat → Int) (P : Nat → List Int) (A : Nat → Nat) (i : Nat) : List Value :=
  if i < j then [.int .i64 (D i), .slice (some ⟨A i, 0, none⟩) (P i).length (P i).length] else [.int .i64 0, .slice none 0 0]
end Go.Proofs.YtejipahfodhmjaaGreat

namespace Go.Proofs.YtejipahfodhmjaaGreat
open Go.RowKit
set_option linter.unusedVariables false

theorem chCells_length (D : Nat → Int) (P : Nat → List Int) (A : Nat → Option Addr) (C : Nat → Nat) (i : Nat) : (chCells D P A C i).length = 2 := rfl

theorem reads_owned {w : World} {B : Nat} {e : TypeId} {k : IntKind} {a : Option Addr} {n c : Nat} {zs : List Int} (h : w.ownsRow B e 1 (.slice a n c) n (zs.map (Value.int k))) (hn : n = zs.length) : Reads k w a zs := by
  intro hz
  have h0 : 0 < n := by rw [hn]; exact List.length_pos_iff.2 hz
  obtain ⟨g, cap, hv, hg, hgl, hc, hf⟩ := ownsRow_ints h hn h0
  simp only [Value.slice.injEq, true_and] at hv
  exact ⟨g, 0, hv.1, hgl, fun i hi => by rw [Nat.zero_add]; exact hc i (by omega)⟩

theorem GC.rd {B T : Nat} {w : World} {a : Option Addr} {c : Nat} {D : Nat → Int} {P : Nat → List Int} {n : Nat} (h : GC B T w (.slice a n c) D P n) : RdC w a D P n := by
  intro hn
  obtain ⟨A, C, h1, h2, h3, h4, h5⟩ := h
  rcases h1.2 with ⟨_, h0⟩ | ⟨g, cap, cur, h', hb, hh, hnc, hcm, hcs, htake⟩
  · omega
  · simp only [Value.slice.injEq, true_and] at h'
    obtain ⟨rfl, rfl⟩ := h'
    have hf := fun i r hi hr => flat_get (n := n) (k := 2) (F := chCells D P A C) (fun i _ => chCells_length _ _ _ _ _) i r hi hr
    refine ⟨g, 0, A, C, rfl, (h1.lt g rfl).2, fun i hi => ⟨?_, ?_, reads_owned (h2 i hi) rfl⟩⟩
    · rw [Nat.zero_add, h1.cellAt (i * 2) (by omega)]
      have := hf i 0 hi (by decide)
      rw [Nat.add_zero] at this
      rw [this]; rfl
    · rw [Nat.zero_add, h1.cellAt (i * 2 + 1) (by omega), hf i 1 hi (by decide)]; rfl

theorem GC.kept {S : Nat → Prop} {B T : Nat} {w w' : World} {v : Value} {D : Nat → Int} {P : Nat → List Int} {n : Nat} (h : GC B T w v D P n) (hk : Kept S w w') (hS : ∀ b, B ≤ b → b < T → ¬ S b) : GC B T w' v D P n := by
  obtain ⟨A, C, h1, h2, h3, h4, h5⟩ := h
  refine ⟨A, C, ownsRow_kept h1 hk (fun b hb => hS b (h1.lt b hb).1 (h5 b hb)), fun i hi => ownsRow_kept (h2 i hi) hk (fun b hb => hS b ((h2 i hi).lt b hb).1 (h4 i b hi ?_)), h3, h4, h5⟩
  cases hA : A i with
  | none => rw [hA] at hb; simp [Value.ownBlock] at hb
  | some x => rw [hA] at hb; simpa [Value.ownBlock] using hb
theorem GC.below {B T : Nat} {w w' : World} {v : Value} {D : Nat → Int} {P : Nat → List Int} {n : Nat} (h : GC B T w v D P n) (hk : Below w.heap.size w w') : GC B T w' v D P n :=
  h.kept (S := fun _ => False) (Kept.of_below hk) (fun _ _ _ => id)

theorem GC.mono {B B' T : Nat} {w : World} {v : Value} {D : Nat → Int} {P : Nat → List Int} {n : Nat} (h : GC B T w v D P n) (hB : B' ≤ B) : GC B' T w v D P n := by
  obtain ⟨A, C, h1, h2, h3, h4, h5⟩ := h
  exact ⟨A, C, ownsRow_mono h1 hB, fun i hi => ownsRow_mono (h2 i hi) hB, h3, h4, h5⟩
theorem GC.wide {B T T' : Nat} {w : World} {v : Value} {D : Nat → Int} {P : Nat → List Int} {n : Nat} (h : GC B T w v D P n) (hT : T ≤ T') : GC B T' w v D P n := by
  obtain ⟨A, C, h1, h2, h3, h4, h5⟩ := h
  exact ⟨A, C, h1, h2, h3, fun i g hi hg => Nat.lt_of_lt_of_le (h4 i g hi hg) hT, fun b hb => Nat.lt_of_lt_of_le (h5 b hb) hT⟩
theorem GC.nil (B T : Nat) (w : World) (D : Nat → Int) (P : Nat → List Int) : GC B T w (.slice none 0 0) D P 0 :=
  ⟨fun _ => none, fun _ => 0, World.ownsRow_nil _ _ _ _, fun i hi => absurd hi (by omega), fun i i' g hi => absurd hi (by omega), fun i g hi => absurd hi (by omega), fun b hb => by simp [Value.ownBlock] at hb⟩
end Go.Proofs.YtejipahfodhmjaaGreat

namespace Go.Proofs.YtejipahfodhmjaaGreat
open Go.RowKit
set_option linter.unusedVariables false

def oneFault (d : Int) (zs : List Int) : Int :=
  if 0 ≤ d ∧ d ≤ 4294967295 then (if 1 ≤ zs.length ∧ zs.length ≤ 8 then (if digest zs = d then 0 else 6) else 2) else 3
def atFault (D : Nat → Int) (P : Nat → List Int) (i : Nat) : Option Int :=
  if oneFault (D i) (P i) ≠ 0 then some (oneFault (D i) (P i)) else if 0 < i ∧ D i ≤ D (i - 1) then some 1 else none
def firstBad (f : Nat → Option Int) : Nat → Nat → Int
  | _, 0 => 0
  | i, m + 1 => match f i with | some c => c | none => firstBad f (i + 1) m
def fault (D : Nat → Int) (P : Nat → List Int) (n : Nat) : Int := if 40 < n then 2 else firstBad (atFault D P) 0 n

theorem firstBad_hit {f : Nat → Option Int} {k n : Nat} {c : Int} (hk : k < n) (h : f k = some c) : firstBad f k (n - k) = c := by
  obtain ⟨m, hm⟩ : ∃ m, n - k = m + 1 := ⟨n - k - 1, by omega⟩
  rw [hm]; simp [firstBad, h]
theorem firstBad_miss {f : Nat → Option Int} {k n : Nat} (hk : k < n) (h : f k = none) : firstBad f k (n - k) = firstBad f (k + 1) (n - (k + 1)) := by
  obtain ⟨m, hm⟩ : ∃ m, n - k = m + 1 := ⟨n - k - 1, by omega⟩
  have : n - (k + 1) = m := by omega
  rw [hm, this]; simp [firstBad, h]
theorem firstBad_end {f : Nat → Option Int} {k n : Nat} (hk : n ≤ k) : firstBad f k (n - k) = 0 := by
  have : n - k = 0 := by omega
  rw [this]; rfl
theorem firstBad_none {f : Nat → Option Int} (hf : ∀ j c, f j = some c → c ≠ 0) : ∀ (m i : Nat), firstBad f i m = 0 → ∀ j, i ≤ j → j < i + m → f j = none
  | 0, i, _, j, h1, h2 => by omega
  | m + 1, i, h, j, h1, h2 => by
    simp only [firstBad] at h
    cases hi : f i with
    | some c => rw [hi] at h; exact absurd h (hf i c hi)
    | none =>
      rw [hi] at h
      by_cases e : j = i
      · subst e; exact hi
      · exact firstBad_none hf m (i + 1) h j (by omega) (by omega)

theorem atFault_ne (D : Nat → Int) (P : Nat → List Int) (j : Nat) (c : Int) (h : atFault D P j = some c) : c ≠ 0 := by
  unfold atFault at h
  split at h
  · rename_i h1; cases h; exact h1
  · split at h
    · cases h; decide
    · cases h
theorem oneFault_zero {d : Int} {zs : List Int} (h : oneFault d zs = 0) : (0 ≤ d ∧ d ≤ 4294967295) ∧ (1 ≤ zs.length ∧ zs.length ≤ 8) ∧ digest zs = d := by
  unfold oneFault at h
  split at h
  · rename_i h1
    split at h
    · rename_i h2
      split at h
      · rename_i h3; exact ⟨h1, h2, h3⟩
      · omega
    · omega
  · omega
structure RightC (D : Nat → Int) (P : Nat → List Int) (n : Nat) : Prop where
  many : n ≤ 40
  range : ∀ i, i < n → 0 ≤ D i ∧ D i ≤ 4294967295
  len : ∀ i, i < n → 1 ≤ (P i).length ∧ (P i).length ≤ 8
  sum : ∀ i, i < n → digest (P i) = D i
  up : ∀ i, i + 1 < n → D i < D (i + 1)
theorem fault_zero {D : Nat → Int} {P : Nat → List Int} {n : Nat} (h : fault D P n = 0) : RightC D P n := by
  unfold fault at h
  split at h
  · omega
  · rename_i hn
    have hz := firstBad_none (atFault_ne D P) n 0 h
    have hone : ∀ i, i < n → oneFault (D i) (P i) = 0 ∧ ¬ (0 < i ∧ D i ≤ D (i - 1)) := fun i hi => by
      have := hz i (Nat.zero_le _) (by omega)
      unfold atFault at this
      split at this
      · cases this
      · rename_i h1
        split at this
        · cases this
        · rename_i h2; exact ⟨Decidable.not_not.1 h1, h2⟩
    refine ⟨by omega, fun i hi => (oneFault_zero (hone i hi).1).1, fun i hi => (oneFault_zero (hone i hi).1).2.1, fun i hi => (oneFault_zero (hone i hi).1).2.2, fun i hi => ?_⟩
    have := (hone (i + 1) hi).2
    simp only [Nat.add_sub_cancel] at this
    omega
theorem atFault_right {D : Nat → Int} {P : Nat → List Int} {n : Nat} (h : RightC D P n) : ∀ i, i < n → atFault D P i = none := fun i hi => by
  have h0 : oneFault (D i) (P i) = 0 := by unfold oneFault; rw [if_pos (h.range i hi), if_pos (h.len i hi), if_pos (h.sum i hi)]
  unfold atFault
  rw [if_neg (by rw [h0]; simp), if_neg]
  rintro ⟨h1, h2⟩
  have := h.up (i - 1) (by omega)
  rw [Nat.sub_add_cancel h1] at this
  omega
theorem firstBad_zero {f : Nat → Option Int} : ∀ (m i : Nat), (∀ j, i ≤ j → j < i + m → f j = none) → firstBad f i m = 0
  | 0, _, _ => rfl
  | m + 1, i, h => by
    simp only [firstBad, h i (Nat.le_refl _) (by omega)]
    exact firstBad_zero m (i + 1) (fun j h1 h2 => h j (by omega) (by omega))
theorem fault_right {D : Nat → Int} {P : Nat → List Int} {n : Nat} (h : RightC D P n) : fault D P n = 0 := by
  unfold fault
  rw [if_neg (by have := h.many; omega)]
  exact firstBad_zero n 0 (fun j _ h2 => atFault_right h j (by omega))

end Go.Proofs.YtejipahfodhmjaaGreat

namespace Go.Proofs.YtejipahfodhmjaaGreat
open Go.RowKit
set_option linter.unusedVariables false

set_option maxHeartbeats 400000 in
theorem specOne_any (d : Int) (a : Option Addr) (c : Nat) (zs : List Int) (w : World) (h : Reads .u8 w a zs) (hu : U8 zs) (hl : zs.length ≤ 1048576) :
    Calls Tryz.prog 123 #[.int .i64 d, .slice a zs.length c] w fun e w' => e = .returned (.int .i64 (oneFault d zs)) ∧ ∃ n, w' = w.drewN n := by
  have HR := hide h
  have HU := hide hu
  clear h hu
  unfold oneFault
  by_cases c1 : 0 ≤ d
  · by_cases c2 : d ≤ 4294967295
    · rw [if_pos ⟨c1, c2⟩]
      by_cases c3 : 1 ≤ zs.length
      · by_cases c4 : zs.length ≤ 8
        · rw [if_pos ⟨c3, c4⟩]
          have c3' : ¬ (zs.length : Int) < 1 := by omega
          have c4' : ¬ (8 : Int) < (zs.length : Int) := by omega
          have HD := hide (specDigestOf_any a c zs w HR.out HU.out hl)
          generalize digest zs = g at HD ⊢
          by_cases c5 : g = d
          · have c5' : (g != d) = false := by simp [c5]
            rw [if_pos c5]
            clear c5
            go_enter Tryz.func123, Tryz.ntmps123
            go_wp2_with (first | (go_at_call 122; refine HD.out.mono ?_; rintro e w1 ⟨rfl, rfl⟩) | go_in)
            go_ret
            exact ⟨rfl, 0, rfl⟩
          · have c5' : (g != d) = true := by simp [c5]
            rw [if_neg c5]
            clear c5
            go_enter Tryz.func123, Tryz.ntmps123
            go_wp2_with (first | (go_at_call 122; refine HD.out.mono ?_; rintro e w1 ⟨rfl, rfl⟩) | go_in)
            go_ret
            exact ⟨rfl, 0, rfl⟩
        · rw [if_neg (fun h => c4 h.2)]
          have c3' : ¬ (zs.length : Int) < 1 := by omega
          have c4' : (8 : Int) < (zs.length : Int) := by omega
          go_enter Tryz.func123, Tryz.ntmps123
          go_wp2
          go_ret
          exact ⟨rfl, 0, rfl⟩
      · rw [if_neg (fun h => c3 h.1)]
        have c3' : (zs.length : Int) < 1 := by omega
        go_enter Tryz.func123, Tryz.ntmps123
        go_wp2
        go_ret
        exact ⟨rfl, 0, rfl⟩
    · rw [if_neg (fun h => c2 h.2)]
      go_enter Tryz.func123, Tryz.ntmps123
      go_wp2
      go_ret
      exact ⟨rfl, 0, rfl⟩
  · rw [if_neg (fun h => c1 h.1)]
    go_enter Tryz.func123, Tryz.ntmps123
    go_wp2
    go_ret
    exact ⟨rfl, 0, rfl⟩

set_option maxHeartbeats 800000 in
theorem implOne_any (d : Int) (a : Option Addr) (c : Nat) (zs : List Int) (w : World) (h : Reads .u8 w a zs) (hu : U8 zs) (hl : zs.length ≤ 1048576) :
    Calls Tryz.prog 93 #[.agg #[.int .i64 d, .slice a zs.length c]] w fun e w' => e = .returned (.int .i64 (oneFault d zs)) ∧ Below w.heap.size w w' := by
  have HR := hide h
  have HU := hide hu
  clear h hu
  unfold oneFault
  by_cases c1 : 0 ≤ d
  · by_cases c2 : d ≤ 4294967295
    · rw [if_pos ⟨c1, c2⟩]
      by_cases c3 : 1 ≤ zs.length
      · by_cases c4 : zs.length ≤ 8
        · rw [if_pos ⟨c3, c4⟩]
          have c3' : ¬ (zs.length : Int) < 1 := by omega
          have c4' : ¬ (8 : Int) < (zs.length : Int) := by omega
          have HD := hide (fun u hr => implDigestOf_any a c zs u hr HU.out hl)
          generalize digest zs = g at HD ⊢
          have HR1 := hide (HR.out.below (below_alloc w (.cells #[.int .i64 d, .slice a zs.length c] 108)))
          have HB1 := hide (below_alloc w (.cells #[.int .i64 d, .slice a zs.length c] 108))
          by_cases c5 : g = d
          · have c5' : (g != d) = false := by simp [c5]
            rw [if_pos c5]
            clear c5
            go_enter Tryz.func93, Tryz.ntmps93
            go_wp2
            go_quiet ((go_at_call 52; exact Calls.quiet_of ((HD.out _ (show Reads .u8 (World.drewN (w.alloc (.cells #[.int .i64 d, .slice a zs.length c] 108)) _) a zs from HR1.out)).mono (fun e w' ⟨he, hw⟩ => ⟨he, 0, hw⟩))))
            go_wp2
            go_ret
            exact ⟨rfl, below_drewN HB1.out _⟩
          · have c5' : (g != d) = true := by simp [c5]
            rw [if_neg c5]
            clear c5
            go_enter Tryz.func93, Tryz.ntmps93
            go_wp2
            go_quiet ((go_at_call 52; exact Calls.quiet_of ((HD.out _ (show Reads .u8 (World.drewN (w.alloc (.cells #[.int .i64 d, .slice a zs.length c] 108)) _) a zs from HR1.out)).mono (fun e w' ⟨he, hw⟩ => ⟨he, 0, hw⟩))))
            go_wp2
            go_ret
            exact ⟨rfl, below_drewN HB1.out _⟩
        · rw [if_neg (fun h => c4 h.2)]
          have c3' : ¬ (zs.length : Int) < 1 := by omega
          have c4' : (8 : Int) < (zs.length : Int) := by omega
          go_enter Tryz.func93, Tryz.ntmps93
          go_wp2
          go_ret
          exact ⟨rfl, below_alloc _ _⟩
      · rw [if_neg (fun h => c3 h.1)]
        have c3' : (zs.length : Int) < 1 := by omega
        go_enter Tryz.func93, Tryz.ntmps93
        go_wp2
        go_ret
        exact ⟨rfl, below_alloc _ _⟩
    · rw [if_neg (fun h => c2 h.2)]
      go_enter Tryz.func93, Tryz.ntmps93
      go_wp2
      go_ret
      exact ⟨rfl, below_alloc _ _⟩
  · rw [if_neg (fun h => c1 h.1)]
    go_enter Tryz.func93, Tryz.ntmps93
    go_wp2
    go_ret
    exact ⟨rfl, below_alloc _ _⟩

theorem atFault_one {D : Nat → Int} {P : Nat → List Int} {k : Nat} {q : Int} (h : oneFault (D k) (P k) = q) (hq : q ≠ 0) : atFault D P k = some q := by
  unfold atFault; rw [h, if_pos hq]
theorem atFault_first {D : Nat → Int} {P : Nat → List Int} (h : oneFault (D 0) (P 0) = 0) : atFault D P 0 = none := by
  unfold atFault; rw [h, if_neg (by simp), if_neg (by simp)]
theorem atFault_form {D : Nat → Int} {P : Nat → List Int} {k : Nat} (h : oneFault (D (k + 1)) (P (k + 1)) = 0) (hd : D (k + 1) ≤ D k) : atFault D P (k + 1) = some 1 := by
  unfold atFault; rw [h, if_neg (by simp), if_pos ⟨by omega, by simpa using hd⟩]
theorem atFault_none {D : Nat → Int} {P : Nat → List Int} {k : Nat} (h : oneFault (D (k + 1)) (P (k + 1)) = 0) (hd : ¬ D (k + 1) ≤ D k) : atFault D P (k + 1) = none := by
  unfold atFault; rw [h, if_neg (by simp), if_neg (fun h => hd (by simpa using h.2))]

set_option maxHeartbeats 1600000 in
theorem specFault_any (a : Option Addr) (c n : Nat) (D : Nat → Int) (P : Nat → List Int) (w : World) (h : RdC w a D P n) (hn : n ≤ 1048576) (hP : ∀ i, i < n → U8 (P i) ∧ (P i).length ≤ 1048576) :
    Calls Tryz.prog 81 #[.slice a n c] w fun e w' => e = .returned (.int .i64 (fault D P n)) ∧ Below w.heap.size w w' := by
  have HA := hide h
  have HP := hide hP
  clear h hP
  by_cases hbig : 40 < n
  · have hb : (40 : Int) < (n : Int) := by omega
    have hf : fault D P n = 2 := by simp [fault, hbig]
    rw [hf]
    go_enter Tryz.func81, Tryz.ntmps81
    go_wp2
    go_ret
    exact ⟨rfl, Below.refl _ _⟩
  · have hb : ¬ (40 : Int) < (n : Int) := by omega
    have HF : Hid (fault D P n = firstBad (atFault D P) 0 (n - 0)) := by simp [fault, hbig, Hid]
    generalize hfl : fault D P n = F at HF ⊢
    clear hfl
    go_enter Tryz.func81, Tryz.ntmps81
    go_wp2
    go_loopw [3, 4] (fun i _ wr => ∃ k : Nat, k ≤ n ∧ i = .int .i64 k ∧ F = firstBad (atFault D P) k (n - k) ∧ Below w.heap.size w wr) (fun i _ _ => n - (intOf i).toNat)
    case atStart => exact ⟨0, Nat.zero_le _, rfl, HF.out, Below.refl _ _⟩
    case round =>
      obtain ⟨k, hk, rfl, hF, hbel⟩ := hrel
      have HF := hide hF
      have HW := hide hbel
      clear hF hbel
      by_cases hlt : k < n
      · obtain ⟨b1, o1, A1, C1, rfl, hb1, hc1⟩ := (HA.out.below HW.out) (by omega)
        obtain ⟨c1, e1, r1⟩ := hc1 k hlt
        obtain ⟨hu, hp⟩ := HP.out k hlt
        generalize A1 k = a1 at e1 r1
        generalize C1 k = d1 at e1
        have R1 := hide r1
        have U1 := hide hu
        have HC := hide hc1
        clear hc1 r1 hu
        generalize hq : oneFault (D k) (P k) = q
        have hone := hide (fun (m : Nat) => by have := specOne_any (D k) a1 d1 (P k) (wr.drewN m) R1.out U1.out hp; rwa [hq] at this)
        have HQ := hide hq
        clear hq
        generalize hxs : P k = xs at *
        generalize hdd : D k = dd at *
        have HX := hide (And.intro hxs hdd)
        clear hxs hdd
        by_cases hz : q = 0
        · have hz' : (q != 0) = false := by simp [hz]
          have HZ := hide hz
          clear hz
          cases k with
          | zero =>
            simp only [Nat.zero_mul, Nat.add_zero] at c1 e1
            go_wp2
            go_quiet ((go_at_call 123; exact Calls.quiet_of (hone.out _)))
            go_wp2
            go_quiet (fail)
            go_wp2
            go_roundw
            case rel => exact ⟨1, by omega, by go_num, by rw [HF.out]; exact firstBad_miss hlt (atFault_first (by have := HX.out; rw [this.1, this.2, HQ.out]; exact HZ.out)), below_drewN HW.out _⟩
            case measure => simp [intOf]; omega
          | succ k =>
            have hg : (0 : Int) < ((k + 1 : Nat) : Int) := by omega
            obtain ⟨c0, _, _⟩ := HC.out k (by omega)
            generalize hd0 : D k = d0 at c0
            have HD0 := hide hd0
            clear hd0
            by_cases hle : dd ≤ d0
            · go_wp2
              go_quiet ((go_at_call 123; exact Calls.quiet_of (hone.out _)))
              go_wp2
              go_quiet (fail)
              go_wp2
              go_ret
              exact ⟨ret_int (by rw [HF.out]; exact (firstBad_hit hlt (atFault_form (by have := HX.out; rw [this.1, this.2, HQ.out]; exact HZ.out) (by rw [HX.out.2, HD0.out]; omega))).symm), below_drewN (below_drewN HW.out _) _⟩
            · go_wp2
              go_quiet ((go_at_call 123; exact Calls.quiet_of (hone.out _)))
              go_wp2
              go_quiet (fail)
              go_wp2
              go_roundw
              case rel => exact ⟨k + 1 + 1, by omega, by go_num, by rw [HF.out]; exact firstBad_miss hlt (atFault_none (by have := HX.out; rw [this.1, this.2, HQ.out]; exact HZ.out) (by rw [HX.out.2, HD0.out]; omega)), below_drewN HW.out _⟩
              case measure => simp [intOf]; omega
        · have hz' : (q != 0) = true := by simp [hz]
          go_wp2
          go_quiet ((go_at_call 123; exact Calls.quiet_of (hone.out _)))
          go_wp2
          go_ret
          exact ⟨ret_int (by rw [HF.out]; exact (firstBad_hit hlt (atFault_one (by rw [HX.out.1, HX.out.2]; exact HQ.out) hz)).symm), below_drewN HW.out _⟩
      · go_wp2
        go_ret
        exact ⟨ret_int (by rw [HF.out]; exact (firstBad_end (by omega)).symm), HW.out⟩

set_option maxHeartbeats 1600000 in
theorem implFault_any (a : Option Addr) (c n : Nat) (D : Nat → Int) (P : Nat → List Int) (w : World) (h : RdC w a D P n) (hn : n ≤ 1048576) (hP : ∀ i, i < n → U8 (P i) ∧ (P i).length ≤ 1048576) :
    Calls Tryz.prog 48 #[.slice a n c] w fun e w' => e = .returned (.int .i64 (fault D P n)) ∧ Below w.heap.size w w' := by
  have HA := hide h
  have HP := hide hP
  clear h hP
  by_cases hbig : 40 < n
  · have hb : (40 : Int) < (n : Int) := by omega
    have hf : fault D P n = 2 := by simp [fault, hbig]
    rw [hf]
    go_enter Tryz.func48, Tryz.ntmps48
    go_wp2
    go_ret
    exact ⟨rfl, Below.refl _ _⟩
  · have hb : ¬ (40 : Int) < (n : Int) := by omega
    have HF : Hid (fault D P n = firstBad (atFault D P) 0 (n - 0)) := by simp [fault, hbig, Hid]
    generalize hfl : fault D P n = F at HF ⊢
    clear hfl
    go_enter Tryz.func48, Tryz.ntmps48
    go_wp2
    go_loopw [3, 4, 5, 11] (fun _ _ _ i wr => ∃ k : Nat, k ≤ n ∧ i = .int .i64 k ∧ F = firstBad (atFault D P) k (n - k) ∧ Below w.heap.size w wr) (fun _ _ _ i _ => n - (intOf i).toNat)
    case atStart => exact ⟨0, Nat.zero_le _, rfl, HF.out, Below.refl _ _⟩
    case round =>
      obtain ⟨k, hk, rfl, hF, hbel⟩ := hrel
      have HF := hide hF
      have HW := hide hbel
      clear hF hbel
      by_cases hlt : k < n
      · obtain ⟨b1, o1, A1, C1, rfl, hb1, hc1⟩ := (HA.out.below HW.out) (by omega)
        obtain ⟨c1, e1, r1⟩ := hc1 k hlt
        obtain ⟨hu, hp⟩ := HP.out k hlt
        generalize A1 k = a1 at e1 r1
        generalize C1 k = d1 at e1
        have R1 := hide r1
        have U1 := hide hu
        have HC := hide hc1
        clear hc1 r1 hu
        generalize hq : oneFault (D k) (P k) = q
        have HQ := hide hq
        clear hq
        generalize hxs : P k = xs at *
        generalize hdd : D k = dd at *
        have HX := hide (And.intro hxs hdd)
        clear hxs hdd
        have hone := implOne_any dd a1 d1 xs (wr.alloc (.cells #[.int .i64 dd, .slice a1 xs.length d1] 108)) (R1.out.below (below_alloc _ _)) U1.out hp
        rw [HQ.out] at hone
        have HO := hide hone
        clear hone
        go_wp2_with fail
        refine HO.out.mono ?_
        rintro e w2 ⟨rfl, b2⟩
        obtain ⟨t0, t1⟩ := (Two.new wr (.int .i64 dd) (.slice a1 xs.length d1) 108).below b2
        have B2 := hide (below_next (below_alloc _ _) b2)
        have BW := hide (below_next HW.out B2.out)
        clear b2 HO
        by_cases hz : q = 0
        · have hz' : (q != 0) = false := by simp [hz]
          have HZ := hide hz
          clear hz
          cases k with
          | zero =>
            go_wp2
            go_quiet (fail)
            go_wp2
            go_roundw
            case rel => exact ⟨1, by omega, by go_num, by rw [HF.out]; exact firstBad_miss hlt (atFault_first (by have := HX.out; rw [this.1, this.2, HQ.out]; exact HZ.out)), below_drewN BW.out _⟩
            case measure => simp [intOf]; omega
          | succ k =>
            have hg : (0 : Int) < ((k + 1 : Nat) : Int) := by omega
            obtain ⟨c0, _, _⟩ := HC.out k (by omega)
            have c0' := (B2.out.cell (p := ⟨b1, o1 + k * 2, none⟩) hb1).trans c0
            generalize hd0 : D k = d0 at c0'
            have HD0 := hide hd0
            clear hd0 c0
            by_cases hle : dd ≤ d0
            · go_wp2
              go_quiet (fail)
              go_wp2
              go_ret
              exact ⟨ret_int (by rw [HF.out]; exact (firstBad_hit hlt (atFault_form (by have := HX.out; rw [this.1, this.2, HQ.out]; exact HZ.out) (by rw [HX.out.2, HD0.out]; exact hle))).symm), below_drewN BW.out _⟩
            · go_wp2
              go_quiet (fail)
              go_wp2
              go_roundw
              case rel => exact ⟨k + 1 + 1, by omega, by go_num, by rw [HF.out]; exact firstBad_miss hlt (atFault_none (by have := HX.out; rw [this.1, this.2, HQ.out]; exact HZ.out) (by rw [HX.out.2, HD0.out]; omega)), below_drewN BW.out _⟩
              case measure => simp [intOf]; omega
        · have hz' : (q != 0) = true := by simp [hz]
          go_wp2
          go_ret
          exact ⟨ret_int (by rw [HF.out]; exact (firstBad_hit hlt (atFault_one (by rw [HX.out.1, HX.out.2]; exact HQ.out) hz)).symm), BW.out⟩
      · go_wp2
        go_ret
        exact ⟨ret_int (by rw [HF.out]; exact (firstBad_end (by omega)).symm), HW.out⟩


end Go.Proofs.YtejipahfodhmjaaGreat

namespace Go.Proofs.YtejipahfodhmjaaGreat
open Go.RowKit Go.Maps
set_option linter.unusedVariables false

abbrev Ch := Int × List Int
def lst (D : Nat → Int) (P : Nat → List Int) (n : Nat) : List Ch := (List.range n).map fun i => (D i, P i)
theorem lst_succ (D : Nat → Int) (P : Nat → List Int) (n : Nat) : lst D P (n + 1) = lst D P n ++ [(D n, P n)] := by simp [lst, List.range_succ]
theorem lst_length (D : Nat → Int) (P : Nat → List Int) (n : Nat) : (lst D P n).length = n := by simp [lst]
theorem lst_mem {D : Nat → Int} {P : Nat → List Int} {n : Nat} {p : Ch} : p ∈ lst D P n ↔ ∃ i, i < n ∧ p = (D i, P i) := by
  simp [lst, eq_comm]
theorem lst_key {D : Nat → Int} {P : Nat → List Int} {n : Nat} {d : Int} : d ∈ (lst D P n).map Prod.fst ↔ ∃ i, i < n ∧ D i = d := by
  simp [lst]

def RV (v : Value) : Option (DataW Value × List MemPlace) := some (.held v, [])
def chv (d : Int) (a : Option Addr) (n c : Nat) : Value := .agg #[.int .i64 d, .slice a n c]

theorem law64 : Keyed Tryz.prog 2 := int_keyed Tryz.underlying2
theorem zeroCh (w : World) : (zeroValue 108).run Tryz.prog w = .ok (.agg #[.int .i64 0, .slice none 0 0]) w := by kernel_rfl
theorem i64_wf {d : Int} (h0 : 0 ≤ d) (h1 : d ≤ 4294967295) : (Lit.int .i64 d).wf = true := by
  simp [Lit.wf, IntKind.min, IntKind.max, IntKind.signed, IntKind.bits]; omega
theorem key64 {d : Int} (h : (Lit.int .i64 d).wf = true) : keyOf Tryz.prog 2 (.int .i64 d) = some (.int .i64 d) := keyOf_int_mk Tryz.underlying2 h

def Holds (w : World) (b N : Nat) (L : List Ch) (T : Nat) : Prop :=
  ∃ (Dt : DataW Value) (A : Int → Option Addr) (C : Int → Nat), w.ownsMap Tryz.prog 2 RV b N Dt ∧ (∀ k, has Dt (.int .i64 k) = decide (k ∈ L.map Prod.fst)) ∧
    (∀ p ∈ L, (∀ z, Dt.atKey (.int .i64 p.1) z = .held (chv p.1 (A p.1) p.2.length (C p.1))) ∧ Reads .u8 w (A p.1) p.2 ∧ ∀ x, A p.1 = some x → x.block < T) ∧ size Dt = L.length ∧ (L.map Prod.fst).Nodup

theorem Holds.lt {w : World} {b N : Nat} {L : List Ch} {T : Nat} (h : Holds w b N L T) : b < w.heap.size := by
  obtain ⟨Dt, A, C, h1, _⟩ := h
  exact h1.lt

theorem ownsMap_kept {S : Nat → Prop} {w w' : World} {b N : Nat} {Dt : DataW Value} (h : w.ownsMap Tryz.prog 2 RV b N Dt) (hk : Kept S w w') (hb : ¬ S b) : w'.ownsMap Tryz.prog 2 RV b N Dt := by
  have hlt := h.lt
  obtain ⟨es, clock, hh, r⟩ := h
  exact ⟨es, clock, (hk.block b hlt hb).trans hh, r⟩
theorem ownsMap_cell {w : World} {b N : Nat} {Dt : DataW Value} (h : w.ownsMap Tryz.prog 2 RV b N Dt) {b' o : Nat} {v : Value} (hc : w.cell? ⟨b', o, none⟩ = some v) : b' ≠ b := by
  obtain ⟨es, clock, hh, r⟩ := h
  intro e
  subst e
  simp [World.cell?, hh] at hc
theorem Reads.far {w : World} {b N : Nat} {Dt : DataW Value} (h : w.ownsMap Tryz.prog 2 RV b N Dt) {a : Option Addr} {zs : List Int} (hr : Reads .u8 w a zs) : zs ≠ [] → ∀ x, a = some x → x.block ≠ b := by
  intro hz x hx
  obtain ⟨b1, off, e, hb, hc⟩ := hr hz
  subst e
  cases hx
  have h0 : 0 < zs.length := List.length_pos_iff.2 hz
  exact ownsMap_cell h (hc 0 h0)

theorem Holds.kept {S : Nat → Prop} {w w' : World} {b N : Nat} {L : List Ch} {T : Nat} (h : Holds w b N L T) (hk : Kept S w w') (hb : ¬ S b) (hS : ∀ x, S x → T ≤ x) : Holds w' b N L T := by
  obtain ⟨Dt, A, C, h1, h2, h3, h4⟩ := h
  refine ⟨Dt, A, C, ownsMap_kept h1 hk hb, h2, fun p hp => ⟨(h3 p hp).1, (h3 p hp).2.1.kept hk (fun hz x hx hs => ?_), (h3 p hp).2.2⟩, h4⟩
  have h5 := hS _ hs
  have h6 := (h3 p hp).2.2 x hx
  omega
theorem Holds.below {w w' : World} {b N : Nat} {L : List Ch} {T : Nat} (h : Holds w b N L T) (hk : Below w.heap.size w w') : Holds w' b N L T :=
  h.kept (S := fun _ => False) (Kept.of_below hk) id (fun _ h => h.elim)

theorem Kept.of_grown {w w' : World} {b : Nat} (h : w.grownBy w' (some b)) : Kept (fun x => x = b) w w' :=
  ⟨h.os, h.tape, h.output, h.size, fun k hk hn => h.block k hk (fun e => hn (by simpa using e))⟩

theorem Holds.made (w : World) (T : Nat) : Holds (w.alloc (.map #[] 0)) w.heap.size 0 [] T :=
  ⟨.map [], fun _ => none, fun _ => 0, World.ownsMap_made _ _ _ _, fun k => by simp [has], fun p hp => by simp at hp, rfl, List.nodup_nil⟩

theorem isKey64 (d : Int) : WideAt.IsKeyLit (.int .i64 d) := trivial

theorem Holds.put {w : World} {b N : Nat} {L : List Ch} {d : Int} {zs : List Int} {a : Option Addr} {c T : Nat} (h : Holds w b N L T) (hd : d ∉ L.map Prod.fst) (hr : Reads .u8 w a zs) (hT : ∀ x, a = some x → x.block < T) :
    ∃ Dt, w.ownsMap Tryz.prog 2 RV b N Dt ∧ ∀ w', w'.ownsMap Tryz.prog 2 RV b (N + 1) (Dt.put (.int .i64 d) (.held (chv d a zs.length c))) → w.grownBy w' (some b) → Holds w' b (N + 1) (L ++ [(d, zs)]) T := by
  obtain ⟨Dt, A, C, h1, h2, h3, h4, h5⟩ := h
  refine ⟨Dt, h1, fun w' ho hg => ?_⟩
  have hk := Kept.of_grown hg
  have hkeep : ∀ {x : Option Addr} {ys : List Int}, Reads .u8 w x ys → Reads .u8 w' x ys := fun hx => hx.kept hk (fun hz y hy e => Reads.far h1 hx hz y hy e)
  have hne : ∀ p ∈ L, p.1 ≠ d := fun p hp e => hd (by rw [← e]; exact List.mem_map_of_mem hp)
  refine ⟨_, fun k => if k = d then a else A k, fun k => if k = d then c else C k, ho, fun k => ?_, fun p hp => ?_, ?_, ?_⟩
  · by_cases e : k = d
    · subst e
      rw [has_put_same h1.isMap (isKey64 _)]
      simp
    · rw [has_put_other (by simpa using e), h2 k]
      simp [e]
  · rcases List.mem_append.1 hp with hp | hp
    · have e := hne p hp
      simp only [if_neg e]
      exact ⟨fun z => by rw [atKey_put_other (by simpa using e)]; exact (h3 p hp).1 z, hkeep (h3 p hp).2.1, (h3 p hp).2.2⟩
    · simp at hp
      subst hp
      simp only [if_true]
      exact ⟨fun z => atKey_put_same h1.isMap (isKey64 _) _ _, hkeep hr, hT⟩
  · rw [size_put (h1.tidy law64), h2 d, h4]
    simp [hd]
  · rw [List.map_append, List.nodup_append]
    refine ⟨h5, by simp, fun x hx y hy => ?_⟩
    simp at hy
    subst hy
    intro e
    subst e
    exact hd hx

theorem Holds.yes {w : World} {b N : Nat} {L : List Ch} {d : Int} {zs : List Int} {T : Nat} (h : Holds w b N L T) (hp : (d, zs) ∈ L) (hw : (Lit.int .i64 d).wf = true) (t : TypeId) (ht : Tryz.prog.underlying t = some (.map 2 108)) :
    ∃ a c, (∀ k : Bool, (Instr.lookup t (.map (some b)) (.int .i64 d) k).run Tryz.prog w = .ok (if k then .tuple #[chv d a zs.length c, .bool true] else chv d a zs.length c) w) ∧ Reads .u8 w a zs ∧ ∀ x, a = some x → x.block < T := by
  obtain ⟨Dt, A, C, h1, h2, h3, h4, h5⟩ := h
  have hm : d ∈ L.map Prod.fst := List.mem_map_of_mem (f := Prod.fst) hp
  refine ⟨A d, C d, fun k => ?_, (h3 _ hp).2⟩
  cases k with
  | true =>
    obtain ⟨v, ps, hrun, hv⟩ := h1.look_ok law64 ht (zeroCh w) (zd := .held (.agg #[.int .i64 0, .slice none 0 0])) (zp := []) rfl (key64 hw)
    simp only [RV, Option.some.injEq, Prod.mk.injEq, (h3 _ hp).1] at hv
    have e := hv.1
    simp only [DataW.held.injEq] at e
    rw [hrun, h2 d]
    simp [hm, e]
  | false =>
    obtain ⟨v, ps, hrun, hv⟩ := h1.lookup law64 ht (zeroCh w) (zd := .held (.agg #[.int .i64 0, .slice none 0 0])) (zp := []) rfl (key64 hw)
    simp only [RV, Option.some.injEq, Prod.mk.injEq, (h3 _ hp).1] at hv
    have e := hv.1
    simp only [DataW.held.injEq] at e
    rw [hrun]
    simp [e]
theorem Holds.no {w : World} {b N : Nat} {L : List Ch} {d : Int} {T : Nat} (h : Holds w b N L T) (hp : d ∉ L.map Prod.fst) (hw : (Lit.int .i64 d).wf = true) (t : TypeId) (ht : Tryz.prog.underlying t = some (.map 2 108)) :
    (Instr.lookup t (.map (some b)) (.int .i64 d) true).run Tryz.prog w = .ok (.tuple #[.agg #[.int .i64 0, .slice none 0 0], .bool false]) w := by
  obtain ⟨Dt, A, C, h1, h2, h3, h4, h5⟩ := h
  obtain ⟨v, ps, hrun, hv⟩ := h1.look_ok law64 ht (zeroCh w) (zd := .held (.agg #[.int .i64 0, .slice none 0 0])) (zp := []) rfl (key64 hw)
  have hh : has Dt (.int .i64 d) = false := by rw [h2 d]; simpa using hp
  rw [atKey_of_not_has hh] at hv
  simp only [RV, Option.some.injEq, Prod.mk.injEq] at hv
  have e := hv.1
  simp only [DataW.held.injEq] at e
  rw [hrun, hh, e]

theorem wpList_look {P : Program} {w : World} {ops : Array Oper} {rest : List Oper} {o : Oper} {a : Act} {Q : Exit → Act → World → Prop} (hg : o.guard = none) (m x : Operand) (t : TypeId) (c : Bool) (hop : o.op = Op.lookup t m x c)
    (vm vx v : Value) (hm : a.eval m = vm) (hx : a.eval x = vx) (hrun : (Instr.lookup t vm vx c).run P w = .ok v w) (h : wpList P ops Q rest (a.put o.dst v) w) : wpList P ops Q (o :: rest) a w := by
  refine wpList_plain hg fun K' hK' => ?_
  unfold Oper.wp
  simp [execOp, hop, hm, hx, hrun, Result.andThen]
  exact hK' _ _ h

end Go.Proofs.YtejipahfodhmjaaGreat

namespace Go.Proofs.YtejipahfodhmjaaGreat
open Go.RowKit
set_option linter.unusedVariables false

def GB (B T : Nat) (w : World) (v : Value) (ds : List Int) : Prop :=
  w.ownsRow B 5 1 v ds.length (ds.map (Value.int .u8)) ∧ ∀ b, v.ownBlock = some b → b < T
theorem GB.mk {B : Nat} {w : World} {v : Value} {ds : List Int} {n : Nat} (h : w.ownsRow B 5 1 v n (ds.map (Value.int .u8))) (hn : n = ds.length) : GB B w.heap.size w v ds := by
  subst hn
  exact ⟨h, fun b hb => (h.lt b hb).2⟩
end Go.Proofs.YtejipahfodhmjaaGreat

namespace Go.Proofs.YtejipahfodhmjaaGreat
open Go.RowKit Go.Maps
set_option linter.unusedVariables false

theorem RightC.inj {D : Nat → Int} {P : Nat → List Int} {n : Nat} (h : RightC D P n) : ∀ i j, i < j → j < n → D i < D j := by
  intro i j hij hj
  induction j with
  | zero => omega
  | succ j ih =>
    have h1 := h.up j hj
    by_cases e : i = j
    · subst e; exact h1
    · have := ih (by omega) (by omega)
      omega
theorem RightC.new {D : Nat → Int} {P : Nat → List Int} {n k : Nat} (h : RightC D P n) (hk : k < n) : D k ∉ (lst D P k).map Prod.fst := by
  rw [lst_key]
  rintro ⟨i, hi, e⟩
  have := h.inj i k hi hk
  omega
theorem RightC.wf {D : Nat → Int} {P : Nat → List Int} {n k : Nat} (h : RightC D P n) (hk : k < n) : (Lit.int .i64 (D k)).wf = true := i64_wf (h.range k hk).1 (h.range k hk).2

theorem RightC.first {D : Nat → Int} {P : Nat → List Int} {n i : Nat} (h : RightC D P n) (hi : i < n) : ∀ j, j < i → D j ≠ D i := fun j hj e => by
  have := h.inj j i hj hi
  omega
theorem RightC.u8len {D : Nat → Int} {P : Nat → List Int} {n i : Nat} (h : RightC D P n) (hi : i < n) : 0 < (P i).length ∧ (P i).length ≤ 1048576 := by
  have := h.len i hi; omega

theorem Reads.lt {k : IntKind} {w : World} {a : Option Addr} {zs : List Int} (h : Reads k w a zs) (hz : zs ≠ []) : ∀ x, a = some x → x.block < w.heap.size := by
  intro x hx
  obtain ⟨b, off, e, hb, _⟩ := h hz
  rw [hx] at e
  simp only [Option.some.injEq] at e
  subst e
  exact hb

set_option maxRecDepth 100000 in
set_option maxHeartbeats 1600000 in
theorem mapChunks_any (a : Option Addr) (c n : Nat) (D : Nat → Int) (P : Nat → List Int) (w : World) (h : RdC w a D P n) (hR : RightC D P n) :
    Calls Tryz.prog 50 #[.slice a n c] w fun e w' => ∃ b, e = .returned (.map (some b)) ∧ w.heap.size ≤ b ∧ Holds w' b n (lst D P n) w.heap.size ∧ Below w.heap.size w w' := by
  have HA := hide h
  have HR := hide hR
  have hn := hR.many
  clear h hR
  have hmm : ∀ u : World, (Instr.makeMap 67 (some (.int .i64 (n : Int)))).run Tryz.prog u = .ok (.map (some u.heap.size)) (u.alloc (.map #[] 0)) := fun u => by simp [Instr.makeMap, asInt, asIntOf, Result.andThen]
  go_enter Tryz.func50, Tryz.ntmps50
  go_wp2
  go_loopw [5, 11] (fun _ i wr => ∃ k : Nat, k ≤ n ∧ i = .int .i64 k ∧ Holds wr w.heap.size k (lst D P k) w.heap.size ∧ Below w.heap.size w wr) (fun _ i _ => n - (intOf i).toNat)
  case atStart => exact ⟨0, Nat.zero_le _, rfl, Holds.made w _, below_alloc _ _⟩
  case round =>
    obtain ⟨k, hk, rfl, hH, hbel⟩ := hrel
    have HH := hide hH
    have HW := hide hbel
    clear hH hbel
    by_cases hlt : k < n
    · obtain ⟨b1, o1, A1, C1, rfl, hb1, hc1⟩ := HA.out (by omega)
      obtain ⟨c1, e1, r1⟩ := hc1 k hlt
      have c1 := (HW.out.cell (p := ⟨b1, o1 + k * 2, none⟩) hb1).trans c1
      have e1 := (HW.out.cell (p := ⟨b1, o1 + k * 2 + 1, none⟩) hb1).trans e1
      have hpos := (HR.out.u8len hlt).1
      have hT := r1.lt (by intro e; simp [e] at hpos)
      have r1 := r1.below HW.out
      have hnew := HR.out.new hlt
      have hwf := HR.out.wf hlt
      have HS := hide (lst_succ D P k)
      generalize A1 k = a1 at e1 r1 hT
      generalize C1 k = d1 at e1
      generalize P k = xs at *
      generalize D k = dd at *
      generalize lst D P k = L at *
      obtain ⟨Dt, hown, hput⟩ := (HH.out.below (below_alloc wr (.cells #[.int .i64 dd, .slice a1 xs.length d1] 108))).put (c := d1) hnew (r1.below (below_alloc _ _)) hT
      have HO := hide hown
      have HPt := hide hput
      have HK := hide (key64 hwf)
      clear hc1 r1 hown hput hnew hwf hT hpos
      go_wp2_with (first | (at_mapUpdate; refine wpList_mapUpdate_own _ rfl _ _ _ 67 rfl 2 108 law64 Tryz.underlying67 RV w.heap.size k Dt rfl HO.out (by unfold maxLen; omega) _ _ _ rfl rfl HK.out (.held (chv dd a1 xs.length d1)) [] rfl ?_; intro w1 hown1 hgrow1; have HH1 := hide (HPt.out w1 hown1 hgrow1); have HG1 := hide hgrow1; clear hown1 hgrow1) | go_in)
      go_roundw
      case rel => exact ⟨k + 1, by omega, by go_num, by rw [HS.out]; exact HH1.out, (below_next HW.out (below_alloc _ _)).trans ((Kept.of_grown HG1.out).below (Nat.le_trans HW.out.size (by simp)) (fun j hj e => by omega))⟩
      case measure => simp [intOf]; omega
    · have hke : k = n := by omega
      subst hke
      go_wp2
      go_ret
      exact ⟨_, rfl, Nat.le_refl _, HH.out, HW.out⟩

set_option maxRecDepth 100000 in
set_option maxHeartbeats 800000 in
theorem l2At_yes (a : Option Addr) (c n i : Nat) (d : Int) (D : Nat → Int) (P : Nat → List Int) (w : World) (h : RdC w a D P n) (hn : n ≤ 1048576) (hi : i < n) (hd : D i = d) (hf : ∀ j, j < i → D j ≠ d) :
    Calls Tryz.prog 88 #[.slice a n c, .int .i64 d] w fun e w' => e = .returned (.int .i64 i) ∧ w' = w := by
  obtain ⟨b1, o1, A1, C1, rfl, hb1, hc1⟩ := h (by omega)
  have HC := hide hc1
  have HF := hide hf
  have HD := hide hd
  clear h hc1 hf hd
  go_enter Tryz.func88, Tryz.ntmps88
  go_wp2
  go_loop [5] (fun q => ∃ k : Nat, k ≤ i ∧ q = .int .i64 k) (fun q => n - (intOf q).toNat)
  case atStart => exact ⟨0, Nat.zero_le _, rfl⟩
  case round =>
    obtain ⟨k, hk, rfl⟩ := hrel
    have hlt : k < n := by omega
    obtain ⟨c1, _, _⟩ := HC.out k hlt
    by_cases e : k = i
    · subst e
      rw [HD.out] at c1
      go_wp2
      go_ret
      exact ⟨rfl, rfl⟩
    · have hne : (D k == d) = false := by simpa using HF.out k (by omega)
      generalize D k = dd at c1 hne
      go_wp2
      go_round
      case rel => exact ⟨k + 1, by omega, by go_num⟩
      case measure => simp [intOf]; omega

set_option maxRecDepth 100000 in
set_option maxHeartbeats 800000 in
theorem l2At_no (a : Option Addr) (c n : Nat) (d : Int) (D : Nat → Int) (P : Nat → List Int) (w : World) (h : RdC w a D P n) (hn : n ≤ 1048576) (hf : ∀ j, j < n → D j ≠ d) :
    Calls Tryz.prog 88 #[.slice a n c, .int .i64 d] w fun e w' => e = .returned (.int .i64 (-1)) ∧ w' = w := by
  have HA := hide h
  have HF := hide hf
  clear h hf
  go_enter Tryz.func88, Tryz.ntmps88
  go_wp2
  go_loop [5] (fun q => ∃ k : Nat, k ≤ n ∧ q = .int .i64 k) (fun q => n - (intOf q).toNat)
  case atStart => exact ⟨0, Nat.zero_le _, rfl⟩
  case round =>
    obtain ⟨k, hk, rfl⟩ := hrel
    by_cases hlt : k < n
    · obtain ⟨b1, o1, A1, C1, rfl, hb1, hc1⟩ := HA.out (by omega)
      obtain ⟨c1, _, _⟩ := hc1 k hlt
      have hne : (D k == d) = false := by simpa using HF.out k hlt
      generalize D k = dd at c1 hne
      clear hc1
      go_wp2
      go_round
      case rel => exact ⟨k + 1, by omega, by go_num⟩
      case measure => simp [intOf]; omega
    · go_wp2
      go_ret
      exact ⟨rfl, rfl⟩

def ResB (q : Int) (zs : List Int) (w : World) (e : Ending) (w' : World) : Prop :=
  ∃ a' c', e = .returned (.agg #[.int .i64 q, .slice a' zs.length c']) ∧ GB w.heap.size w'.heap.size w' (.slice a' zs.length c') zs ∧ Below w.heap.size w w'
theorem GB.nil (B T : Nat) (w : World) : GB B T w (.slice none 0 0) [] := ⟨World.ownsRow_nil _ _ _ _, fun b hb => by simp [Value.ownBlock] at hb⟩
theorem ResB.no {q : Int} {w w' : World} (h : Below w.heap.size w w') : ResB q [] w (.returned (.agg #[.int .i64 q, .slice none 0 0])) w' := ⟨none, 0, rfl, GB.nil _ _ _, h⟩





end Go.Proofs.YtejipahfodhmjaaGreat

namespace Go.Proofs.YtejipahfodhmjaaGreat
open Go.RowKit
set_option linter.unusedVariables false

def upd {α : Type} (f : Nat → α) (j : Nat) (x : α) : Nat → α := fun t => if t = j then x else f t
theorem upd_same {α : Type} (f : Nat → α) (j : Nat) (x : α) : upd f j x j = x := by simp [upd]
theorem upd_other {α : Type} (f : Nat → α) (j : Nat) (x : α) {t : Nat} (h : t ≠ j) : upd f j x t = f t := by simp [upd, h]

theorem GC.congr {B T : Nat} {w : World} {v : Value} {D D' : Nat → Int} {P P' : Nat → List Int} {n : Nat} (h : GC B T w v D P n) (hD : ∀ i, i < n → D' i = D i) (hP : ∀ i, i < n → P' i = P i) : GC B T w v D' P' n := by
  obtain ⟨A, C, h1, h2, h3, h4, h5⟩ := h
  refine ⟨A, C, ?_, fun i hi => by rw [hP i hi]; exact h2 i hi, h3, h4, h5⟩
  rw [flat_congr (G := chCells D P A C) (fun i hi => by simp [chCells, hD i hi, hP i hi])]
  exact h1

end Go.Proofs.YtejipahfodhmjaaGreat

