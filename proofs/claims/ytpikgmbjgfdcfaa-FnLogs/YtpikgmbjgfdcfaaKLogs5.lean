/-
  Texts put together: Draw DrawP LogDa LogDb.
-/
import Derived.Test.YtpikgmbjgfdcfaaKLogs1
import Derived.Test.YtpikgmbjgfdcfaaKLogs4
import Derived.Deep.CutBlock
namespace Go.Proofs.Ytpikgmbjgfdcfaa
open Go.RowKit
set_option linter.unusedVariables false

def Src (w : World) (p : Nat) (zs : List Int) (t : Int) : Prop :=
  ∃ a c, w.cell? ⟨p, 0, none⟩ = some (.slice a zs.length c) ∧ w.cell? ⟨p, 1, none⟩ = some (.int .i64 t) ∧ w.frozen? ⟨p, 1, none⟩ = false ∧ Reads .u8 w a zs ∧ (zs ≠ [] → ∀ x, a = some x → x.block < p)

theorem Src.step {w : World} {p : Nat} {zs : List Int} {t : Int} (h : Src w p zs t) (s : Int) : Src (w.setCell ⟨p, 1, none⟩ (.int .i64 s)) p zs s ∧ Kept (fun b => b = p) w (w.setCell ⟨p, 1, none⟩ (.int .i64 s)) := by
  obtain ⟨a, c, q0, q1, q2, hr, hap⟩ := h
  have hk : Kept (fun b => b = p) w (w.setCell ⟨p, 1, none⟩ (.int .i64 s)) := Kept.setCell (S := fun b => b = p) (p := ⟨p, 1, none⟩) (Kept.refl _ w) (fun _ => rfl) _
  refine ⟨⟨a, c, ?_, cell_set_same q1, by rw [World.frozen?_setCell]; exact q2, hr.kept hk (fun hz x hx e => by have := hap hz x hx; omega), hap⟩, hk⟩
  rw [cell_set_other (by intro e; have := congrArg Addr.off e; simp at this)]; exact q0

theorem Src.drewN {w : World} {p : Nat} {zs : List Int} {t : Int} (h : Src w p zs t) (n : Nat) : Src (w.drewN n) p zs t := h

theorem Src.kept {S : Nat → Prop} {w w' : World} {p : Nat} {zs : List Int} {t : Int} (h : Src w p zs t) (hk : Kept S w w') (hS : ∀ b, b ≤ p → ¬ S b) : Src w' p zs t := by
  obtain ⟨a, c, q0, q1, q2, hr, hap⟩ := h
  have hlt := World.block_lt_of_cell? w ⟨p, 0, none⟩ q0
  have hp := hS p (Nat.le_refl _)
  exact ⟨a, c, (hk.cell (p := ⟨p, 0, none⟩) hlt hp).trans q0, (hk.cell (p := ⟨p, 1, none⟩) hlt hp).trans q1, (hk.frozen (p := ⟨p, 1, none⟩) hlt hp).trans q2, hr.kept hk (fun hz x hx => hS _ (Nat.le_of_lt (hap hz x hx))), hap⟩

theorem Src.below {w w' : World} {p : Nat} {zs : List Int} {t : Int} (h : Src w p zs t) (hk : Below w.heap.size w w') : Src w' p zs t :=
  Src.kept (S := fun _ => False) h (Kept.of_below hk) (fun _ _ => id)
theorem Src.lt {w : World} {p : Nat} {zs : List Int} {t : Int} (h : Src w p zs t) : p < w.heap.size := by
  obtain ⟨a, c, q0, _⟩ := h
  exact World.block_lt_of_cell? w ⟨p, 0, none⟩ q0

theorem rem_bd (v n : Int) (hn : 1 ≤ n) : 0 ≤ v % n ∧ v % n < n := ⟨Int.emod_nonneg _ (by omega), Int.emod_lt_of_pos _ (by omega)⟩
theorem mod_bd (t : Int) (k : Nat) (hk : 0 < k) : 0 ≤ t % (k : Int) ∧ t % (k : Int) < (k : Int) := ⟨Int.emod_nonneg _ (by omega), Int.emod_lt_of_pos _ (by omega)⟩
theorem div_bd (t : Int) (k : Nat) (h0 : 0 ≤ t) : 0 ≤ t / (k : Int) ∧ t / (k : Int) ≤ t := ⟨Int.ediv_nonneg h0 (by omega), Int.ediv_le_self _ h0⟩

set_option maxHeartbeats 1600000 in
theorem l1Next_big (p : Nat) (zs : List Int) (t n : Int) (w : World) (h : Src w p zs t) (hu : U8 zs) (ht0 : 0 ≤ t) (ht1 : t ≤ 1099511627776) (hn0 : 1 ≤ n) (hn1 : n ≤ 2147483648) (hl : zs.length ≤ 2097152) :
    Calls Try.prog 43 #[.pointer (some ⟨p, 0, none⟩), .int .i64 n] w fun e w' => ∃ r, e = .returned (.int .i64 r) ∧ 0 ≤ r ∧ r < n ∧ Src w' p zs (t + 1) ∧ Kept (fun b => b = p) w w' := by
  have HS := hide (h.step (t + 1))
  obtain ⟨a, c, q0, q1, q2, hr, hap⟩ := h
  by_cases hz : zs = []
  · have hn : zs.length = 0 := by rw [hz]; rfl
    rw [hn] at q0
    have hmod : 0 ≤ t * 7 % n ∧ t * 7 % n < n := ⟨Int.emod_nonneg _ (by omega), Int.emod_lt_of_pos _ (by omega)⟩
    have HM := hide hmod
    clear hmod hr hap hz hn
    go_enter Try.func43, Try.ntmps43
    go_wp2
    go_ret
    exact ⟨_, rfl, HM.out.1, HM.out.2, HS.out.1, HS.out.2⟩
  · obtain ⟨b, off, rfl, hb, hc⟩ := hr hz
    have hlen : 0 < zs.length := List.length_pos_iff.2 hz
    have hne : ((zs.length : Int) == 0) = false := by simp; omega
    have hbp : b ≠ p := by have := hap hz _ rfl; simp at this; omega
    obtain ⟨m0, m1⟩ := mod_bd t zs.length hlen
    obtain ⟨m2, m3⟩ := mod_bd (t + 1) zs.length hlen
    obtain ⟨d0, d1⟩ := div_bd t zs.length ht0
    have hz1 := hu.get (t % (zs.length : Int)).toNat
    have hz2 := hu.get ((t + 1) % (zs.length : Int)).toNat
    have c1 := hc (t % (zs.length : Int)).toNat (by omega)
    have c2 := hc ((t + 1) % (zs.length : Int)).toNat (by omega)
    generalize zs.getD (t % (zs.length : Int)).toNat 0 = z1 at hz1 c1
    generalize zs.getD ((t + 1) % (zs.length : Int)).toNat 0 = z2 at hz2 c2
    generalize hW : w.setCell ⟨p, 1, none⟩ (.int .i64 (t + 1)) = W at HS
    have k0 : W.cell? ⟨p, 0, none⟩ = some (.slice (some ⟨b, off, none⟩) zs.length c) := by rw [← hW, cell_set_other (by intro e; have := congrArg Addr.off e; simp at this)]; exact q0
    have k1 : W.cell? ⟨p, 1, none⟩ = some (.int .i64 (t + 1)) := by rw [← hW]; exact cell_set_same q1
    have k2 : W.cell? ⟨b, off + (t % (zs.length : Int)).toNat, none⟩ = some (.int .u8 z1) := by rw [← hW]; exact cell_set_far (fun e => hbp e.symm) c1
    have k3 : W.cell? ⟨b, off + ((t + 1) % (zs.length : Int)).toNat, none⟩ = some (.int .u8 z2) := by rw [← hW]; exact cell_set_far (fun e => hbp e.symm) c2
    have HW := hide hW
    clear hW c1 c2 hc hr hap hz
    by_cases h200 : 200 < n
    · go_enter Try.func43, Try.ntmps43
      go_wp2
      rw [HW.out]
      go_quiet (fail)
      go_wp2
      go_quiet (fail)
      go_wp2
      go_ret
      exact ⟨_, rfl, (rem_bd _ n hn0).1, (rem_bd _ n hn0).2, HS.out.1.drewN _, HS.out.2.drewN _⟩
    · go_enter Try.func43, Try.ntmps43
      go_wp2
      rw [HW.out]
      go_quiet (fail)
      go_wp2
      go_ret
      exact ⟨_, rfl, (rem_bd _ n hn0).1, (rem_bd _ n hn0).2, HS.out.1.drewN _, HS.out.2.drewN _⟩
theorem l1Next_any (p : Nat) (zs : List Int) (t n : Int) (w : World) (h : Src w p zs t) (hu : U8 zs) (ht0 : 0 ≤ t) (ht1 : t ≤ 1099511627776) (hn0 : 1 ≤ n) (hn1 : n ≤ 2147483648) (hl : zs.length ≤ 1048576) :
    Calls Try.prog 43 #[.pointer (some ⟨p, 0, none⟩), .int .i64 n] w fun e w' => ∃ r, e = .returned (.int .i64 r) ∧ 0 ≤ r ∧ r < n ∧ Src w' p zs (t + 1) ∧ Kept (fun b => b = p) w w' :=
  l1Next_big p zs t n w h hu ht0 ht1 hn0 hn1 (by omega)

set_option maxHeartbeats 400000 in
theorem l1Source_any (a : Option Addr) (cap : Nat) (zs : List Int) (w : World) (h : Reads .u8 w a zs) :
    Calls Try.prog 40 #[.slice a zs.length cap] w fun e w' => e = .returned (.pointer (some ⟨w.heap.size, 0, none⟩)) ∧ Src w' w.heap.size zs 0 ∧ w'.heap.size = w.heap.size + 1 ∧ Below w.heap.size w w' := by
  have HR := hide h
  clear h
  go_enter Try.func40, Try.ntmps40
  go_wp2
  go_ret
  refine ⟨rfl, ⟨a, cap, by simp, by simp, by simp, HR.out.below (below_alloc _ _), fun hz x hx => ?_⟩, by simp, below_alloc _ _⟩
  obtain ⟨b, off, rfl, hb, _⟩ := HR.out hz
  simp at hx
  subst hx
  exact hb

set_option maxHeartbeats 800000 in
theorem l1Pick_big (p g c m : Nat) (vs : List Int) (zs : List Int) (t : Int) (w : World) (h : Src w p zs t) (hu : U8 zs) (ht0 : 0 ≤ t) (ht1 : t ≤ 1099511627776) (hl : zs.length ≤ 2097152)
    (hm0 : 0 < m) (hm1 : m ≤ 1000) (hm : m = vs.length) (hg : g ≠ p) (hgl : g < w.heap.size) (hc : ∀ i, i < m → w.cell? ⟨g, i, none⟩ = some (.int .i64 (vs.getD i 0))) :
    Calls Try.prog 42 #[.pointer (some ⟨p, 0, none⟩), .slice (some ⟨g, 0, none⟩) m c] w fun e w' => ∃ v, v ∈ vs ∧ e = .returned (.int .i64 v) ∧ Src w' p zs (t + 1) ∧ Kept (fun b => b = p) w w' := by
  have HS := hide h
  have HU := hide hu
  have HC := hide hc
  have HM := hide hm
  clear h hu hc hm
  go_enter Try.func42, Try.ntmps42
  go_wp2_with fail
  refine (l1Next_big p zs t _ _ HS.out HU.out ht0 ht1 (by omega) (by omega) hl).mono ?_
  rintro e w1 ⟨r, rfl, r0, r1, s1, k1⟩
  obtain ⟨j, rfl⟩ := Int.eq_ofNat_of_zero_le r0
  have hj : j < m := by omega
  have hcj := HC.out j hj
  have hmem : vs.getD j 0 ∈ vs := by
    have hj2 : j < vs.length := by have := HM.out; omega
    have e : vs.getD j 0 = vs[j] := by simp [List.getD_eq_getElem?_getD, hj2]
    rw [e]; exact List.getElem_mem hj2
  generalize vs.getD j 0 = v at hcj hmem
  have hc1 : w1.cell? ⟨g, j, none⟩ = some (.int .i64 v) := (k1.cell (p := ⟨g, j, none⟩) hgl hg).trans hcj
  have S1 := hide s1
  have K1 := hide k1
  have M1 := hide hmem
  clear s1 k1 hcj hmem
  go_wp2_with fail
  go_ret
  exact ⟨v, M1.out, rfl, S1.out, K1.out⟩
theorem l1Pick_any (p g c m : Nat) (vs : List Int) (zs : List Int) (t : Int) (w : World) (h : Src w p zs t) (hu : U8 zs) (ht0 : 0 ≤ t) (ht1 : t ≤ 1099511627776) (hl : zs.length ≤ 1048576)
    (hm0 : 0 < m) (hm1 : m ≤ 1000) (hm : m = vs.length) (hg : g ≠ p) (hgl : g < w.heap.size) (hc : ∀ i, i < m → w.cell? ⟨g, i, none⟩ = some (.int .i64 (vs.getD i 0))) :
    Calls Try.prog 42 #[.pointer (some ⟨p, 0, none⟩), .slice (some ⟨g, 0, none⟩) m c] w fun e w' => ∃ v, v ∈ vs ∧ e = .returned (.int .i64 v) ∧ Src w' p zs (t + 1) ∧ Kept (fun b => b = p) w w' :=
  l1Pick_big p g c m vs zs t w h hu ht0 ht1 (by omega) hm0 hm1 hm hg hgl hc

end Go.Proofs.Ytpikgmbjgfdcfaa

namespace Go.Proofs.Ytpikgmbjgfdcfaa
open Go.RowKit
set_option linter.unusedVariables false

set_option maxRecDepth 100000 in
set_option maxHeartbeats 800000 in
theorem l1Chance_p (p : Nat) (zs : List Int) (t n : Int) (w : World) (h : Src w p zs t) (hu : U8 zs) (ht0 : 0 ≤ t) (ht1 : t ≤ 1099511627776) (hn0 : 1 ≤ n) (hn1 : n ≤ 2147483648) (hl : zs.length ≤ 1048576) :
    Calls Try.prog 65 #[.pointer (some ⟨p, 0, none⟩), .int .i64 n] w fun e w' => ∃ r, e = .returned (.bool r) ∧ Src w' p zs (t + 1) ∧ Kept (fun b => b = p) w w' := by
  have HC := hide (l1Next_any p zs t n w h hu ht0 ht1 hn0 hn1 hl)
  clear h hu
  go_enter Try.func65, Try.ntmps65
  go_wp2_with fail
  refine HC.out.mono ?_
  rintro e w1 ⟨r, rfl, r0, r1, s1, k1⟩
  have S1 := hide s1
  have K1 := hide k1
  clear s1 k1
  go_wp2_with fail
  go_ret
  exact ⟨_, rfl, S1.out, K1.out⟩

def Texts (w : World) (g n m : Nat) : Prop := g < w.heap.size ∧ ∀ i, i < n → ∃ x : Bs, w.cell? ⟨g, i, none⟩ = some (.string (str x)) ∧ x.length ≤ m
theorem Texts.new {w : World} {t : TypeId} {vs : List Bs} {m : Nat} (h : ∀ x ∈ vs, x.length ≤ m) : Texts (w.alloc (.cells (vs.map vS).toArray t)) w.heap.size vs.length m := by
  refine ⟨by simp, fun i hi => ⟨vs[i], ?_, h _ (List.getElem_mem hi)⟩⟩
  rw [cell_of_row _ w.heap.size i (vs.map vS).toArray t (0, 0) (heap_alloc_new w _)]
  simp [hi, vS]
theorem Texts.kept {S : Nat → Prop} {w w' : World} {g n m : Nat} (h : Texts w g n m) (hk : Kept S w w') (hn : ¬ S g) : Texts w' g n m :=
  ⟨Nat.lt_of_lt_of_le h.1 hk.size, fun i hi => by obtain ⟨x, hx, hl⟩ := h.2 i hi; exact ⟨x, (hk.cell (p := ⟨g, i, none⟩) h.1 hn).trans hx, hl⟩⟩


end Go.Proofs.Ytpikgmbjgfdcfaa

namespace Go.Proofs.Ytpikgmbjgfdcfaa
open Go.RowKit
set_option linter.unusedVariables false

set_option maxRecDepth 100000 in
set_option maxHeartbeats 800000 in
theorem l14Line_any (p : Nat) (zs : List Int) (t : Int) (w : World) (h : Src w p zs t) (hu : U8 zs) (ht0 : 0 ≤ t) (ht1 : t ≤ 1099511627776) (hl : zs.length ≤ 1048576) :
    Calls Try.prog 64 #[.pointer (some ⟨p, 0, none⟩)] w fun e w' => ∃ x : Bs, e = .returned (.string (str x)) ∧ x.length ≤ 20 ∧ Src w' p zs (t + 1) ∧ Kept (fun b => b = p) w w' := by
  have hp := h.lt
  have HS := hide h
  have HU := hide hu
  clear h hu
  go_enter Try.func64, Try.ntmps64
  go_wp2_with fail
  have TX := hide (Texts.new (w := w) (t := 9) (vs := [[112, 114, 101, 112, 97, 114, 101, 32, 98, 32, 97], [119, 114, 105, 116, 101, 32, 98, 32, 47, 97, 32, 97, 98, 99], [99, 111, 109, 109, 105, 116, 32, 98], [120], [108, 101, 97, 115, 101, 32, 97], [99, 111, 108, 108, 101, 99, 116], [102, 101, 116, 99, 104, 32, 47, 97, 32, 97, 98, 99, 100]]) (m := 20) (by decide))
  have A0 := hide (below_alloc w (.cells (([[112, 114, 101, 112, 97, 114, 101, 32, 98, 32, 97], [119, 114, 105, 116, 101, 32, 98, 32, 47, 97, 32, 97, 98, 99], [99, 111, 109, 109, 105, 116, 32, 98], [120], [108, 101, 97, 115, 101, 32, 97], [99, 111, 108, 108, 101, 99, 116], [102, 101, 116, 99, 104, 32, 47, 97, 32, 97, 98, 99, 100]] : List Bs).map vS).toArray 9))
  refine (l1Next_any p zs t 7 _ (HS.out.below A0.out) HU.out ht0 ht1 (by decide) (by decide) hl).mono ?_
  rintro e w1 ⟨r, rfl, r0, r1, s1, k1⟩
  have S1 := hide s1
  have K1 := hide (((Kept.refl (fun b => b = p) w).alloc _).trans k1)
  obtain ⟨k, rfl⟩ : ∃ k : Nat, r = k := ⟨r.toNat, by omega⟩
  obtain ⟨tl, tc⟩ := TX.out.kept k1 (by omega)
  obtain ⟨x, hx, hxl⟩ := tc k (by show k < 7; omega)
  clear s1 k1 tc
  go_wp2_with fail
  go_ret
  exact ⟨x, rfl, hxl, S1.out, K1.out⟩
def SomeL (w : World) (r : Ending) (w' : World) : Prop := ∃ q k S L, ResG' q k S L w r w' ∧ U8 S ∧ U8 L ∧ S.length + L.length ≤ 2000
theorem specAppendLog_some (sa la : Option Addr) (sc lc : Nat) (S L : List Int) (s : ByteArray) (w : World) (h : RdL' w sa sc S la lc L) (hs : s.size ≤ 1048576) :
    Calls Try.prog 34 #[.agg #[.slice sa S.length sc, .slice la L.length lc], .string s] w (SomeL w) := by
  have un : U8 [] := fun z hz => by simp at hz
  by_cases h0 : logF S L = 0
  · by_cases hl : lineF s.data.toList = 0
    · refine (specAppendLog_ok sa la sc lc S L s w h h0 hl _ rfl).mono ?_
      rintro e w' (⟨-, h1⟩ | ⟨hb, h1⟩)
      · exact ⟨_, _, [], [], h1, un, un, by simp⟩
      · have hll := lineF_len hl
        exact ⟨_, _, _, _, h1, h.su8, u8_app h.lu8 (packZ_u8 (by omega)), by omega⟩
    · exact (specAppendLog_line sa la sc lc S L s w h h0 hs hl).mono (fun e w' h1 => ⟨_, _, [], [], h1, un, un, by simp⟩)
  · exact (specAppendLog_bad sa la sc lc S L s w h h0).mono (fun e w' h1 => ⟨_, _, [], [], h1, un, un, by simp⟩)
theorem specSyncLog_some (sa la : Option Addr) (sc lc : Nat) (S L : List Int) (w : World) (h : RdL' w sa sc S la lc L) :
    Calls Try.prog 39 #[.agg #[.slice sa S.length sc, .slice la L.length lc]] w (SomeL w) := by
  have un : U8 [] := fun z hz => by simp at hz
  by_cases h0 : logF S L = 0
  · exact (specSyncLog_ok sa la sc lc S L w h h0).mono (fun e w' h1 => ⟨_, _, _, [], h1, u8_app h.su8 h.lu8, un, by have := (logF_zero h0).1; rw [List.length_append]; simpa using this⟩)
  · exact (specSyncLog_bad sa la sc lc S L w h h0).mono (fun e w' h1 => ⟨_, _, [], [], h1, un, un, by simp⟩)
end Go.Proofs.Ytpikgmbjgfdcfaa

namespace Go.Proofs.Ytpikgmbjgfdcfaa
open Go.RowKit
set_option linter.unusedVariables false

theorem tkd {P : Program} {ops : Array Oper} {Q : Exit → Act → World → Prop} {md : Region.Mode} {S : World → Prop} (i d : Nat) (v : Value) {op : Op} {ty : TypeId} {pos : String} {af : Array Edge} {gd : Option (Nat × Bool)} {fuel : Nat} {listed : Array Bool} {a : Act} {w : World} (hS : S w) (hi : ops[i]? = some { dst := some d, op := op, type := ty, pos := pos, after := af, guard := gd })
    (hs : Region.noSelect ops = true) (hf : Region.free md ops listed i = true) (hr : (Region.ready md ops listed).contains i = true) (hQ : ∀ c a w, Q (.panic c) (a.put (some d) v) w → Q (.panic c) a w) (hy : YieldsIf P ops S { dst := some d, op := op, type := ty, pos := pos, after := af, guard := gd } v a)
    (h : wpAnyH P md ops Q S fuel (listed.setIfInBounds i true) (a.put (some d) v) w) : wpAnyH P md ops Q S (fuel + 1) listed a w := wpAnyH_take hi hs hf hr hQ hy hS h
theorem Box.set2 {w : World} {b : Nat} {u v : Value} (h : Box w b u v) (u' v' : Value) : Box ((w.setCell ⟨b, 0, none⟩ u').setCell ⟨b, 1, none⟩ v') b u' v' :=
  ⟨⟨(cell_set_other (by simp)).trans (cell_set_same h.1.1), cell_set_same ((cell_set_other (by simp)).trans h.1.2)⟩, by simpa using h.2.1, by simpa using h.2.2⟩
structure AtG (p : Nat) (zs : List Int) (T : Int) (w0 : World) (sa : Option Addr) (sc : Nat) (S : List Int) (la : Option Addr) (lc : Nat) (L : List Int) (w : World) : Prop where
  src : ∃ t, 0 ≤ t ∧ t ≤ T ∧ Src w p zs t
  var : Box w (w0.heap.size + 1) (.slice sa S.length sc) (.slice la L.length lc)
  res : Box w w0.heap.size (.slice none 0 0) (.slice none 0 0)
  own : GL (w0.heap.size + 2) w.heap.size w sa sc S.length S la lc L.length L
  us : U8 S
  ul : U8 L
  kept : Kept (fun b => b = p) w0 w
  size : w0.heap.size + 2 ≤ w.heap.size
  old : p < w0.heap.size
theorem AtG.rd {p : Nat} {zs : List Int} {T : Int} {w0 : World} {sa : Option Addr} {sc : Nat} {S : List Int} {la : Option Addr} {lc : Nat} {L : List Int} {w : World} (h : AtG p zs T w0 sa sc S la lc L w) (ns : S.length ≤ 1048576) (nl : L.length ≤ 1048576) : RdL' w sa sc S la lc L := by
  obtain ⟨M, -, -, g1, g2⟩ := h.own
  exact ⟨g1.own.reads, g2.own.reads, h.us, h.ul, ownsRow_cap g1.1, ownsRow_cap g2.1, ns, nl⟩
theorem GL.grow {B T T' : Nat} {w : World} {sa : Option Addr} {sc n : Nat} {S : List Int} {la : Option Addr} {lc m : Nat} {L : List Int} (h : GL B T w sa sc n S la lc m L) (hT : T ≤ T') : GL B T' w sa sc n S la lc m L := by
  obtain ⟨M, h1, h2, h3, h4⟩ := h
  exact ⟨M, h1, by omega, h3, h4.1, fun b hb => by have := h4.2 b hb; omega⟩
theorem GL.low {B B' T : Nat} {w : World} {sa : Option Addr} {sc n : Nat} {S : List Int} {la : Option Addr} {lc m : Nat} {L : List Int} (h : GL B T w sa sc n S la lc m L) (hB : B' ≤ B) : GL B' T w sa sc n S la lc m L := by
  obtain ⟨M, h1, h2, h3, h4⟩ := h
  exact ⟨M, by omega, h2, h3.low hB, h4⟩
theorem AtG.keep {p : Nat} {zs : List Int} {T T' : Int} {w0 : World} {sa : Option Addr} {sc : Nat} {S : List Int} {la : Option Addr} {lc : Nat} {L : List Int} {w w' : World} (h : AtG p zs T w0 sa sc S la lc L w) (hk : Kept (fun b => b = p) w w') (hs : ∃ t, 0 ≤ t ∧ t ≤ T' ∧ Src w' p zs t) : AtG p zs T' w0 sa sc S la lc L w' := by
  have ho := h.old
  exact ⟨hs, h.var.kept hk (by omega), h.res.kept hk (by omega), (h.own.kept hk (fun b h1 h2 => by omega)).grow hk.size, h.us, h.ul, h.kept.trans hk, Nat.le_trans h.size hk.size, ho⟩
theorem AtG.below {p : Nat} {zs : List Int} {T : Int} {w0 : World} {sa : Option Addr} {sc : Nat} {S : List Int} {la : Option Addr} {lc : Nat} {L : List Int} {w w' : World} (h : AtG p zs T w0 sa sc S la lc L w) (hb : Below w.heap.size w w') : AtG p zs T w0 sa sc S la lc L w' := by
  obtain ⟨t, t0, t1, s⟩ := h.src
  exact h.keep ((Kept.of_below hb).mono (fun _ _ h => h)) ⟨t, t0, t1, s.below hb⟩
theorem AtG.turn {p : Nat} {zs : List Int} {T : Int} {w0 : World} {sa sb : Option Addr} {sc sd : Nat} {S S' : List Int} {la lb : Option Addr} {lc ld : Nat} {L L' : List Int} {w : World} (h : AtG p zs T w0 sa sc S la lc L w) (hg : GL (w0.heap.size + 2) w.heap.size w sb sd S'.length S' lb ld L'.length L') (us : U8 S') (ul : U8 L') :
    AtG p zs T w0 sb sd S' lb ld L' ((w.setCell ⟨w0.heap.size + 1, 0, none⟩ (.slice sb S'.length sd)).setCell ⟨w0.heap.size + 1, 1, none⟩ (.slice lb L'.length ld)) := by
  have hk := Kept.two w (w0.heap.size + 1) 0 1 (.slice sb S'.length sd) (.slice lb L'.length ld)
  have hs := h.size
  have ho := h.old
  obtain ⟨t, t0, t1, s⟩ := h.src
  refine ⟨⟨t, t0, t1, s.kept hk (fun b hb e => by omega)⟩, h.var.set2 _ _, h.res.kept hk (by omega), ?_, us, ul, h.kept.trans_own hk (fun b hb e => by omega), by simpa using hs, ho⟩
  exact (hg.kept hk (fun b h1 h2 e => by omega)).grow (by simp)
theorem fieldLog (a b c d : Value) (u : World) : Sem.run Try.prog (Instr.field 29 (.agg #[a, b, c, d]) 2) u = .ok (.agg #[c, d]) u := by kernel_rfl
theorem box4_k {P : Nat → Prop} {w w' : World} {b : Nat} {u0 u1 u2 u3 : Value} (h : Box4r w b u0 u1 u2 u3) (hk : Kept P w w') (hn : ¬ P b) : Box4r w' b u0 u1 u2 u3 := by
  obtain ⟨⟨h0, h1, h2, h3⟩, hf⟩ := h
  have hb : b < w.heap.size := World.block_lt_of_cell? w ⟨b, 0, none⟩ h0
  exact ⟨⟨(hk.cell (p := ⟨b, 0, none⟩) hb hn).trans h0, (hk.cell (p := ⟨b, 1, none⟩) hb hn).trans h1, (hk.cell (p := ⟨b, 2, none⟩) hb hn).trans h2, (hk.cell (p := ⟨b, 3, none⟩) hb hn).trans h3⟩, fun i => (hk.frozen (p := ⟨b, i, none⟩) hb hn).trans (hf i)⟩
theorem Box4r.set4 {w : World} {b : Nat} {u0 u1 u2 u3 : Value} (h : Box4r w b u0 u1 u2 u3) (v0 v1 v2 v3 : Value) : Box4r ((((w.setCell ⟨b, 0, none⟩ v0).setCell ⟨b, 1, none⟩ v1).setCell ⟨b, 2, none⟩ v2).setCell ⟨b, 3, none⟩ v3) b v0 v1 v2 v3 := by
  obtain ⟨⟨h0, h1, h2, h3⟩, hf⟩ := h
  refine ⟨⟨?_, ?_, ?_, ?_⟩, fun i => by simp [hf i]⟩
  · rw [cell_set_other (by simp), cell_set_other (by simp), cell_set_other (by simp)]; exact cell_set_same h0
  · rw [cell_set_other (by simp), cell_set_other (by simp)]; exact cell_set_same ((cell_set_other (by simp)).trans h1)
  · rw [cell_set_other (by simp)]; exact cell_set_same ((cell_set_other (by simp)).trans ((cell_set_other (by simp)).trans h2))
  · exact cell_set_same ((cell_set_other (by simp)).trans ((cell_set_other (by simp)).trans ((cell_set_other (by simp)).trans h3)))
theorem AtG.far {p : Nat} {zs : List Int} {T T' : Int} {w0 : World} {sa : Option Addr} {sc : Nat} {S : List Int} {la : Option Addr} {lc : Nat} {L : List Int} {w w' : World} (h : AtG p zs T w0 sa sc S la lc L w) (hk : Kept (fun b => b = p ∨ w.heap.size ≤ b) w w') (hs : ∃ t, 0 ≤ t ∧ t ≤ T' ∧ Src w' p zs t) : AtG p zs T' w0 sa sc S la lc L w' := by
  have ho := h.old
  have hz := h.size
  exact ⟨hs, h.var.kept hk (by omega), h.res.kept hk (by omega), (h.own.kept hk (fun b h1 h2 => by omega)).grow hk.size, h.us, h.ul, ((h.kept.mono (T := fun b => b = p ∨ w.heap.size ≤ b) (fun _ _ h => .inl h)).trans hk).mono (fun k hk' e => by omega), Nat.le_trans h.size hk.size, ho⟩
set_option maxRecDepth 100000 in
set_option maxHeartbeats 3200000 in
theorem l14Log_any (p : Nat) (zs : List Int) (t : Int) (w : World) (h : Src w p zs t) (hu : U8 zs) (ht0 : 0 ≤ t) (ht1 : t ≤ 1000) (hl : zs.length ≤ 1048576) :
    Calls Try.prog 41 #[.pointer (some ⟨p, 0, none⟩)] w fun e w' => ∃ sa sc S la lc L, e = .returned (.agg #[.slice sa S.length sc, .slice la L.length lc]) ∧ GB w.heap.size w'.heap.size w' (.slice sa S.length sc) S ∧ GB w.heap.size w'.heap.size w' (.slice la L.length lc) L ∧ U8 S ∧ U8 L ∧ S.length ≤ 2001 ∧ L.length ≤ 2001 ∧ (∃ t', 0 ≤ t' ∧ t' ≤ 1100 ∧ Src w' p zs t') ∧ Kept (fun b => b = p) w w' := by
  obtain ⟨i1, ki, kz0, kz1, kz2⟩ := info_parts Try.infoU8
  have hp := h.lt
  have HU := hide hu
  have B0 := hide (below_next (below_alloc w (.cells #[.slice none 0 0, .slice none 0 0] 25)) (below_alloc _ (.cells #[.slice none 0 0, .slice none 0 0] 25)))
  have X0 := hide ((Box.new w (.slice none 0 0) (.slice none 0 0) 25).below (below_alloc _ (.cells #[.slice none 0 0, .slice none 0 0] 25)))
  have X1 := hide (Box.new (w.alloc (.cells #[.slice none 0 0, .slice none 0 0] 25)) (.slice none 0 0) (.slice none 0 0) 25)
  rw [show (w.alloc (.cells #[.slice none 0 0, .slice none 0 0] 25)).heap.size = w.heap.size + 1 by simp] at X1
  have HS := hide (h.below B0.out)
  have HZ0 := hide (show ((w.alloc (.cells #[.slice none 0 0, .slice none 0 0] 25)).alloc (.cells #[.slice none 0 0, .slice none 0 0] 25)).heap.size = w.heap.size + 2 by simp)
  clear h hu
  go_enter Try.func41, Try.ntmps41
  go_wp2_with fail
  generalize (w.alloc (.cells #[.slice none 0 0, .slice none 0 0] 25)).alloc (.cells #[.slice none 0 0, .slice none 0 0] 25) = W0 at *
  refine (l1Next_any p zs t 7 _ HS.out HU.out ht0 (by omega) (by decide) (by decide) hl).mono ?_
  rintro e w1 ⟨r, rfl, r0, r1, s1, k1⟩
  obtain ⟨m0, rfl⟩ : ∃ k : Nat, r = k := ⟨r.toNat, by omega⟩
  have A1 : Hid (AtG p zs (t + 1) w none 0 [] none 0 [] w1) := hide ⟨⟨t + 1, by omega, by omega, s1⟩, X1.out.kept k1 (by omega), X0.out.kept k1 (by omega), ⟨w.heap.size + 2, Nat.le_refl _, by have := k1.size; have := HZ0.out; omega, GB.void _ _ _, GB.void _ _ _⟩, fun z hz => by simp at hz, fun z hz => by simp at hz, ((Kept.of_below B0.out).mono (fun _ _ h => h)).trans k1, by have := k1.size; have := HZ0.out; omega, hp⟩
  clear s1 k1 HS X0 X1 B0
  go_wp2_with fail
  go_loopw [4] (fun k wr => ∃ (m : Nat) (sa : Option Addr) (sc : Nat) (S : List Int) (la : Option Addr) (lc : Nat) (L : List Int), k = .int .i64 m ∧ m ≤ 6 ∧ S.length + L.length ≤ 2000 ∧ Hid (AtG p zs (t + 20 - 2 * m) w sa sc S la lc L wr)) (fun k _ => (intOf k).toNat)
  case atStart => exact ⟨m0, none, 0, [], none, 0, [], rfl, by omega, by simp, hide (A1.out.keep (Kept.refl _ _) (by obtain ⟨t', h0, h1, h2⟩ := A1.out.src; exact ⟨t', h0, by omega, h2⟩))⟩
  case round =>
    obtain ⟨m, sa, sc, S, la, lc, L, rfl, hm6, hsl, HA⟩ := hrel
    by_cases hm : 0 < m
    · have hm' : (0 : Int) < (m : Int) := by omega
      obtain ⟨⟨v0, v1⟩, -, -⟩ := HA.out.var
      go_upto_region 5 with fail
      clear v0 v1
      have KB : Hid (∀ u : World, Kept (fun b => b = p) wr u → u.cell? ⟨w.heap.size + 1, 0, none⟩ = some (.slice sa S.length sc) ∧ u.cell? ⟨w.heap.size + 1, 1, none⟩ = some (.slice la L.length lc)) := hide (fun u hk => (HA.out.var.kept hk (by omega)).1)
      go_cut [5] from 13 to 16 (fun v5 wc => ∃ (rb : Nat) (q k : Int) (sb : Option Addr) (sd : Nat) (S' : List Int) (lb : Option Addr) (ld : Nat) (L' : List Int), v5 = .pointer (some ⟨rb, 0, none⟩) ∧ Hid (Box4r wc rb (.int .i64 q) (.int .i64 k) (.slice sb S'.length sd) (.slice lb L'.length ld)) ∧ Hid (GL wr.heap.size wc.heap.size wc sb sd S'.length S' lb ld L'.length L') ∧ Hid (U8 S' ∧ U8 L') ∧ S'.length + L'.length ≤ 2000 ∧ Hid (AtG p zs (t + 20 - 2 * m + 1) w sa sc S la lc L wc) ∧ wr.heap.size ≤ wc.heap.size)
      case first =>
        refine wp_region_held_drew (S := fun u => u.cell? ⟨w.heap.size + 1, 0, none⟩ = some (.slice sa S.length sc) ∧ u.cell? ⟨w.heap.size + 1, 1, none⟩ = some (.slice la L.length lc)) (by kernel_rfl) (KB.out _ (Kept.refl _ _).drew) (fun hHeld => ?_)
        change wpAnyH _ _ _ _ _ _ (Array.replicate _ false) _ (World.drew _)
        have KR := hide ((Kept.refl (fun b => b = p) wr).drew)
        have AG := hide (HA.out.below (below_dn wr 1))
        have hsD : wr.heap.size ≤ wr.drew.heap.size := Nat.le_refl _
        change Hid (AtG p zs (t + 20 - 2 * m) w sa sc S la lc L wr.drew) at AG
        generalize wr.drew = D at *
        refine tkd 0 13 (.agg #[.slice sa S.length sc, .slice la L.length lc]) hHeld rfl (by kernel_rfl) (by kernel_rfl) (by kernel_rfl) (fun _ _ _ h => h) (Or.inl ⟨by rfl, ?_⟩) ?_
        · rintro w ⟨q0, q1⟩
          go_simp
        try simp only [Act.put, List.setIfInBounds_toArray, List.set_cons_zero, List.set_cons_succ]
        refine tkd 1 14 (.pointer (some ⟨p, 0, none⟩)) hHeld rfl (by kernel_rfl) (by kernel_rfl) (by kernel_rfl) (fun _ _ _ h => h) (Or.inl ⟨by rfl, ?_⟩) ?_
        · rintro w ⟨q0, q1⟩
          go_simp
        try simp only [Act.put, List.setIfInBounds_toArray, List.set_cons_zero, List.set_cons_succ]
        refine wpAnyH_ready (rs := [2, 4]) (by kernel_rfl) (by simp) ?_
        refine AllReadyH.cons rfl (fun K hK => ?_) (AllReadyH.cons rfl (fun K hK => ?_) AllReadyH.nil)
        · obtain ⟨t2, t20, t21, hs2⟩ := AG.out.src
          go_simp
          refine (l14Line_any p zs t2 D hs2 HU.out t20 (by omega) hl).mono ?_
          rintro e v1 ⟨x, rfl, hx, s3, k3⟩
          have KRn := hide (KR.out.trans k3)
          have AGn := hide (AG.out.keep (T' := t + 20 - 2 * m + 1) k3 ⟨t2 + 1, by omega, by omega, s3⟩)
          have hsv1 : D.heap.size ≤ v1.heap.size := k3.size
          clear s3 k3 hs2
          go_wp2_with fail
          refine hK.out _ _ (KB.out _ KRn.out) (fun hHeld => ?_)
          clear hK K KR AG
          have KR := KRn
          clear KRn
          have AG := AGn
          clear AGn
          try simp only [Act.put, List.setIfInBounds_toArray, List.set_cons_zero, List.set_cons_succ]
          refine wpAnyH_ready (rs := [3, 4]) (by kernel_rfl) (by simp) ?_
          refine AllReadyH.cons rfl (fun K hK => ?_) (AllReadyH.cons rfl (fun K hK => ?_) AllReadyH.nil)
          · go_simp
            refine (specAppendLog_some sa la sc lc S L (str x) v1 (AG.out.rd (by omega) (by omega)) (by rw [str_size]; omega)).mono ?_
            rintro e v2 ⟨q, k, S', L', hres, us', ul', hsl'⟩
            obtain ⟨sb, sd, lb, ld, rfl, hgl, hbv2⟩ := hres.gl
            have KRn := hide (KR.out.trans (Kept.of_below hbv2))
            have AGn := hide (AG.out.below hbv2)
            have GRn := hide hgl
            have UUn := hide (And.intro us' ul')
            have hsv2 : v1.heap.size ≤ v2.heap.size := hbv2.size
            clear hres hgl hbv2 us' ul'
            go_wp2_with fail
            refine hK.out _ _ (KB.out _ KRn.out) (fun hHeld => ?_)
            clear hK K KR AG
            have KR := KRn
            clear KRn
            have AG := AGn
            clear AGn
            have GR := GRn
            clear GRn
            have UU := UUn
            clear UUn
            try simp only [Act.put, List.setIfInBounds_toArray, List.set_cons_zero, List.set_cons_succ]
            refine wpAnyH_ready (rs := [4]) (by kernel_rfl) (by simp) ?_
            refine AllReadyH.cons rfl (fun K hK => ?_) AllReadyH.nil
            have KRn := hide (KR.out.trans ((Kept.of_below (S := fun b => b = p) (below_alloc v2 (.cells #[.int .i64 0, .int .i64 0, .slice none 0 0, .slice none 0 0] 29)))))
            have XAn := hide (Box4r.new v2 (.int .i64 0) (.int .i64 0) (.slice none 0 0) (.slice none 0 0) 29)
            have hsv3 : v2.heap.size < (v2.alloc (.cells #[.int .i64 0, .int .i64 0, .slice none 0 0, .slice none 0 0] 29)).heap.size := by simp
            have AGn := hide (AG.out.below (below_alloc v2 (.cells #[.int .i64 0, .int .i64 0, .slice none 0 0, .slice none 0 0] 29)))
            have GRn := hide (GR.out.below (below_alloc v2 (.cells #[.int .i64 0, .int .i64 0, .slice none 0 0, .slice none 0 0] 29)))
            go_simp
            refine hK.out _ _ (KB.out _ KRn.out) (fun hHeld => ?_)
            clear hK K KR AG GR
            have KR := KRn
            clear KRn
            have AG := AGn
            clear AGn
            have GR := GRn
            clear GRn
            have XA := XAn
            clear XAn
            try simp only [Act.put, List.setIfInBounds_toArray, List.set_cons_zero, List.set_cons_succ]
            generalize v2.alloc (.cells #[.int .i64 0, .int .i64 0, .slice none 0 0, .slice none 0 0] 29) = v3 at *
            refine wpAnyH_ready (rs := [5]) (by kernel_rfl) (by simp) ?_
            refine AllReadyH.cons rfl (fun K hK => ?_) AllReadyH.nil
            have KT := hide (Kept.four4 v3 (v2.heap.size) (.int .i64 q) (.int .i64 k) (.slice sb S'.length sd) (.slice lb L'.length ld))
            have hsw := HA.out.size
            have hold := HA.out.old
            have XZ := hide (XA.out.set4 (.int .i64 q) (.int .i64 k) (.slice sb S'.length sd) (.slice lb L'.length ld))
            have GZ := hide ((GR.out.kept KT.out (fun x h1 h2 e => by omega)).grow (T' := ((((v3.setCell ⟨v2.heap.size, 0, none⟩ (.int .i64 q)).setCell ⟨v2.heap.size, 1, none⟩ (.int .i64 k)).setCell ⟨v2.heap.size, 2, none⟩ (.slice sb S'.length sd)).setCell ⟨v2.heap.size, 3, none⟩ (.slice lb L'.length ld)).heap.size) (by first | (simp; done) | (simp; omega)))
            have KX := hide ((KR.out.mono (T := fun b => b = p ∨ wr.heap.size ≤ b) (fun _ _ h => Or.inl h)).trans (KT.out.mono (fun x _ e => Or.inr (by omega))))
            have AZ : Hid (AtG p zs (t + 20 - 2 * m + 1) w sa sc S la lc L ((((v3.setCell ⟨v2.heap.size, 0, none⟩ (.int .i64 q)).setCell ⟨v2.heap.size, 1, none⟩ (.int .i64 k)).setCell ⟨v2.heap.size, 2, none⟩ (.slice sb S'.length sd)).setCell ⟨v2.heap.size, 3, none⟩ (.slice lb L'.length ld))) := hide (HA.out.far KX.out (by obtain ⟨t5, h0, h1, h2⟩ := AG.out.src; exact ⟨t5, h0, by omega, h2.kept KT.out (fun b hb e => by omega)⟩))
            obtain ⟨⟨z0, z1, z2, z3⟩, zf⟩ := XA.out
            have zf0 := zf 0
            have zf1 := zf 1
            have zf2 := zf 2
            have zf3 := zf 3
            clear zf
            go_simp
            refine hK.out _ _ (AZ.out.var.1) (fun hHeld => ?_)
            clear hK K
            try simp only [Act.put, List.setIfInBounds_toArray, List.set_cons_zero, List.set_cons_succ]
            refine wpAnyH_done (by kernel_rfl) ?_ _
            go_wp2_with fail
            go_meet
            case rel => exact ⟨v2.heap.size, q, k, sb, sd, S', lb, ld, L', rfl, XZ, hide (GZ.out.low (by omega)), UU, by omega, AZ, by first | (simp; done) | (simp; omega)⟩
          · have KRn := hide (KR.out.trans ((Kept.of_below (S := fun b => b = p) (below_alloc v1 (.cells #[.int .i64 0, .int .i64 0, .slice none 0 0, .slice none 0 0] 29)))))
            have XAn := hide (Box4r.new v1 (.int .i64 0) (.int .i64 0) (.slice none 0 0) (.slice none 0 0) 29)
            have hsv4 : v1.heap.size < (v1.alloc (.cells #[.int .i64 0, .int .i64 0, .slice none 0 0, .slice none 0 0] 29)).heap.size := by simp
            have AGn := hide (AG.out.below (below_alloc v1 (.cells #[.int .i64 0, .int .i64 0, .slice none 0 0, .slice none 0 0] 29)))
            go_simp
            refine hK.out _ _ (KB.out _ KRn.out) (fun hHeld => ?_)
            clear hK K KR AG
            have KR := KRn
            clear KRn
            have AG := AGn
            clear AGn
            have XA := XAn
            clear XAn
            try simp only [Act.put, List.setIfInBounds_toArray, List.set_cons_zero, List.set_cons_succ]
            generalize v1.alloc (.cells #[.int .i64 0, .int .i64 0, .slice none 0 0, .slice none 0 0] 29) = v4 at *
            refine wpAnyH_ready (rs := [3]) (by kernel_rfl) (by simp) ?_
            refine AllReadyH.cons rfl (fun K hK => ?_) AllReadyH.nil
            go_simp
            refine (specAppendLog_some sa la sc lc S L (str x) v4 (AG.out.rd (by omega) (by omega)) (by rw [str_size]; omega)).mono ?_
            rintro e v5 ⟨q, k, S', L', hres, us', ul', hsl'⟩
            obtain ⟨sb, sd, lb, ld, rfl, hgl, hbv5⟩ := hres.gl
            have KRn := hide (KR.out.trans (Kept.of_below hbv5))
            have AGn := hide (AG.out.below hbv5)
            have GRn := hide hgl
            have UUn := hide (And.intro us' ul')
            have hsv5 : v4.heap.size ≤ v5.heap.size := hbv5.size
            have XAn := hide (XA.out.below hbv5)
            clear hres hgl hbv5 us' ul'
            go_wp2_with fail
            refine hK.out _ _ (KB.out _ KRn.out) (fun hHeld => ?_)
            clear hK K KR AG XA
            have KR := KRn
            clear KRn
            have AG := AGn
            clear AGn
            have XA := XAn
            clear XAn
            have GR := GRn
            clear GRn
            have UU := UUn
            clear UUn
            try simp only [Act.put, List.setIfInBounds_toArray, List.set_cons_zero, List.set_cons_succ]
            refine wpAnyH_ready (rs := [5]) (by kernel_rfl) (by simp) ?_
            refine AllReadyH.cons rfl (fun K hK => ?_) AllReadyH.nil
            have KT := hide (Kept.four4 v5 (v1.heap.size) (.int .i64 q) (.int .i64 k) (.slice sb S'.length sd) (.slice lb L'.length ld))
            have hsw := HA.out.size
            have hold := HA.out.old
            have XZ := hide (XA.out.set4 (.int .i64 q) (.int .i64 k) (.slice sb S'.length sd) (.slice lb L'.length ld))
            have GZ := hide ((GR.out.kept KT.out (fun x h1 h2 e => by omega)).grow (T' := ((((v5.setCell ⟨v1.heap.size, 0, none⟩ (.int .i64 q)).setCell ⟨v1.heap.size, 1, none⟩ (.int .i64 k)).setCell ⟨v1.heap.size, 2, none⟩ (.slice sb S'.length sd)).setCell ⟨v1.heap.size, 3, none⟩ (.slice lb L'.length ld)).heap.size) (by first | (simp; done) | (simp; omega)))
            have KX := hide ((KR.out.mono (T := fun b => b = p ∨ wr.heap.size ≤ b) (fun _ _ h => Or.inl h)).trans (KT.out.mono (fun x _ e => Or.inr (by omega))))
            have AZ : Hid (AtG p zs (t + 20 - 2 * m + 1) w sa sc S la lc L ((((v5.setCell ⟨v1.heap.size, 0, none⟩ (.int .i64 q)).setCell ⟨v1.heap.size, 1, none⟩ (.int .i64 k)).setCell ⟨v1.heap.size, 2, none⟩ (.slice sb S'.length sd)).setCell ⟨v1.heap.size, 3, none⟩ (.slice lb L'.length ld))) := hide (HA.out.far KX.out (by obtain ⟨t5, h0, h1, h2⟩ := AG.out.src; exact ⟨t5, h0, by omega, h2.kept KT.out (fun b hb e => by omega)⟩))
            obtain ⟨⟨z0, z1, z2, z3⟩, zf⟩ := XA.out
            have zf0 := zf 0
            have zf1 := zf 1
            have zf2 := zf 2
            have zf3 := zf 3
            clear zf
            go_simp
            refine hK.out _ _ (AZ.out.var.1) (fun hHeld => ?_)
            clear hK K
            try simp only [Act.put, List.setIfInBounds_toArray, List.set_cons_zero, List.set_cons_succ]
            refine wpAnyH_done (by kernel_rfl) ?_ _
            go_wp2_with fail
            go_meet
            case rel => exact ⟨v1.heap.size, q, k, sb, sd, S', lb, ld, L', rfl, XZ, hide (GZ.out.low (by omega)), UU, by omega, AZ, by first | (simp; done) | (simp; omega)⟩
        · have KRn := hide (KR.out.trans ((Kept.of_below (S := fun b => b = p) (below_alloc D (.cells #[.int .i64 0, .int .i64 0, .slice none 0 0, .slice none 0 0] 29)))))
          have XAn := hide (Box4r.new D (.int .i64 0) (.int .i64 0) (.slice none 0 0) (.slice none 0 0) 29)
          have hsv6 : D.heap.size < (D.alloc (.cells #[.int .i64 0, .int .i64 0, .slice none 0 0, .slice none 0 0] 29)).heap.size := by simp
          have AGn := hide (AG.out.below (below_alloc D (.cells #[.int .i64 0, .int .i64 0, .slice none 0 0, .slice none 0 0] 29)))
          go_simp
          refine hK.out _ _ (KB.out _ KRn.out) (fun hHeld => ?_)
          clear hK K KR AG
          have KR := KRn
          clear KRn
          have AG := AGn
          clear AGn
          have XA := XAn
          clear XAn
          try simp only [Act.put, List.setIfInBounds_toArray, List.set_cons_zero, List.set_cons_succ]
          generalize D.alloc (.cells #[.int .i64 0, .int .i64 0, .slice none 0 0, .slice none 0 0] 29) = v6 at *
          refine wpAnyH_ready (rs := [2]) (by kernel_rfl) (by simp) ?_
          refine AllReadyH.cons rfl (fun K hK => ?_) AllReadyH.nil
          obtain ⟨t2, t20, t21, hs2⟩ := AG.out.src
          go_simp
          refine (l14Line_any p zs t2 v6 hs2 HU.out t20 (by omega) hl).mono ?_
          rintro e v7 ⟨x, rfl, hx, s3, k3⟩
          have KRn := hide (KR.out.trans k3)
          have AGn := hide (AG.out.keep (T' := t + 20 - 2 * m + 1) k3 ⟨t2 + 1, by omega, by omega, s3⟩)
          have hsv7 : v6.heap.size ≤ v7.heap.size := k3.size
          have XAn := hide (box4_k XA.out k3 (by have := HA.out.size; have := HA.out.old; omega))
          clear s3 k3 hs2
          go_wp2_with fail
          refine hK.out _ _ (KB.out _ KRn.out) (fun hHeld => ?_)
          clear hK K KR AG XA
          have KR := KRn
          clear KRn
          have AG := AGn
          clear AGn
          have XA := XAn
          clear XAn
          try simp only [Act.put, List.setIfInBounds_toArray, List.set_cons_zero, List.set_cons_succ]
          refine wpAnyH_ready (rs := [3]) (by kernel_rfl) (by simp) ?_
          refine AllReadyH.cons rfl (fun K hK => ?_) AllReadyH.nil
          go_simp
          refine (specAppendLog_some sa la sc lc S L (str x) v7 (AG.out.rd (by omega) (by omega)) (by rw [str_size]; omega)).mono ?_
          rintro e v8 ⟨q, k, S', L', hres, us', ul', hsl'⟩
          obtain ⟨sb, sd, lb, ld, rfl, hgl, hbv8⟩ := hres.gl
          have KRn := hide (KR.out.trans (Kept.of_below hbv8))
          have AGn := hide (AG.out.below hbv8)
          have GRn := hide hgl
          have UUn := hide (And.intro us' ul')
          have hsv8 : v7.heap.size ≤ v8.heap.size := hbv8.size
          have XAn := hide (XA.out.below hbv8)
          clear hres hgl hbv8 us' ul'
          go_wp2_with fail
          refine hK.out _ _ (KB.out _ KRn.out) (fun hHeld => ?_)
          clear hK K KR AG XA
          have KR := KRn
          clear KRn
          have AG := AGn
          clear AGn
          have XA := XAn
          clear XAn
          have GR := GRn
          clear GRn
          have UU := UUn
          clear UUn
          try simp only [Act.put, List.setIfInBounds_toArray, List.set_cons_zero, List.set_cons_succ]
          refine wpAnyH_ready (rs := [5]) (by kernel_rfl) (by simp) ?_
          refine AllReadyH.cons rfl (fun K hK => ?_) AllReadyH.nil
          have KT := hide (Kept.four4 v8 (D.heap.size) (.int .i64 q) (.int .i64 k) (.slice sb S'.length sd) (.slice lb L'.length ld))
          have hsw := HA.out.size
          have hold := HA.out.old
          have XZ := hide (XA.out.set4 (.int .i64 q) (.int .i64 k) (.slice sb S'.length sd) (.slice lb L'.length ld))
          have GZ := hide ((GR.out.kept KT.out (fun x h1 h2 e => by omega)).grow (T' := ((((v8.setCell ⟨D.heap.size, 0, none⟩ (.int .i64 q)).setCell ⟨D.heap.size, 1, none⟩ (.int .i64 k)).setCell ⟨D.heap.size, 2, none⟩ (.slice sb S'.length sd)).setCell ⟨D.heap.size, 3, none⟩ (.slice lb L'.length ld)).heap.size) (by first | (simp; done) | (simp; omega)))
          have KX := hide ((KR.out.mono (T := fun b => b = p ∨ wr.heap.size ≤ b) (fun _ _ h => Or.inl h)).trans (KT.out.mono (fun x _ e => Or.inr (by omega))))
          have AZ : Hid (AtG p zs (t + 20 - 2 * m + 1) w sa sc S la lc L ((((v8.setCell ⟨D.heap.size, 0, none⟩ (.int .i64 q)).setCell ⟨D.heap.size, 1, none⟩ (.int .i64 k)).setCell ⟨D.heap.size, 2, none⟩ (.slice sb S'.length sd)).setCell ⟨D.heap.size, 3, none⟩ (.slice lb L'.length ld))) := hide (HA.out.far KX.out (by obtain ⟨t5, h0, h1, h2⟩ := AG.out.src; exact ⟨t5, h0, by omega, h2.kept KT.out (fun b hb e => by omega)⟩))
          obtain ⟨⟨z0, z1, z2, z3⟩, zf⟩ := XA.out
          have zf0 := zf 0
          have zf1 := zf 1
          have zf2 := zf 2
          have zf3 := zf 3
          clear zf
          go_simp
          refine hK.out _ _ (AZ.out.var.1) (fun hHeld => ?_)
          clear hK K
          try simp only [Act.put, List.setIfInBounds_toArray, List.set_cons_zero, List.set_cons_succ]
          refine wpAnyH_done (by kernel_rfl) ?_ _
          go_wp2_with fail
          go_meet
          case rel => exact ⟨D.heap.size, q, k, sb, sd, S', lb, ld, L', rfl, XZ, hide (GZ.out.low (by omega)), UU, by omega, AZ, by first | (simp; done) | (simp; omega)⟩
      case rest =>
        obtain ⟨rb, q, k, sb, sd, S', lb, ld, L', rfl, XR, GR, UU, hsl', AG, hsz⟩ := hcut
        obtain ⟨WF, hWF⟩ : ∃ x, x = wc := ⟨_, rfl⟩
        subst hWF
        obtain ⟨m', hm2⟩ : ∃ m', m = m' + 1 := ⟨m - 1, by omega⟩
        have hwz := AG.out.size
        have hHz := HA.out.size
        obtain ⟨⟨x0, x1, x2, x3⟩, -⟩ := XR.out
        obtain ⟨⟨v0, v1⟩, v2, v3⟩ := AG.out.var
        by_cases hq : q = 0
        · subst hq
          have AT := hide (AG.out.turn (GR.out.low (B' := w.heap.size + 2) (by omega)) UU.out.1 UU.out.2)
          clear HA KB GR UU
          go_wp2_with fail
          clear x0 x1 x2 x3 v0 v1 v2 v3 XR AG
          generalize (WF.setCell ⟨w.heap.size + 1, 0, none⟩ (.slice sb S'.length sd)).setCell ⟨w.heap.size + 1, 1, none⟩ (.slice lb L'.length ld) = V at *
          obtain ⟨t6, h60, h61, hs6⟩ := AT.out.src
          refine (l1Chance_p p zs t6 3 _ hs6 HU.out h60 (by omega) (by decide) (by decide) hl).mono ?_
          rintro e w6 ⟨bb, rfl, s6, k6⟩
          have A6 := hide (AT.out.keep (T' := t + 20 - 2 * m') k6 ⟨t6 + 1, by omega, by omega, s6⟩)
          clear s6 k6 hs6 AT
          cases bb
          · go_wp2_with fail
            go_roundw
            case rel => exact ⟨m', sb, sd, S', lb, ld, L', by congr 1 <;> omega, by omega, by omega, A6⟩
            case measure => simp [intOf]; omega
          · obtain ⟨⟨v0, v1⟩, v2, v3⟩ := A6.out.var
            go_wp2_with fail
            refine (specSyncLog_some sb lb sd ld S' L' w6 (A6.out.rd (by omega) (by omega))).mono ?_
            rintro e w7 ⟨q7, k7, S7, L7, hres, us7, ul7, hsl7⟩
            obtain ⟨sb7, sd7, lb7, ld7, rfl, hgl7, hb7⟩ := hres.gl
            have hz6 := A6.out.size
            have A7 := hide (A6.out.below hb7)
            have A8 := hide (A7.out.turn (hgl7.low (B' := w.heap.size + 2) (by omega)) us7 ul7)
            clear hres hgl7 hb7 us7 ul7 A6 v0 v1 v2 v3
            obtain ⟨⟨v0, v1⟩, v2, v3⟩ := A7.out.var
            clear A7
            have hfl := fieldLog (.int .i64 q7) (.int .i64 k7) (.slice sb7 S7.length sd7) (.slice lb7 L7.length ld7) w7
            go_wp2_with fail
            go_roundw
            case rel => exact ⟨m', sb7, sd7, S7, lb7, ld7, L7, by congr 1 <;> omega, by omega, by omega, A8⟩
            case measure => simp [intOf]; omega
        · have hq0 : (q == 0) = false := beq_eq_false_iff_ne.2 hq
          have AT := hide AG.out
          clear HA KB GR UU
          go_wp2_with fail
          clear x0 x1 x2 x3 v0 v1 v2 v3 XR AG
          obtain ⟨t6, h60, h61, hs6⟩ := AT.out.src
          refine (l1Chance_p p zs t6 3 _ hs6 HU.out h60 (by omega) (by decide) (by decide) hl).mono ?_
          rintro e w6 ⟨bb, rfl, s6, k6⟩
          have A6 := hide (AT.out.keep (T' := t + 20 - 2 * m') k6 ⟨t6 + 1, by omega, by omega, s6⟩)
          clear s6 k6 hs6 AT
          cases bb
          · go_wp2_with fail
            go_roundw
            case rel => exact ⟨m', sa, sc, S, la, lc, L, by congr 1 <;> omega, by omega, by omega, A6⟩
            case measure => simp [intOf]; omega
          · obtain ⟨⟨v0, v1⟩, v2, v3⟩ := A6.out.var
            go_wp2_with fail
            refine (specSyncLog_some sa la sc lc S L w6 (A6.out.rd (by omega) (by omega))).mono ?_
            rintro e w7 ⟨q7, k7, S7, L7, hres, us7, ul7, hsl7⟩
            obtain ⟨sb7, sd7, lb7, ld7, rfl, hgl7, hb7⟩ := hres.gl
            have hz6 := A6.out.size
            have A7 := hide (A6.out.below hb7)
            have A8 := hide (A7.out.turn (hgl7.low (B' := w.heap.size + 2) (by omega)) us7 ul7)
            clear hres hgl7 hb7 us7 ul7 A6 v0 v1 v2 v3
            obtain ⟨⟨v0, v1⟩, v2, v3⟩ := A7.out.var
            clear A7
            have hfl := fieldLog (.int .i64 q7) (.int .i64 k7) (.slice sb7 S7.length sd7) (.slice lb7 L7.length ld7) w7
            go_wp2_with fail
            go_roundw
            case rel => exact ⟨m', sb7, sd7, S7, lb7, ld7, L7, by congr 1 <;> omega, by omega, by omega, A8⟩
            case measure => simp [intOf]; omega
    · obtain rfl : m = 0 := by omega
      obtain ⟨t6, h60, h61, hs6⟩ := HA.out.src
      go_wp2_with fail
      refine (l1Next_any p zs t6 18 _ hs6 HU.out h60 (by omega) (by decide) (by decide) hl).mono ?_
      rintro e w6 ⟨r6, rfl, r60, r61, s6, k6⟩
      have A6 := hide (HA.out.keep (T' := t + 21) k6 ⟨t6 + 1, by omega, by simp at h61; omega, s6⟩)
      clear s6 k6 hs6 HA
      have hwz := A6.out.size
      have hold := A6.out.old
      obtain ⟨M, hM1, hM2, g1, g2⟩ := A6.out.own
      have G1 := hide g1
      have G2 := hide g2
      clear g1 g2
      obtain ⟨⟨v0, v1⟩, v2, v3⟩ := A6.out.var
      obtain ⟨⟨y0, y1⟩, y2, y3⟩ := A6.out.res
      by_cases e0 : r6 = 0
      · subst e0
        have hm1 : L.length + 1 ≤ maxLen := by unfold maxLen; omega
        have hmm : (L.length + 1) * 1 ≤ 140737488355328 := by omega
        go_wp2_with (at_builtin; refine wpList_append_one rfl (.tmp 32) (.tmp 33) 22 rfl M 5 i1 (.int .u8 0) 1 1 Try.underlying22 ki kz0 kz1 kz2 rfl (by decide) (.slice la L.length lc) L.length _ rfl G2.out.1 rfl rfl (by intro u hu; simp at hu; subst hu; rfl) hm1 hmm (by omega) ?_; intro v8 w8 ho8 hk8; obtain ⟨av, cv, hv8⟩ := ownsRow_shape ho8; subst hv8; have O8 := hide ho8; have K8 := hide hk8; clear ho8 hk8; have hs8 := K8.out.size; have X8 := hide (A6.out.var.kept K8.out (fun e => by have := (World.ownsRow.lt G2.out.1 _ e).1; omega)); have Y8 := hide (A6.out.res.kept K8.out (fun e => by have := (World.ownsRow.lt G2.out.1 _ e).1; omega)); obtain ⟨⟨u0, u1⟩, u2, u3⟩ := X8.out; obtain ⟨⟨z0, z1⟩, z2, z3⟩ := Y8.out)
        have KX : Hid (Kept (fun b => b = w.heap.size ∨ b = w.heap.size + 1) w8 (((w8.setCell ⟨w.heap.size + 1, 1, none⟩ (.slice av (L.length + 1) cv)).setCell ⟨w.heap.size, 0, none⟩ (.slice sa S.length sc)).setCell ⟨w.heap.size, 1, none⟩ (.slice av (L.length + 1) cv))) := hide (Kept.setCell (p := ⟨w.heap.size, 1, none⟩) (Kept.setCell (p := ⟨w.heap.size, 0, none⟩) (Kept.setCell (p := ⟨w.heap.size + 1, 1, none⟩) (Kept.refl _ _) (fun _ => .inr rfl) _) (fun _ => .inl rfl) _) (fun _ => .inl rfl) _)
        have N8 : Hid (GB M w8.heap.size w8 (.slice av (L.length + 1) cv) (L ++ [9])) := hide ⟨by have := O8.out; rw [List.length_append]; simpa using this, fun b hb => (World.ownsRow.lt O8.out b hb).2⟩
        have T8 := hide (G1.out.kept K8.out (fun b h1 h2 e => by have := (World.ownsRow.lt G2.out.1 b e).1; have := G2.out.2 b e; omega))
        have N9 := hide (N8.out.kept KX.out (fun b h1 h2 e => by omega))
        have T9 := hide (T8.out.kept KX.out (fun b h1 h2 e => by omega))
        obtain ⟨t7, h70, h71, hs7⟩ := A6.out.src
        have S9 := hide ((hs7.kept K8.out (fun b hb e => by have := (World.ownsRow.lt G2.out.1 b e).1; omega)).kept KX.out (fun b hb e => by omega))
        have K9 := hide ((A6.out.kept.trans_own K8.out (fun b hb e => by have := (World.ownsRow.lt G2.out.1 b e).1; omega)).trans_own KX.out (fun b hb e => by omega))
        have hz9 := KX.out.size
        clear hs7
        refine bodyPost_ret (v := .agg #[.slice sa S.length sc, .slice av (L.length + 1) cv]) (by simp [results, Try.results41, go_sem, z0, z1]) rfl ⟨sa, sc, S, av, cv, (L ++ [9]), by simp, ?_, ?_, ?_, ?_, by first | omega | (simp; omega), by first | omega | (simp; omega), ⟨t7, h70, by omega, S9.out⟩, K9.out⟩
        · have := (T9.out.low (B' := w.heap.size) (by omega)); exact ⟨by simpa using this.1, fun b hb => by have := this.2 b (by simpa using hb); omega⟩
        · have := (N9.out.low (B' := w.heap.size) (by omega)); exact ⟨by simpa using this.1, fun b hb => by have := this.2 b (by simpa using hb); omega⟩
        · exact A6.out.us
        · exact u8_app A6.out.ul (fun z hz => by simp at hz; omega)
      by_cases e1 : r6 = 1
      · subst e1
        have hm1 : S.length + 1 ≤ maxLen := by unfold maxLen; omega
        have hmm : (S.length + 1) * 1 ≤ 140737488355328 := by omega
        go_wp2_with (at_builtin; refine wpList_append_one rfl (.tmp 39) (.tmp 40) 22 rfl (w.heap.size + 2) 5 i1 (.int .u8 0) 1 1 Try.underlying22 ki kz0 kz1 kz2 rfl (by decide) (.slice sa S.length sc) S.length _ rfl G1.out.1 rfl rfl (by intro u hu; simp at hu; subst hu; rfl) hm1 hmm (by omega) ?_; intro v8 w8 ho8 hk8; obtain ⟨av, cv, hv8⟩ := ownsRow_shape ho8; subst hv8; have O8 := hide ho8; have K8 := hide hk8; clear ho8 hk8; have hs8 := K8.out.size; have X8 := hide (A6.out.var.kept K8.out (fun e => by have := (World.ownsRow.lt G1.out.1 _ e).1; omega)); have Y8 := hide (A6.out.res.kept K8.out (fun e => by have := (World.ownsRow.lt G1.out.1 _ e).1; omega)); obtain ⟨⟨u0, u1⟩, u2, u3⟩ := X8.out; obtain ⟨⟨z0, z1⟩, z2, z3⟩ := Y8.out)
        have KX : Hid (Kept (fun b => b = w.heap.size ∨ b = w.heap.size + 1) w8 (((w8.setCell ⟨w.heap.size + 1, 0, none⟩ (.slice av (S.length + 1) cv)).setCell ⟨w.heap.size, 0, none⟩ (.slice av (S.length + 1) cv)).setCell ⟨w.heap.size, 1, none⟩ (.slice la L.length lc))) := hide (Kept.setCell (p := ⟨w.heap.size, 1, none⟩) (Kept.setCell (p := ⟨w.heap.size, 0, none⟩) (Kept.setCell (p := ⟨w.heap.size + 1, 0, none⟩) (Kept.refl _ _) (fun _ => .inr rfl) _) (fun _ => .inl rfl) _) (fun _ => .inl rfl) _)
        have N8 : Hid (GB (w.heap.size + 2) w8.heap.size w8 (.slice av (S.length + 1) cv) (S ++ [1])) := hide ⟨by have := O8.out; rw [List.length_append]; simpa using this, fun b hb => (World.ownsRow.lt O8.out b hb).2⟩
        have T8 := hide (G2.out.kept K8.out (fun b h1 h2 e => by have := (World.ownsRow.lt G1.out.1 b e).1; have := G1.out.2 b e; omega))
        have N9 := hide (N8.out.kept KX.out (fun b h1 h2 e => by omega))
        have T9 := hide (T8.out.kept KX.out (fun b h1 h2 e => by omega))
        obtain ⟨t7, h70, h71, hs7⟩ := A6.out.src
        have S9 := hide ((hs7.kept K8.out (fun b hb e => by have := (World.ownsRow.lt G1.out.1 b e).1; omega)).kept KX.out (fun b hb e => by omega))
        have K9 := hide ((A6.out.kept.trans_own K8.out (fun b hb e => by have := (World.ownsRow.lt G1.out.1 b e).1; omega)).trans_own KX.out (fun b hb e => by omega))
        have hz9 := KX.out.size
        clear hs7
        refine bodyPost_ret (v := .agg #[.slice av (S.length + 1) cv, .slice la L.length lc]) (by simp [results, Try.results41, go_sem, z0, z1]) rfl ⟨av, cv, (S ++ [1]), la, lc, L, by simp, ?_, ?_, ?_, ?_, by first | omega | (simp; omega), by first | omega | (simp; omega), ⟨t7, h70, by omega, S9.out⟩, K9.out⟩
        · have := (N9.out.low (B' := w.heap.size) (by omega)); exact ⟨by simpa using this.1, fun b hb => by have := this.2 b (by simpa using hb); omega⟩
        · have := (T9.out.low (B' := w.heap.size) (by omega)); exact ⟨by simpa using this.1, fun b hb => by have := this.2 b (by simpa using hb); omega⟩
        · exact u8_app A6.out.us (fun z hz => by simp at hz; omega)
        · exact A6.out.ul
      by_cases e2 : r6 = 2
      · subst e2
        have hmk : ∀ w : World, Sem.run Try.prog (Instr.makeSlice 22 (.int .i64 2001) (.int .i64 2001)) w = .ok (.slice (some ⟨w.heap.size, 0, none⟩) 2001 2001) (w.alloc (.cells (madeCells #[.int .u8 0] 2001) 5)) := run_make_row' (P := Try.prog) 22 5 (.int .u8 0) 1 Try.underlying22 Try.infoU8 rfl .i64 .i64 2001 (by omega) (by omega)
        have A7 := hide (below_alloc w6 (.cells (madeCells #[.int .u8 0] 2001) 5))
        have X8 := hide (A6.out.var.below A7.out)
        have Y8 := hide (A6.out.res.below A7.out)
        obtain ⟨⟨u0, u1⟩, u2, u3⟩ := X8.out
        obtain ⟨⟨z0, z1⟩, z2, z3⟩ := Y8.out
        obtain ⟨zr, hzr⟩ : ∃ z : List Int, z = List.replicate 2001 0 := ⟨_, rfl⟩
        have hzl : zr.length = 2001 := by rw [hzr, List.length_replicate]
        have N8 : Hid (GB w6.heap.size (w6.alloc (.cells (madeCells #[.int .u8 0] 2001) 5)).heap.size (w6.alloc (.cells (madeCells #[.int .u8 0] 2001) 5)) (.slice (some ⟨w6.heap.size, 0, none⟩) 2001 2001) zr) := hide (by
          have hrow := (World.rowIs_made w6 (.int .u8 0) 2001 5).congr (g := fun i => Value.int .u8 (zr.getD i 0)) (fun i hi => by rw [hzr, List.getD_eq_getElem?_getD, List.getElem?_replicate, if_pos hi]; rfl)
          have ho := ownsRow_of_row (zs := zr) (B := w6.heap.size) (by rw [hzl]; exact hrow) (Nat.le_refl _) (by unfold maxLen; omega)
          rw [hzl] at ho
          exact ⟨by rw [hzl]; exact ho, fun b hb => (World.ownsRow.lt ho b hb).2⟩)
        have HZL := hide hzl
        have hzu : U8 zr := fun z hz => by rw [hzr] at hz; have := List.eq_of_mem_replicate hz; omega
        have HZU := hide hzu
        clear hzl hzu hzr
        have hs8 : w6.heap.size < (w6.alloc (.cells (madeCells #[.int .u8 0] 2001) 5)).heap.size := by simp
        go_wp2_with fail
        have T8 := hide (G1.out.below A7.out)
        obtain ⟨t7, h70, h71, hs7⟩ := A6.out.src
        have S8 := hide (hs7.below A7.out)
        have K8 := hide (A6.out.kept.trans ((Kept.of_below A7.out).mono (fun _ _ h => h)))
        clear hs7 hmk u0 u1 u2 u3
        generalize w6.alloc (.cells (madeCells #[.int .u8 0] 2001) 5) = w8 at *
        have KX : Hid (Kept (fun b => b = w.heap.size ∨ b = w.heap.size + 1) w8 (((w8.setCell ⟨w.heap.size + 1, 1, none⟩ (.slice (some ⟨w6.heap.size, 0, none⟩) 2001 2001)).setCell ⟨w.heap.size, 0, none⟩ (.slice sa S.length sc)).setCell ⟨w.heap.size, 1, none⟩ (.slice (some ⟨w6.heap.size, 0, none⟩) 2001 2001))) := hide (Kept.setCell (p := ⟨w.heap.size, 1, none⟩) (Kept.setCell (p := ⟨w.heap.size, 0, none⟩) (Kept.setCell (p := ⟨w.heap.size + 1, 1, none⟩) (Kept.refl _ _) (fun _ => .inr rfl) _) (fun _ => .inl rfl) _) (fun _ => .inl rfl) _)
        have N9 := hide (N8.out.kept KX.out (fun b h1 h2 e => by omega))
        have T9 := hide (T8.out.kept KX.out (fun b h1 h2 e => by omega))
        have S9 := hide (S8.out.kept KX.out (fun b hb e => by omega))
        have K9 := hide (K8.out.trans_own KX.out (fun b hb e => by omega))
        have hz9 := KX.out.size
        refine bodyPost_ret (v := .agg #[.slice sa S.length sc, .slice (some ⟨w6.heap.size, 0, none⟩) 2001 2001]) (by simp [results, Try.results41, go_sem, z0, z1]) rfl ⟨sa, sc, S, some ⟨w6.heap.size, 0, none⟩, 2001, zr, by rw [HZL.out], ?_, ?_, A6.out.us, HZU.out, by omega, by rw [HZL.out]; exact Nat.le_refl _, ⟨t7, h70, by omega, S9.out⟩, K9.out⟩
        · have := (T9.out.low (B' := w.heap.size) (by omega)); exact ⟨this.1, fun b hb => by have := this.2 b hb; omega⟩
        · rw [HZL.out]; have := (N9.out.low (B' := w.heap.size) (by omega)); exact ⟨this.1, fun b hb => by have := this.2 b hb; omega⟩
      · have e0' : (r6 == 0) = false := beq_eq_false_iff_ne.2 e0
        have e1' : (r6 == 1) = false := beq_eq_false_iff_ne.2 e1
        have e2' : (r6 == 2) = false := beq_eq_false_iff_ne.2 e2
        go_wp2_with fail
        have KX : Hid (Kept (fun b => b = w.heap.size) w6 ((w6.setCell ⟨w.heap.size, 0, none⟩ (.slice sa S.length sc)).setCell ⟨w.heap.size, 1, none⟩ (.slice la L.length lc))) := hide (Kept.two _ _ _ _ _ _)
        have G1x := hide ((G1.out.kept KX.out (fun b h1 h2 e => by omega)).low (B' := w.heap.size) (by omega))
        have G2x := hide ((G2.out.kept KX.out (fun b h1 h2 e => by omega)).low (B' := w.heap.size) (by omega))
        obtain ⟨t7, h70, h71, hs7⟩ := A6.out.src
        have S9 := hide (hs7.kept KX.out (fun b hb e => by omega))
        have K9 := hide (A6.out.kept.trans_own KX.out (fun b hb e => by omega))
        have hz9 := KX.out.size
        refine bodyPost_ret (v := .agg #[.slice sa S.length sc, .slice la L.length lc]) (by simp [results, Try.results41, go_sem, y0, y1]) rfl ⟨_, _, S, _, _, L, rfl, ?_, ?_, A6.out.us, A6.out.ul, by omega, by omega, ⟨t7, h70, by omega, S9.out⟩, K9.out⟩
        · exact ⟨G1x.out.1, fun b hb => by have := G1x.out.2 b hb; omega⟩
        · exact ⟨G2x.out.1, fun b hb => by have := G2x.out.2 b hb; omega⟩
end Go.Proofs.Ytpikgmbjgfdcfaa

