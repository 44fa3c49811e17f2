/-
  Texts put together: IteC IteD EntS EntX IteE EntQ LayR LayG Digest Parts IntsR Digests EntI.
-/
import Derived.Test.YtolnlfnndnpiiaaGreatKGrows4
import Derived.Test.YtolnlfnndnpiiaaGreatKGrows5
import Derived.Test.YtolnlfnndnpiiaaGreatKGrows2
import Derived.Test.YtolnlfnndnpiiaaGreatKGrows3
import Derived.Deep.SlicePairs
import Derived.ProofKit
import Derived.ChangeOld
namespace Go.Proofs.YtolnlfnndnpiiaaGreat
open Go.RowKit Go.Maps
set_option linter.unusedVariables false
attribute [local go_sem ↓] Go.wp_at_zero Go.wp_at_succ

theorem wpList_append_nil {P : Program} {wr : World} {ops : Array Oper} {rest : List Oper} {o : Oper} {a : Act} {Q : Exit → Act → World → Prop} (hgd : o.guard = none) (s x : Operand) (t : TypeId)
    (ho : o.op = .call { callee := .builtin .append, args := #[s, x], argTypes := #[t, t] })
    (e : TypeId) (i : TypeInfo) (k : IntKind) (bytes : Nat) (hu : P.underlying t = some (.slice e)) (hi : P.info? e = some i) (hz : i.zero = some (.int k 0))
    (hsize : i.size = 1) (hby : i.bytes = bytes) (hs : a.eval s = .slice none 0 0)
    (xa : Option Addr) (m cap : Nat) (zs : List Int) (hx : a.eval x = .slice xa m cap) (hm : m = zs.length) (hr : Reads k wr xa zs)
    (h63 : 0 + m ≤ maxLen) (hbytes : (0 + m) * bytes ≤ 140737488355328)
    (h : ∀ av cv w', w'.ownsRow wr.heap.size e 1 (.slice av m cv) m (zs.map (Value.int k)) → Below wr.heap.size wr w' → wpList P ops Q rest (a.put o.dst (.slice av m cv)) w') :
    wpList P ops Q (o :: rest) a wr := by
  cases xa with
  | some ad =>
    refine wpList_append_own _ hgd s x t ho wr.heap.size e i (.int k 0) 1 bytes hu hi hz hsize hby rfl (by decide) _ 0 [] hs (World.ownsRow_nil _ _ _ _) ad m cap (zs.map (Value.int k)) hx (by simp [hm]) (fun j u hj => ?_) (ints_one _ _) h63 hbytes (Nat.le_refl _) ?_
    · have h0 : zs ≠ [] := fun e => by subst e; simp at hj
      obtain ⟨b, off, e1, hb, hc⟩ := hr h0
      simp only [Option.some.injEq] at e1
      subst e1
      exact reads_news hc j u hj
    · intro v' w' ho' hg _
      rw [List.nil_append, Nat.zero_add] at ho'
      obtain ⟨av, cv, rfl⟩ := ownsRow_shape ho'
      exact h av cv w' ho' ⟨hg.os, hg.tape, hg.output, hg.size, fun q hq => hg.block q hq (fun e => by simp [Value.ownBlock] at e)⟩
  | none =>
    have h0 : zs = [] := by
      by_cases h0 : zs = []
      · exact h0
      · obtain ⟨b, off, e1, _⟩ := hr h0; cases e1
    subst h0
    simp only [List.length_nil] at hm
    subst hm
    have hrun : (Builtin.append_ #[t, t] o.type #[.slice none 0 0, .slice none 0 cap]).run P wr = .ok (.slice none 0 0) wr := by
      simp [Builtin.append_, run_underlying hu, sizeOf, typeInfo, hi, Builtin.lenOf, Builtin.firstCells]
    refine wpList_plain hgd fun K hK => ?_
    unfold Oper.wp execOp
    simp only [ho, resolve, invoke, builtin, Sem.run_bind, Sem.run_pure, Result.andThen_ok, List.map_toArray, List.map_cons, List.map_nil, hs, hx, hrun]
    exact hK _ _ (h _ _ wr (World.ownsRow_nil _ _ _ _) (Below.refl _ _))

set_option maxHeartbeats 400000 in
theorem copyChunks_any (z : Int) (x : Option Addr) (c : Nat) (zs : List Int) (w : World) (h : Reads .i64 w x zs) (hc : zs.length ≤ 1048576) :
    Calls Tryz.prog 135 #[.agg #[.int .i64 z, .slice x zs.length c]] w fun r w' => ∃ av cv, r = .returned (.slice av zs.length cv) ∧ w'.ownsRow w.heap.size 2 1 (.slice av zs.length cv) zs.length (zs.map (Value.int .i64)) ∧ Below w.heap.size w w' := by
  obtain ⟨i0, hi0, hz0, hz1, hz2⟩ := info_parts Tryz.infoI64
  have HR := hide (h.below (below_alloc w (.cells #[.int .i64 z, .slice x zs.length c] 86)))
  have hm0 : 0 + zs.length ≤ maxLen := by unfold maxLen; omega
  have hm1 : (0 + zs.length) * 8 ≤ 140737488355328 := by omega
  clear h
  go_enter Tryz.func135, Tryz.ntmps135
  go_wp2_with (at_builtin; refine wpList_append_nil rfl (.const (.slice none 0 0)) (.tmp 4) 48 rfl 2 i0 .i64 8 Tryz.underlying48 hi0 hz0 hz1 hz2 rfl x zs.length c zs rfl rfl HR.out hm0 hm1 ?_; intro av cv w1 hown1 hk1; have O1 := hide hown1; have B1 := hide hk1; clear hown1 hk1)
  go_ret
  exact ⟨av, cv, rfl, ownsRow_mono O1.out (by simp), below_next (below_alloc _ _) B1.out⟩

theorem Tryz.infoIt : (Tryz.prog.info? 88).map (fun i => (i.zero, i.size, i.bytes)) = some (some (.agg #[.int .i64 0, .slice none 0 0, .string ⟨#[]⟩, .int .i64 0]), 4, 56) := by kernel_rfl

def cellsI (r : Rw) : List Value := [.int .i64 r.e.size, .slice r.a r.e.chunks.length r.c, .string (str r.e.path), .int .i64 r.e.kind]
def rowI (rs : List Rw) : List Value := rs.flatMap cellsI
theorem rowI_append (a b : List Rw) : rowI (a ++ b) = rowI a ++ rowI b := by simp [rowI]
theorem rowI_get : ∀ (rs : List Rw) (i q : Nat) (r : Rw), rs[i]? = some r → q < 4 → (rowI rs)[i * 4 + q]? = (cellsI r)[q]?
  | [], i, q, r, h, _ => by simp at h
  | x :: rs, 0, q, r, h, hq => by
    simp only [List.getElem?_cons_zero, Option.some.injEq] at h
    subst h
    simp only [rowI, List.flatMap_cons, Nat.zero_mul, Nat.zero_add]
    rw [List.getElem?_append_left (by simp [cellsI]; omega)]
  | x :: rs, i + 1, q, r, h, hq => by
    have := rowI_get rs i q r (by simpa using h) hq
    rw [← this]
    simp only [rowI, List.flatMap_cons]
    rw [List.getElem?_append_right (by simp [cellsI]; omega)]
    congr 1
    simp [cellsI]; omega
theorem rowI_one (rs : List Rw) : ∀ u ∈ rowI rs, u.oneCell' = true := by
  intro u hu
  simp only [rowI, List.mem_flatMap] at hu
  obtain ⟨r, _, hr⟩ := hu
  simp only [cellsI, List.mem_cons, List.not_mem_nil, or_false] at hr
  rcases hr with rfl | rfl | rfl | rfl <;> rfl
def RdI (w : World) (a : Option Addr) (es : List En) : Prop :=
  es ≠ [] → ∃ (b off : Nat) (A : Nat → Option Addr) (C : Nat → Nat), a = some ⟨b, off, none⟩ ∧ b < w.heap.size ∧ ∀ i e, es[i]? = some e →
    w.cell? ⟨b, off + i * 4, none⟩ = some (.int .i64 e.size) ∧ w.cell? ⟨b, off + i * 4 + 1, none⟩ = some (.slice (A i) e.chunks.length (C i)) ∧ w.cell? ⟨b, off + i * 4 + 2, none⟩ = some (.string (str e.path)) ∧
    w.cell? ⟨b, off + i * 4 + 3, none⟩ = some (.int .i64 e.kind) ∧ Reads .i64 w (A i) e.chunks
theorem RdI.below {w w' : World} {a : Option Addr} {es : List En} (h : RdI w a es) (hk : Below w.heap.size w w') : RdI w' a es := by
  intro hz
  obtain ⟨b, off, A, C, e, hb, hc⟩ := h hz
  refine ⟨b, off, A, C, e, Nat.lt_of_lt_of_le hb hk.size, fun i x hx => ?_⟩
  obtain ⟨c0, c1, c2, c3, r⟩ := hc i x hx
  exact ⟨(hk.cell (p := ⟨b, off + i * 4, none⟩) hb).trans c0, (hk.cell (p := ⟨b, off + i * 4 + 1, none⟩) hb).trans c1, (hk.cell (p := ⟨b, off + i * 4 + 2, none⟩) hb).trans c2, (hk.cell (p := ⟨b, off + i * 4 + 3, none⟩) hb).trans c3, r.below hk⟩
theorem RdI.at {w : World} {a : Option Addr} {es : List En} (h : RdI w a es) {k : Nat} (hk : k < es.length) :
    ∃ b off e x c, a = some ⟨b, off, none⟩ ∧ b < w.heap.size ∧ es[k]? = some e ∧ w.cell? ⟨b, off + k * 4, none⟩ = some (.int .i64 e.size) ∧ w.cell? ⟨b, off + k * 4 + 1, none⟩ = some (.slice x e.chunks.length c) ∧ w.cell? ⟨b, off + k * 4 + 2, none⟩ = some (.string (str e.path)) ∧
      w.cell? ⟨b, off + k * 4 + 3, none⟩ = some (.int .i64 e.kind) ∧ Reads .i64 w x e.chunks := by
  obtain ⟨b, off, A, C, e, hb, hc⟩ := h (by intro e; simp [e] at hk)
  have hx : es[k]? = some es[k] := List.getElem?_eq_getElem hk
  obtain ⟨c0, c1, c2, c3, r⟩ := hc k _ hx
  exact ⟨b, off, es[k], A k, C k, e, hb, hx, c0, c1, c2, c3, r⟩
def LI (w0 w : World) (v : Value) (es : List En) : Prop :=
  ∃ rs : List Rw, rs.map Rw.e = es ∧ w.ownsRow w0.heap.size 88 4 v es.length (rowI rs) ∧ ∀ r ∈ rs, Reads .i64 w0 r.a r.e.chunks
theorem LI.shape {w0 w : World} {v : Value} {es : List En} (h : LI w0 w v es) : ∃ a c, v = .slice a es.length c := by
  obtain ⟨rs, _, h1, _⟩ := h
  exact ownsRow_shape h1
theorem LI.nil (w0 w : World) : LI w0 w (.slice none 0 0) [] :=
  ⟨[], rfl, World.ownsRow_nil _ _ _ _, fun r hr => by simp at hr⟩
theorem LI.below {w0 w w' : World} {v : Value} {es : List En} (h : LI w0 w v es) (hk : Below w.heap.size w w') : LI w0 w' v es := by
  obtain ⟨rs, he, h1, h2⟩ := h
  exact ⟨rs, he, ownsRow_below h1 hk, h2⟩
theorem LI.push {w0 w2 : World} {v' : Value} {es : List En} {rs : List Rw} {e : En} {a : Option Addr} {c m : Nat} (he : rs.map Rw.e = es) (hm : m = es.length)
    (h2 : ∀ r ∈ rs, Reads .i64 w0 r.a r.e.chunks) (hr : Reads .i64 w0 a e.chunks)
    (hv' : w2.ownsRow w0.heap.size 88 4 v' (m + 1) (rowI rs ++ cellsI ⟨e, a, c⟩)) : LI w0 w2 v' (es ++ [e]) := by
  subst hm
  refine ⟨rs ++ [⟨e, a, c⟩], by rw [List.map_append, he]; rfl, ?_, fun r hx => ?_⟩
  · rw [rowI_append, List.length_append]
    simpa [rowI] using hv'
  · rcases List.mem_append.1 hx with hx | hx
    · exact h2 r hx
    · simp only [List.mem_singleton] at hx
      subst hx
      exact hr
theorem LI.rd {w0 w : World} {a : Option Addr} {n c : Nat} {es : List En} (h : LI w0 w (.slice a n c) es) (hb : Below w0.heap.size w0 w) : RdI w a es := by
  intro hz
  obtain ⟨rs, he, h1, h2⟩ := h
  have h0 : 0 < es.length := List.length_pos_iff.2 hz
  have hl : rs.length = es.length := by rw [← he, List.length_map]
  rcases h1.2 with ⟨_, h0'⟩ | ⟨g, cap, cur, h', hb', hh, hnc, hcm, hcs, htake⟩
  · omega
  · simp only [Value.slice.injEq] at h'
    obtain ⟨rfl, rfl, rfl⟩ := h'
    refine ⟨g, 0, fun i => (rs[i]?.map Rw.a).getD none, fun i => (rs[i]?.map Rw.c).getD 0, rfl, (h1.lt g rfl).2, fun i e hi => ?_⟩
    have hi0 : i < es.length := (List.getElem?_eq_some_iff.1 hi).1
    obtain ⟨r, hr⟩ : ∃ r, rs[i]? = some r := ⟨rs[i]'(by omega), List.getElem?_eq_getElem (by omega)⟩
    have hre : r.e = e := by
      have : (rs.map Rw.e)[i]? = some r.e := by rw [List.getElem?_map, hr]; rfl
      rw [he, hi] at this
      exact (Option.some.inj this).symm
    have hc := fun q hq => (h1.cellAt (i * 4 + q) (by omega)).trans (rowI_get rs i q r hr hq)
    simp only [hr, Option.map_some, Option.getD_some, Nat.zero_add]
    rw [← hre]
    exact ⟨hc 0 (by decide), hc 1 (by decide), hc 2 (by decide), hc 3 (by decide), (h2 r (List.mem_of_getElem? hr)).below hb⟩

end Go.Proofs.YtolnlfnndnpiiaaGreat

namespace Go.Proofs.YtolnlfnndnpiiaaGreat
open Go.RowKit Go.Maps
set_option linter.unusedVariables false
attribute [local go_sem ↓] Go.wp_at_zero Go.wp_at_succ

set_option maxRecDepth 100000 in
set_option maxHeartbeats 3200000 in
theorem entriesOf_any (a : Option Addr) (c n : Nat) (es : List En) (w : World) (h : RdI w a es) (hn : n = es.length) (hl : es.length ≤ 1048576) (hs : SmallE es) :
    Calls Tryz.prog 91 #[.slice a n c] w fun r w' => ∃ av cv, r = .returned (.slice av n cv) ∧ GE w.heap.size w'.heap.size w' (.slice av n cv) es ∧ Below w.heap.size w w' := by
  subst hn
  obtain ⟨i1, ki, kz0, kz1, kz2⟩ := info_parts Tryz.infoEn
  have HA := hide h
  have HS := hide hs
  clear h hs
  go_enter Tryz.func91, Tryz.ntmps91
  go_wp2_with fail
  go_loopw [3, 8] (fun v i wr => ∃ j : Nat, j ≤ es.length ∧ i = .int .i64 j ∧ Hid (GE w.heap.size wr.heap.size wr v (es.take j)) ∧ Hid (Below w.heap.size w wr)) (fun _ i _ => es.length - (intOf i).toNat)
  case atStart => exact ⟨0, Nat.zero_le _, rfl, hide (GE.nil _ _ _), hide (Below.refl _ _)⟩
  case round =>
    obtain ⟨j, hj, rfl, HG, HW⟩ := hrel
    obtain ⟨lv, lc, hv⟩ := HG.out.shape
    rw [take_len hj] at hv
    subst hv
    have HA1 := hide (HA.out.below HW.out)
    have hsz := HW.out.size
    by_cases hlt : j < es.length
    · obtain ⟨b, off, e, x, cc, rfl, hb, he, c0, c1, c2, c3, hr⟩ := HA1.out.at hlt
      have HX := hide he
      have HRc := hide (hr.below (below_alloc wr (.cells #[.int .i64 e.size, .slice x e.chunks.length cc, .string (str e.path), .int .i64 e.kind] 88)))
      have hsm := HS.out e (List.mem_of_getElem? he)
      have BW2 := hide (below_alloc wr (.cells #[.int .i64 e.size, .slice x e.chunks.length cc, .string (str e.path), .int .i64 e.kind] 88))
      have F4 := hide (Four.new wr (.int .i64 e.size) (.slice x e.chunks.length cc) (.string (str e.path)) (.int .i64 e.kind) 88)
      clear he hr
      obtain ⟨rs, g1, g2, g3, g4, g5, g6⟩ := HG.out
      have G1 := hide g1
      have G2 := hide g2
      have G3 := hide g3
      have G4 := hide g4
      clear g1 g2 g3 g4 g5 g6 HG
      have hj1 : (es.take j).length = j := take_len hj
      have hm1 : j + 1 ≤ maxLen := by unfold maxLen; omega
      have hm1' : (j + 1) * 56 ≤ 140737488355328 := by omega
      have G2' : Hid (wr.ownsRow w.heap.size 50 4 (.slice lv j lc) j (rowR rs)) := by have := G2.out; rw [hj1] at this; exact this
      have HJ := hide hj1
      clear hj1
      go_wp2_with fail
      clear c0 c1 c2 c3
      have hbk : wr.heap.size < (wr.alloc (.cells #[.int .i64 e.size, .slice x e.chunks.length cc, .string (str e.path), .int .i64 e.kind] 88)).heap.size := F4.out.lt
      generalize wr.alloc (.cells #[.int .i64 e.size, .slice x e.chunks.length cc, .string (str e.path), .int .i64 e.kind] 88) = W2 at *
      obtain ⟨bk, hbke⟩ : ∃ bk, bk = wr.heap.size := ⟨_, rfl⟩
      rw [← hbke] at F4 hbk ⊢
      have HBK := hide hbke
      clear hbke
      have KC : Hid (∀ w' : World, Below W2.heap.size W2 w' → w'.cell? ⟨bk, 0, none⟩ = some (.int .i64 e.size) ∧ w'.cell? ⟨bk, 1, none⟩ = some (.slice x e.chunks.length cc) ∧ w'.cell? ⟨bk, 2, none⟩ = some (.string (str e.path)) ∧ w'.cell? ⟨bk, 3, none⟩ = some (.int .i64 e.kind)) := hide (fun w' hb' => F4.out.below hb')
      have KD : Hid (∀ w2 w3 : World, Below W2.heap.size W2 w2 → Kept (fun q => (Value.slice lv j lc).ownBlock = some q) w2 w3 → w3.cell? ⟨bk, 0, none⟩ = some (.int .i64 e.size) ∧ w3.cell? ⟨bk, 1, none⟩ = some (.slice x e.chunks.length cc) ∧ w3.cell? ⟨bk, 2, none⟩ = some (.string (str e.path)) ∧ w3.cell? ⟨bk, 3, none⟩ = some (.int .i64 e.kind)) := hide (fun w2 w3 hb' hk' => by
        have hn : ¬ (Value.slice lv j lc).ownBlock = some bk := fun hq => by have := (G2'.out.lt bk hq).2; have := HBK.out; omega
        have hlt2 : bk < w2.heap.size := Nat.lt_of_lt_of_le hbk hb'.size
        obtain ⟨q0, q1, q2, q3⟩ := KC.out w2 hb'
        exact ⟨(hk'.cell (p := ⟨bk, 0, none⟩) hlt2 hn).trans q0, (hk'.cell (p := ⟨bk, 1, none⟩) hlt2 hn).trans q1, (hk'.cell (p := ⟨bk, 2, none⟩) hlt2 hn).trans q2, (hk'.cell (p := ⟨bk, 3, none⟩) hlt2 hn).trans q3⟩)
      obtain ⟨f0, f1, f2, f3⟩ := F4.out
      go_region_held3 (fun w' => w'.cell? ⟨bk, 0, none⟩ = some (.int .i64 e.size) ∧ w'.cell? ⟨bk, 1, none⟩ = some (.slice x e.chunks.length cc) ∧ w'.cell? ⟨bk, 2, none⟩ = some (.string (str e.path)) ∧ w'.cell? ⟨bk, 3, none⟩ = some (.int .i64 e.kind)) (first | exact KC.out _ BB1.out | exact KC.out _ BB2.out | exact KD.out _ _ BB2.out K3.out | go_keep)
        ((first
          | (go_at_call 84; refine (clone_str _ _ (by rw [str_size]; omega)).mono ?_; rintro r w1 ⟨rfl, hb1⟩; have BB1 := hide ((Below.refl W2.heap.size W2).drew.trans hb1); clear hb1)
          | (go_at_call 135; refine (copyChunks_any _ _ _ _ _ (HRc.out.below BB1.out) hsm.2).mono ?_; rintro r w2 ⟨av2, cv2, rfl, ho2, hb2⟩; have O2 := hide ho2; have BB2 := hide (below_next BB1.out hb2); clear ho2 hb2)
          | (refine step_append_list (by rfl) (.tmp 12) (.tmp 25) 35 (by rfl) w.heap.size 50 i1 (.agg #[.string ⟨#[]⟩, .int .i64 0, .int .i64 0, .slice none 0 0]) 4 56 Tryz.underlying35 ki kz0 kz1 kz2 rfl (by decide) (.slice lv j lc) j (rowR rs) (by rfl) ((ownsRow_below G2'.out (below_next BW2.out BB2.out)).alloc _) ⟨w2.heap.size, 0, none⟩ 1 1 (cellsR ⟨e, av2, cv2⟩) (by rfl) (by rfl) (news_four rfl) (rowR_one [⟨e, av2, cv2⟩]) (j + 1) rfl hm1 hm1' (by have := BW2.out.size; have := BB2.out.size; simp; omega) ?_; intro av3 cv3 w3 hown3 hk3; have O3 := hide hown3; have K3 := hide (((Kept.refl (fun q => (Value.slice lv j lc).ownBlock = some q) w2).alloc _).trans hk3); clear hown3 hk3)))
      go_wp2_with fail
      go_roundw
      case rel =>
        have hs1 := BW2.out.size
        have hs2 := BB1.out.size
        have hs3 := BB2.out.size
        refine ⟨j + 1, by omega, by go_num, hide ?_, hide ?_⟩
        · rw [take_snoc_at HX.out]
          exact GE.push G1.out G2.out G3.out G4.out hsz (below_next BW2.out BB2.out) (ownsRow_mono O2.out (by omega)) (by rw [HJ.out]; exact O3.out) K3.out
        · exact (below_next HW.out (below_next BW2.out BB2.out)).trans (K3.out.below (by omega) (fun k hk hx => by have := (G2'.out.lt k hx).1; omega))
      case measure => simp [intOf]; omega
    · have hje : j = es.length := by omega
      have HE := hide (show es.take j = es from List.take_of_length_le (by omega))
      have HG2 : Hid (GE w.heap.size wr.heap.size wr (.slice lv j lc) es) := by have := HG.out; rw [HE.out] at this; exact this
      clear HG HE
      subst hje
      go_wp2_with fail
      go_ret
      exact ⟨_, _, rfl, HG2.out, HW.out⟩

end Go.Proofs.YtolnlfnndnpiiaaGreat

namespace Go.Proofs.YtolnlfnndnpiiaaGreat
open Go.RowKit Go.Maps
set_option linter.unusedVariables false

theorem En.same {e f : En} (h0 : e.path = f.path) (h1 : e.kind = f.kind) (h2 : e.size = f.size) (h3 : e.chunks = f.chunks) : e = f := by
  cases e; cases f; simp_all
theorem ne_at {es fs : List En} {j : Nat} {e f : En} (he : es[j]? = some e) (hf : fs[j]? = some f) (h : e ≠ f) : decide (es = fs) = false := by
  apply decide_eq_false
  intro e1
  rw [e1, hf] at he
  exact h (Option.some.inj he).symm
theorem take_both {α : Type} {es fs : List α} {j : Nat} {e f : α} (he : es[j]? = some e) (hf : fs[j]? = some f) (h : es.take j = fs.take j) (hx : e = f) : es.take (j + 1) = fs.take (j + 1) := by
  rw [take_snoc_at he, take_snoc_at hf, h, hx]
theorem take_whole {α : Type} {es fs : List α} {j : Nat} (h : es.take j = fs.take j) (h1 : es.length ≤ j) (h2 : fs.length ≤ j) : es = fs := by
  rwa [List.take_of_length_le h1, List.take_of_length_le h2] at h
end Go.Proofs.YtolnlfnndnpiiaaGreat

namespace Go.Proofs.YtolnlfnndnpiiaaGreat
open Go.ChangeShapes Go.WideShapes Go.ChangeAt Go.RowKit
set_option linter.unusedVariables false

def Box4 (w : World) (b : Nat) (u0 u1 u2 u3 : Value) : Prop := Four w b u0 u1 u2 u3 ∧ ∀ i, w.frozen? ⟨b, i, none⟩ = false
theorem Box4.new (w : World) (u0 u1 u2 u3 : Value) (t : TypeId) : Box4 (w.alloc (.cells #[u0, u1, u2, u3] t)) w.heap.size u0 u1 u2 u3 := ⟨Four.new w u0 u1 u2 u3 t, fun i => by simp⟩
theorem Box4.below {w w' : World} {b : Nat} {u0 u1 u2 u3 : Value} (h : Box4 w b u0 u1 u2 u3) (hk : Below w.heap.size w w') : Box4 w' b u0 u1 u2 u3 :=
  ⟨h.1.below hk, fun i => (hk.frozen (p := ⟨b, i, none⟩) h.1.lt).trans (h.2 i)⟩






end Go.Proofs.YtolnlfnndnpiiaaGreat

namespace Go.Proofs.YtolnlfnndnpiiaaGreat
open Go.RowKit Go.Maps
set_option linter.unusedVariables false
attribute [local go_sem ↓] Go.wp_at_zero Go.wp_at_succ

def atBelow (p t : Bs) : Bool := decide (p = t) || isBelow p t
set_option maxHeartbeats 800000 in
theorem isAtOrBelow_any (p t : Bs) (k z : Int) (a : Option Addr) (n c : Nat) (w : World) (hp : p.length ≤ 1048576) :
    Calls Tryz.prog 152 #[.agg #[.int .i64 z, .slice a n c, .string (str p), .int .i64 k], .string (str t)] w fun r w' => r = .returned (.bool (atBelow p t)) ∧ Below w.heap.size w w' := by
  have HB := hide (below_alloc w (.cells #[.int .i64 z, .slice a n c, .string (str p), .int .i64 k] 88))
  by_cases h : p = t
  · have hs1 := str_yes h
    have HE := hide (show atBelow p t = true from by simp [atBelow, h])
    clear h
    generalize atBelow p t = Z at HE ⊢
    go_enter Tryz.func152, Tryz.ntmps152
    go_wp2_with fail
    go_ret
    exact ⟨ret_bool HE.out.symm, HB.out⟩
  · have hs1 := str_no h
    have HE := hide (show atBelow p t = isBelow p t from by simp [atBelow, h])
    clear h
    generalize atBelow p t = Z at HE ⊢
    go_enter Tryz.func152, Tryz.ntmps152
    go_wp2_with fail
    refine (implIsBelow_any _ _ _ (by rw [str_size]; omega)).mono ?_
    rintro r w1 ⟨rfl, hb1⟩
    rw [str_data, str_data, ← HE.out]
    have HB1 := hide (below_next HB.out hb1)
    clear hb1 HE
    go_wp2_with fail
    cases Z
    · go_ret
      exact ⟨rfl, HB1.out⟩
    · go_ret
      exact ⟨rfl, HB1.out⟩
def restP (es : List En) (p : Bs) : List En := es.filter fun e => !(atBelow e.path p)
theorem restP_len (es : List En) (p : Bs) : (restP es p).length ≤ es.length := List.length_filter_le _ _
end Go.Proofs.YtolnlfnndnpiiaaGreat

namespace Go.Proofs.YtolnlfnndnpiiaaGreat
open Go.RowKit Go.Maps
set_option linter.unusedVariables false

def putCode (es : List En) (e : En) : Int :=
  if layFault es = 0 then (if entFault e = 0 then (if homeE es e.path then (if 12 < (putE es e).length then 2 else 0) else 9) else entFault e) else layFault es
def putList (es : List En) (e : En) : List En := if putCode es e = 0 then putE es e else []

set_option maxRecDepth 100000 in
set_option maxHeartbeats 3200000 in
theorem specPutEntry_any (a : Option Addr) (c n : Nat) (es : List En) (e : En) (x : Option Addr) (m cc : Nat) (w : World) (h : RdE w a es) (hn : n = es.length) (hl : es.length < 1048576) (hs : SmallE es) (hm : m = e.chunks.length) (hr : Reads .i64 w x e.chunks) (hp : e.path.length ≤ 1048576) (hcl : e.chunks.length ≤ 1048576) :
    Calls Tryz.prog 189 #[.slice a n c, .agg #[.string (str e.path), .int .i64 e.kind, .int .i64 e.size, .slice x m cc]] w (ResE (putCode es e) (putList es e) w) := by
  subst hn
  subst hm
  have HF := hide (fun u hb => l4Fault_any a c es.length es u (h.below hb) rfl (by omega) hs)
  have HEf := hide (fun u (hb : Below w.heap.size w u) => specEntryFault_any e x cc e.chunks.length u (hr.below hb) rfl hp hcl)
  have HHo := hide (fun u hb h1 => l4Home_any a c es.length es e.path u (h.below hb) rfl (by omega) h1 hp)
  have HPu := hide (fun u hb => l4Put_any a c es.length es e x e.chunks.length cc u (h.below hb) rfl hl hs rfl (hr.below hb) hp hcl)
  clear h hs hr
  go_enter Tryz.func189, Tryz.ntmps189
  go_wp2_with fail
  have B0 := hide (below_next (below_alloc w (.cells #[.string (str e.path), .int .i64 e.kind, .int .i64 e.size, .slice x e.chunks.length cc] 50)) (below_alloc _ (.cells #[.int .i64 0, .slice none 0 0] 131)))
  have F0 := hide ((Four.new w (.string (str e.path)) (.int .i64 e.kind) (.int .i64 e.size) (.slice x e.chunks.length cc) 50).below (below_alloc _ (.cells #[.int .i64 0, .slice none 0 0] 131)))
  have X0 := hide (Box.new (w.alloc (.cells #[.string (str e.path), .int .i64 e.kind, .int .i64 e.size, .slice x e.chunks.length cc] 50)) (.int .i64 0) (.slice none 0 0) 131)
  have hsz0 : (w.alloc (.cells #[.string (str e.path), .int .i64 e.kind, .int .i64 e.size, .slice x e.chunks.length cc] 50)).heap.size = w.heap.size + 1 := by simp
  rw [hsz0] at X0
  clear hsz0
  generalize (w.alloc (.cells #[.string (str e.path), .int .i64 e.kind, .int .i64 e.size, .slice x e.chunks.length cc] 50)).alloc (.cells #[.int .i64 0, .slice none 0 0] 131) = w0 at *
  have hrb : w.heap.size ≤ w.heap.size + 1 := Nat.le_succ _
  generalize hbk : w.heap.size + 1 = rb at *
  have HRB := hide hrb
  clear hrb hbk
  refine (HF.out _ B0.out).mono ?_
  rintro r w1 ⟨rfl, hb1⟩
  have B1 := hide (below_next B0.out hb1)
  have F1 := hide (F0.out.below hb1)
  have X1 := hide (X0.out.below hb1)
  clear hb1 B0 F0 X0 HF
  by_cases hz : layFault es = 0
  · rw [hz]
    obtain ⟨f0, f1, f2, f3⟩ := F1.out
    go_wp2_with fail
    refine (HEf.out _ B1.out).mono ?_
    rintro r w2 ⟨rfl, hb2⟩
    have B2 := hide (below_next B1.out hb2)
    have X2 := hide (X1.out.below hb2)
    have F2 := hide (F1.out.below hb2)
    clear hb2 f0 f1 f2 f3 F1 X1 B1 HEf
    by_cases he : entFault e = 0
    · rw [he]
      have hpos := path_pos (entFault_zero he)
      obtain ⟨f0, f1, f2, f3⟩ := F2.out
      go_wp2_with fail
      refine (HHo.out _ B2.out hpos).mono ?_
      rintro r w3 ⟨rfl, hb3⟩
      have B3 := hide (below_next B2.out hb3)
      have X3 := hide (X2.out.below hb3)
      have F3 := hide (F2.out.below hb3)
      clear hb3 f0 f1 f2 f3 F2 X2 B2 HHo
      cases hh : homeE es e.path
      · have HC := hide (show putCode es e = 9 ∧ putList es e = [] from by
          have : putCode es e = 9 := by simp [putCode, hz, he, hh]
          exact ⟨this, by simp [putList, this]⟩)
        clear hh hz he
        obtain ⟨⟨t0, t1⟩, t2, t3⟩ := X3.out
        go_wp2_with fail
        exact bodyPost_ret (v := .agg #[.int .i64 9, .slice none 0 0]) (by simp [results, Tryz.results189, go_sem, t0, t1]) rfl (by rw [HC.out.1, HC.out.2]; exact ResE.bad HRB.out B3.out)
      · have HC0 := hide (show putCode es e = (if 12 < (putE es e).length then 2 else 0) from by simp [putCode, hz, he, hh])
        clear hh hz he
        obtain ⟨f0, f1, f2, f3⟩ := F3.out
        go_wp2_with fail
        refine (HPu.out _ B3.out).mono ?_
        rintro r w4 ⟨g, cv, rfl, hG, hb4⟩
        have hlt0 := X3.out.1.lt
        have B4 := hide (below_next B3.out hb4)
        obtain ⟨⟨t0, t1⟩, t2, t3⟩ := X3.out.below hb4
        have GG := hide hG
        clear hG hb4 f0 f1 f2 f3 F3 X3 HPu
        by_cases hq : 12 < (putE es e).length
        · have HC := hide (show putCode es e = 2 ∧ putList es e = [] from by
            have : putCode es e = 2 := by rw [HC0.out, if_pos hq]
            exact ⟨this, by simp [putList, this]⟩)
          have hq2 : (12 : Int) < ((putE es e).length : Int) := by omega
          go_wp2_with fail
          exact bodyPost_ret (v := .agg #[.int .i64 2, .slice none 0 0]) (by simp [results, Tryz.results189, go_sem, t0, t1]) rfl (by rw [HC.out.1, HC.out.2]; exact ResE.bad HRB.out B4.out)
        · have HC := hide (show putCode es e = 0 ∧ putList es e = putE es e from by
            have : putCode es e = 0 := by rw [HC0.out, if_neg hq]
            exact ⟨this, by simp [putList, this]⟩)
          have hq2 : ¬ (12 : Int) < ((putE es e).length : Int) := by omega
          go_wp2_with fail
          exact bodyPost_ret (v := .agg #[.int .i64 0, .slice (some ⟨g, 0, none⟩) (putE es e).length cv]) (by simp [results, Tryz.results189, go_sem, t0, t1]) rfl (by rw [HC.out.1, HC.out.2]; exact ResE.of (w2 := w3) hlt0 HRB.out rfl GG.out B4.out)
    · have HC := hide (show putCode es e = entFault e ∧ putList es e = [] from by
        have : putCode es e = entFault e := by simp [putCode, hz, he]
        exact ⟨this, by simp [putList, this, he]⟩)
      generalize entFault e = F at *
      have hz2 : (F != 0) = true := by simp; exact he
      clear he hz
      obtain ⟨⟨t0, t1⟩, t2, t3⟩ := X2.out
      go_wp2_with fail
      exact bodyPost_ret (v := .agg #[.int .i64 F, .slice none 0 0]) (by simp [results, Tryz.results189, go_sem, t0, t1]) rfl (by rw [HC.out.1, HC.out.2]; exact ResE.bad HRB.out B2.out)
  · have HC := hide (show putCode es e = layFault es ∧ putList es e = [] from by
      have : putCode es e = layFault es := by simp [putCode, hz]
      exact ⟨this, by simp [putList, this, hz]⟩)
    generalize layFault es = F at *
    have hz2 : (F != 0) = true := by simp; exact hz
    clear hz
    obtain ⟨⟨t0, t1⟩, t2, t3⟩ := X1.out
    go_wp2_with fail
    exact bodyPost_ret (v := .agg #[.int .i64 F, .slice none 0 0]) (by simp [results, Tryz.results189, go_sem, t0, t1]) rfl (by rw [HC.out.1, HC.out.2]; exact ResE.bad HRB.out B1.out)

end Go.Proofs.YtolnlfnndnpiiaaGreat

namespace Go.Proofs.YtolnlfnndnpiiaaGreat
set_option linter.unusedVariables false

theorem bl_irrefl : ∀ a : Bs, Op.bytesLess a a = false
  | [] => rfl
  | c :: a => by simp [Op.bytesLess, bl_irrefl a]
theorem bl_trans : ∀ a b c : Bs, Op.bytesLess a b = true → Op.bytesLess b c = true → Op.bytesLess a c = true
  | a, [], c, h, _ => by cases a <;> simp [Op.bytesLess] at h
  | [], b :: bs, [], _, h2 => by simp [Op.bytesLess] at h2
  | [], b :: bs, c :: cs, _, _ => by simp [Op.bytesLess]
  | a :: xs, b :: ys, [], _, h2 => by simp [Op.bytesLess] at h2
  | a :: xs, b :: ys, c :: zs, h1, h2 => by
    simp only [Op.bytesLess, Bool.or_eq_true, decide_eq_true_eq, Bool.and_eq_true, beq_iff_eq] at h1 h2 ⊢
    rcases h1 with h1 | ⟨rfl, h1⟩
    · rcases h2 with h2 | ⟨rfl, h2⟩
      · exact .inl (UInt8.lt_trans h1 h2)
      · exact .inl h1
    · rcases h2 with h2 | ⟨rfl, h2⟩
      · exact .inl h2
      · exact .inr ⟨rfl, bl_trans xs ys zs h1 h2⟩
theorem bl_total : ∀ a b : Bs, Op.bytesLess a b = false → a ≠ b → Op.bytesLess b a = true
  | [], [], _, h => absurd rfl h
  | [], b :: bs, h, _ => by simp [Op.bytesLess] at h
  | a :: xs, [], _, _ => by simp [Op.bytesLess]
  | a :: xs, b :: ys, h, hn => by
    simp only [Op.bytesLess, Bool.or_eq_false_iff, decide_eq_false_iff_not, Bool.and_eq_false_iff, beq_eq_false_iff_ne] at h
    simp only [Op.bytesLess, Bool.or_eq_true, decide_eq_true_eq, Bool.and_eq_true, beq_iff_eq]
    by_cases e : a = b
    · subst e
      refine .inr ⟨rfl, bl_total xs ys ?_ (fun x => hn (by rw [x]))⟩
      rcases h.2 with h2 | h2
      · exact absurd rfl h2
      · exact h2
    · refine .inl ?_
      have h1 := h.1
      rw [UInt8.lt_iff_toNat_lt] at h1 ⊢
      have : a.toNat ≠ b.toNat := fun x => e (UInt8.toNat_inj.1 x)
      omega
theorem bl_asymm {a b : Bs} (h : Op.bytesLess a b = true) : Op.bytesLess b a = false := by
  cases h2 : Op.bytesLess b a
  · rfl
  · have := bl_trans a b a h h2
    rw [bl_irrefl] at this
    cases this
theorem bl_ne {a b : Bs} (h : Op.bytesLess a b = true) : a ≠ b := fun e => by rw [e, bl_irrefl] at h; cases h

def Rise (es : List En) : Prop := es.Pairwise fun x y => Op.bytesLess x.path y.path = true
theorem lowE_some {q e : En} (h : lowE (some q) e = false) : Op.bytesLess q.path e.path = true := by
  simp only [lowE, Bool.or_eq_false_iff, beq_eq_false_iff_ne] at h
  exact bl_total _ _ h.1 h.2
theorem lowE_of {q e : En} (h : Op.bytesLess q.path e.path = true) : lowE (some q) e = false := by
  simp only [lowE, Bool.or_eq_false_iff, beq_eq_false_iff_ne]
  exact ⟨bl_asymm h, fun x => bl_ne h x.symm⟩
theorem layFromH_zero {H : Bs → Bool} : ∀ {l : List En} {prev : Option En}, layFromH H prev l = 0 ↔ (∀ e ∈ l, entFault e = 0 ∧ H e.path = true) ∧ Rise l ∧ ∀ q, prev = some q → ∀ e ∈ l, Op.bytesLess q.path e.path = true
  | [], prev => by simp [layFromH, Rise]
  | x :: r, prev => by
    have ih := layFromH_zero (H := H) (l := r) (prev := some x)
    have hx : entBadH H prev x = 0 ↔ entFault x = 0 ∧ lowE prev x = false ∧ H x.path = true := by
      unfold entBadH
      by_cases h1 : entFault x = 0
      · simp only [h1, if_true, true_and]
        cases h2 : lowE prev x
        · cases h3 : H x.path <;> simp
        · simp
      · simp [h1]
    simp only [layFromH]
    by_cases hb : entBadH H prev x = 0
    · rw [if_pos hb, ih]
      obtain ⟨h1, h2, h3⟩ := hx.1 hb
      constructor
      · rintro ⟨a1, a2, a3⟩
        refine ⟨fun e he => ?_, List.pairwise_cons.2 ⟨fun e he => a3 x rfl e he, a2⟩, fun q hq e he => ?_⟩
        · rcases List.mem_cons.1 he with rfl | he
          · exact ⟨h1, h3⟩
          · exact a1 e he
        · subst hq
          have := lowE_some h2
          rcases List.mem_cons.1 he with rfl | he
          · exact this
          · exact bl_trans _ _ _ this (a3 x rfl e he)
      · rintro ⟨a1, a2, a3⟩
        refine ⟨fun e he => a1 e (List.mem_cons_of_mem _ he), (List.pairwise_cons.1 a2).2, fun q hq e he => ?_⟩
        cases hq
        exact (List.pairwise_cons.1 a2).1 e he
    · rw [if_neg hb]
      constructor
      · intro h; exact absurd h hb
      · rintro ⟨a1, a2, a3⟩
        exfalso
        refine hb (hx.2 ⟨(a1 x List.mem_cons_self).1, ?_, (a1 x List.mem_cons_self).2⟩)
        cases prev with
        | none => rfl
        | some q => exact lowE_of (a3 q rfl x List.mem_cons_self)
theorem rise_find {es : List En} (h : Rise es) {e : En} (he : e ∈ es) : findE es e.path = some e := by
  induction es with
  | nil => simp at he
  | cons x r ih =>
    have hp := List.pairwise_cons.1 h
    rcases List.mem_cons.1 he with rfl | he
    · simp [findE]
    · have := hp.1 e he
      rw [findE, List.find?_cons]
      have hn : x.path ≠ e.path := bl_ne this
      simp only [hn, decide_false]
      exact ih hp.2 he
theorem find_mem {es : List En} {p : Bs} {e : En} (h : findE es p = some e) : e ∈ es ∧ e.path = p := by
  refine ⟨List.mem_of_find?_eq_some h, ?_⟩
  have := List.find?_some h
  simpa using this
theorem find_none {es : List En} {p : Bs} (h : ∀ e ∈ es, e.path ≠ p) : findE es p = none := by
  rw [findE, List.find?_eq_none]
  intro e he
  simpa using h e he
theorem homeP_iff {es : List En} {p : Bs} : homeP es p = true ↔ parentP p = [] ∨ ∃ d ∈ es, d.path = parentP p ∧ dirK d.kind = true := by
  unfold homeP hasDir
  by_cases h : parentP p = []
  · simp [h]
  · simp [h]
theorem homeP_eq {es : List En} (h : Rise es) (p : Bs) : homeP es p = homeE es p := by
  unfold homeP homeE
  by_cases h0 : parentP p = []
  · simp [h0]
  · rw [if_neg h0, if_neg h0]
    cases hf : findE es (parentP p) with
    | none =>
      rw [hasDir, List.any_eq_false]
      intro x hx
      have := List.find?_eq_none.1 hf x hx
      simp only [decide_eq_true_eq] at this
      simp [this]
    | some d =>
      obtain ⟨hd, hdp⟩ := find_mem hf
      cases hk : dirK d.kind
      · show hasDir es (parentP p) = dirK d.kind
        rw [hk, hasDir, List.any_eq_false]
        intro x hx
        by_cases hxp : x.path = parentP p
        · have := rise_find h hx
          rw [hxp, hf] at this
          cases this
          simp [hk]
        · simp [hxp]
      · show hasDir es (parentP p) = dirK d.kind
        rw [hk, hasDir, List.any_eq_true]
        exact ⟨d, hd, by simp [hdp, hk]⟩
structure Right (es : List En) : Prop where
  len : es.length ≤ 12
  ent : ∀ e ∈ es, entFault e = 0
  rise : Rise es
  home : ∀ e ∈ es, homeP es e.path = true
theorem right_P {es : List En} : layFaultP es = 0 ↔ Right es := by
  unfold layFaultP
  by_cases h : 12 < es.length
  · rw [if_pos h]
    exact ⟨fun x => (by cases x), fun x => (by have := x.len; omega)⟩
  · rw [if_neg h, layFromH_zero]
    exact ⟨fun ⟨a, b, _⟩ => ⟨by omega, fun e he => (a e he).1, b, fun e he => (a e he).2⟩, fun x => ⟨fun e he => ⟨x.ent e he, x.home e he⟩, x.rise, fun q hq => by cases hq⟩⟩
theorem layFromH_congr {H H' : Bs → Bool} : ∀ {l : List En} {prev : Option En}, (∀ e ∈ l, entFault e = 0 → H e.path = H' e.path) → layFromH H prev l = layFromH H' prev l
  | [], _, _ => rfl
  | x :: r, prev, h => by
    have hx : entBadH H prev x = entBadH H' prev x := by
      unfold entBadH
      by_cases h1 : entFault x = 0
      · rw [h x List.mem_cons_self h1]
      · simp [h1]
    simp only [layFromH]
    rw [hx, layFromH_congr (l := r) (prev := some x) (fun e he => h e (List.mem_cons_of_mem _ he))]
theorem right_E {es : List En} : layFault es = 0 ↔ Right es := by
  unfold layFault
  by_cases h : 12 < es.length
  · rw [if_pos h]
    exact ⟨fun x => (by cases x), fun x => (by have := x.len; omega)⟩
  · rw [if_neg h, layFrom_H, layFromH_zero]
    exact ⟨fun ⟨a, b, _⟩ => ⟨by omega, fun e he => (a e he).1, b, fun e he => by rw [homeP_eq b]; exact (a e he).2⟩, fun x => ⟨fun e he => ⟨x.ent e he, by rw [← homeP_eq x.rise]; exact x.home e he⟩, x.rise, fun q hq => by cases hq⟩⟩

theorem belowB_iff {p t : Bs} : belowB p t = true ↔ ∃ r, r ≠ [] ∧ p = t ++ 47 :: r := by
  simp only [belowB, Bool.and_eq_true, decide_eq_true_eq, beq_iff_eq]
  constructor
  · rintro ⟨⟨hl, ht⟩, hh⟩
    cases e : p.drop t.length with
    | nil => rw [e] at hh; simp at hh
    | cons c r =>
      rw [e] at hh
      simp at hh
      subst hh
      refine ⟨r, ?_, ?_⟩
      · intro h0
        have := congrArg List.length e
        rw [List.length_drop, h0] at this
        simp at this
        omega
      · rw [← e]
        conv => lhs; rw [← List.take_append_drop t.length p, ht]
  · rintro ⟨r, hr, rfl⟩
    have := List.length_pos_iff.2 hr
    simp
    first | done | omega
theorem below_trans {p q t : Bs} (h1 : belowB p q = true) (h2 : belowB q t = true) : belowB p t = true := by
  obtain ⟨r, hr, rfl⟩ := belowB_iff.1 h1
  obtain ⟨s, hs, rfl⟩ := belowB_iff.1 h2
  exact belowB_iff.2 ⟨s ++ 47 :: r, by simp, by simp⟩
theorem below_len {p t : Bs} (h : belowB p t = true) : t.length < p.length := by
  obtain ⟨r, hr, rfl⟩ := belowB_iff.1 h
  simp
theorem parent_above {p : Bs} (hp : faultP p = 0) (h : parentP p ≠ []) : faultP (parentP p) = 0 ∧ belowB p (parentP p) = true := by
  have hm : parentP p ∈ aboveN (cutB p.tail) := by
    have hne : aboveN (cutB p.tail) ≠ [] := fun e => h (parentP_nil.2 e)
    unfold parentP
    rw [List.getLastD_eq_getLast?, List.getLast?_eq_some_getLast hne]
    exact List.getLast_mem _
  exact (above_iff hp).1 hm
theorem isBelow_eq {p t : Bs} (hp : faultP p = 0) (ht : faultP t = 0) : isBelow p t = belowB p t := by
  rw [isBelow_good hp]
  cases h : belowB p t <;> simp [ht]
theorem mem_putAt {bs : List En} {e x : En} : x ∈ putAt bs e ↔ x = e ∨ x ∈ bs := by
  have hb : x ∈ bs ↔ x ∈ bs.take (lowN bs e.path) ∨ x ∈ bs.drop (lowN bs e.path) := by
    conv => lhs; rw [← List.take_append_drop (lowN bs e.path) bs]
    exact List.mem_append
  unfold putAt
  rw [List.mem_append, List.mem_cons, hb]
  exact ⟨fun h => h.elim (fun h => .inr (.inl h)) (fun h => h.elim .inl (fun h => .inr (.inr h))), fun h => h.elim (fun h => .inr (.inl h)) (fun h => h.elim .inl (fun h => .inr (.inr h)))⟩
theorem mem_putE {es : List En} {e x : En} : x ∈ putE es e ↔ x = e ∨ (x ∈ es ∧ keepE e x = true) := by
  rw [putE, mem_putAt, baseE, List.mem_filter]
theorem low_take {p : Bs} : ∀ (bs : List En), ∀ x ∈ bs.take (lowN bs p), Op.bytesLess x.path p = true
  | [], x, hx => by simp [lowN] at hx
  | b :: bs, x, hx => by
    unfold lowN at hx
    rw [List.takeWhile_cons] at hx
    cases h : Op.bytesLess b.path p
    · rw [h] at hx; simp at hx
    · rw [h] at hx
      simp only [if_true, List.length_cons, List.take_succ_cons, List.mem_cons] at hx
      rcases hx with rfl | hx
      · exact h
      · exact low_take bs x hx
theorem low_drop {p : Bs} : ∀ (bs : List En), Rise bs → (∀ x ∈ bs, x.path ≠ p) → ∀ x ∈ bs.drop (lowN bs p), Op.bytesLess p x.path = true
  | [], _, _, x, hx => by simp at hx
  | b :: bs, hr, hn, x, hx => by
    unfold lowN at hx
    rw [List.takeWhile_cons] at hx
    cases h : Op.bytesLess b.path p
    · rw [h] at hx
      simp only [if_false, Bool.false_eq_true, List.length_nil, List.drop_zero] at hx
      have hb := bl_total _ _ h (hn b List.mem_cons_self)
      rcases List.mem_cons.1 hx with rfl | hx
      · exact hb
      · exact bl_trans _ _ _ hb ((List.pairwise_cons.1 hr).1 x hx)
    · rw [h] at hx
      simp only [if_true, List.length_cons, List.drop_succ_cons] at hx
      exact low_drop bs (List.pairwise_cons.1 hr).2 (fun y hy => hn y (List.mem_cons_of_mem _ hy)) x hx
theorem rise_putAt {bs : List En} {e : En} (h : Rise bs) (hn : ∀ x ∈ bs, x.path ≠ e.path) : Rise (putAt bs e) := by
  unfold putAt Rise
  rw [List.pairwise_append]
  refine ⟨h.sublist (List.take_sublist _ _), List.pairwise_cons.2 ⟨fun x hx => low_drop bs h hn x hx, h.sublist (List.drop_sublist _ _)⟩, fun x hx y hy => ?_⟩
  have h1 := low_take bs x hx
  rcases List.mem_cons.1 hy with rfl | hy
  · exact h1
  · exact bl_trans _ _ _ h1 (low_drop bs h hn y hy)
theorem rise_putE {es : List En} {e : En} (h : Rise es) : Rise (putE es e) := by
  refine rise_putAt (h.sublist List.filter_sublist) (fun x hx => ?_)
  have := (List.mem_filter.1 hx).2
  simp only [keepE, Bool.and_eq_true, Bool.not_eq_true', decide_eq_false_iff_not] at this
  exact this.1
theorem right_put {es : List En} {e : En} (h : Right es) (he : entFault e = 0) (hh : homeP es e.path = true) (hl : (putE es e).length ≤ 12) : Right (putE es e) := by
  have hpe := entFault_zero he
  refine ⟨hl, fun x hx => ?_, rise_putE h.rise, fun x hx => ?_⟩
  · rcases mem_putE.1 hx with rfl | ⟨hx, _⟩
    · exact he
    · exact h.ent x hx
  · rw [homeP_iff]
    rcases mem_putE.1 hx with rfl | ⟨hx, hk⟩
    · rcases homeP_iff.1 hh with h0 | ⟨d, hd, hdp, hdk⟩
      · exact .inl h0
      · by_cases h0 : parentP x.path = []
        · exact .inl h0
        · have hb := (parent_above hpe h0).2
          have hlen := below_len hb
          refine .inr ⟨d, mem_putE.2 (.inr ⟨hd, ?_⟩), hdp, hdk⟩
          have h1 : d.path ≠ x.path := fun e => by rw [hdp] at e; rw [e] at hlen; omega
          have h2 : belowB d.path x.path = false := by
            cases h3 : belowB d.path x.path
            · rfl
            · have := below_len h3; rw [hdp] at this; omega
          simp [keepE, h1, h2]
    · have hpx := entFault_zero (h.ent x hx)
      rcases homeP_iff.1 (h.home x hx) with h0 | ⟨d, hd, hdp, hdk⟩
      · exact .inl h0
      · by_cases h0 : parentP x.path = []
        · exact .inl h0
        · have hb := (parent_above hpx h0).2
          rw [← hdp] at hb
          simp only [keepE, Bool.and_eq_true, Bool.not_eq_true', decide_eq_false_iff_not, Bool.or_eq_true] at hk
          by_cases hde : d.path = e.path
          · rcases hk.2 with hk2 | hk2
            · exact .inr ⟨e, mem_putE.2 (.inl rfl), by rw [← hde]; exact hdp, hk2⟩
            · rw [hde] at hb; rw [hb] at hk2; cases hk2
          · refine .inr ⟨d, mem_putE.2 (.inr ⟨hd, ?_⟩), hdp, hdk⟩
            simp only [keepE, Bool.and_eq_true, Bool.not_eq_true', decide_eq_false_iff_not, Bool.or_eq_true]
            refine ⟨hde, hk.2.elim .inl (fun hk2 => .inr ?_)⟩
            cases h3 : belowB d.path e.path
            · rfl
            · rw [below_trans hb h3] at hk2; cases hk2
theorem right_rest {es : List En} {p : Bs} (h : Right es) (hp : faultP p = 0) : Right (restP es p) := by
  refine ⟨Nat.le_trans (restP_len es p) h.len, fun x hx => h.ent x (List.mem_filter.1 hx).1, h.rise.sublist List.filter_sublist, fun x hx => ?_⟩
  obtain ⟨hx, hk⟩ := List.mem_filter.1 hx
  have hpx := entFault_zero (h.ent x hx)
  rw [homeP_iff]
  rcases homeP_iff.1 (h.home x hx) with h0 | ⟨d, hd, hdp, hdk⟩
  · exact .inl h0
  · by_cases h0 : parentP x.path = []
    · exact .inl h0
    · have hb := (parent_above hpx h0).2
      rw [← hdp] at hb
      have hpd := entFault_zero (h.ent d hd)
      refine .inr ⟨d, List.mem_filter.2 ⟨hd, ?_⟩, hdp, hdk⟩
      simp only [atBelow, isBelow_eq hpx hp, Bool.not_eq_true', Bool.or_eq_false_iff, decide_eq_false_iff_not] at hk
      simp only [atBelow, isBelow_eq hpd hp, Bool.not_eq_true', Bool.or_eq_false_iff, decide_eq_false_iff_not]
      refine ⟨fun e => ?_, ?_⟩
      · rw [e] at hb; rw [hb] at hk; exact absurd hk.2 (by simp)
      · cases h3 : belowB d.path p
        · rfl
        · rw [below_trans hb h3] at hk; exact absurd hk.2 (by simp)
theorem right_nil : Right [] := ⟨by simp, fun e he => by simp at he, List.Pairwise.nil, fun e he => by simp at he⟩

def putCodeP (es : List En) (e : En) : Int :=
  if layFaultP es = 0 then (if entFault e = 0 then (if homeP es e.path then (if 12 < (putE es e).length then 2 else 0) else 9) else entFault e) else layFaultP es
def putListP (es : List En) (e : En) : List En := if putCodeP es e = 0 then putE es e else []
theorem putP_zero {es : List En} {e : En} (h : putCodeP es e = 0) : Right es ∧ entFault e = 0 ∧ homeP es e.path = true ∧ (putE es e).length ≤ 12 ∧ Right (putE es e) := by
  unfold putCodeP at h
  by_cases h1 : layFaultP es = 0
  · rw [if_pos h1] at h
    by_cases h2 : entFault e = 0
    · rw [if_pos h2] at h
      cases h3 : homeP es e.path
      · rw [h3] at h; simp at h
      · rw [h3] at h
        by_cases h4 : 12 < (putE es e).length
        · rw [if_pos rfl, if_pos h4] at h; cases h
        · have hR := right_P.1 h1
          exact ⟨hR, h2, rfl, by omega, right_put hR h2 h3 (by omega)⟩
    · rw [if_neg h2] at h; exact absurd h h2
  · rw [if_neg h1] at h; exact absurd h h1

end Go.Proofs.YtolnlfnndnpiiaaGreat

namespace Go.Proofs.YtolnlfnndnpiiaaGreat
set_option linter.unusedVariables false

def Good (es : List En) : Prop := layFaultP es = layFault es
theorem good_many {es : List En} (h : 12 < es.length) : Good es := by rw [Good, layFaultP_many h, layFault_many h]
theorem good_of {es : List En} (h : ¬ 12 < es.length) (hh : layFromH (homeP es) none es = layFromH (homeE es) none es) : Good es := by
  rw [Good, layFaultP, layFault, if_neg h, if_neg h, layFrom_H, hh]
theorem parent_ne {p : Bs} (h : faultP p = 0) (h0 : parentP p ≠ []) : parentP p ≠ p := by
  have := below_len (parent_above h h0).2
  intro e
  rw [e] at this
  omega
end Go.Proofs.YtolnlfnndnpiiaaGreat

namespace Go.Proofs.YtolnlfnndnpiiaaGreat
open Go.RowKit
set_option linter.unusedVariables false

def fnvStep (h z : Int) : Int := bits BinOp.xor IntKind.u32 h z * 16777619 % 4294967296
def fnv (zs : List Int) : Int := zs.foldl fnvStep 2166136261
def digest (zs : List Int) : Int := wrap64 (bits BinOp.xor IntKind.u32 (fnv zs) ((zs.length : Int) * 65536 % 4294967296))
theorem fnv_step {zs : List Int} {k : Nat} {z : Int} (hk : k < zs.length) (hz : zs.getD k 0 = z) : fnv (zs.take (k + 1)) = fnvStep (fnv (zs.take k)) z := by
  unfold fnv
  rw [List.take_succ_eq_append_getElem hk, List.foldl_append]
  simp [List.getD_eq_getElem?_getD, hk] at hz
  simp [hz]

set_option maxHeartbeats 400000 in
theorem specDigestOf_any (a : Option Addr) (cap : Nat) (zs : List Int) (w : World) (h : Reads .u8 w a zs) (hu : U8 zs) (hl : zs.length ≤ 1048576) :
    Calls Tryz.prog 250 #[.slice a zs.length cap] w fun e w' => e = .returned (.int .i64 (digest zs)) ∧ w' = w := by
  go_enter Tryz.func250, Tryz.ntmps250
  go_wp2
  go_loop [3, 4] (fun h i => ∃ k : Nat, k ≤ zs.length ∧ i = .int .i64 k ∧ h = .int .u32 (fnv (zs.take k))) (fun _ i => zs.length - (intOf i).toNat)
  case atStart => exact ⟨0, Nat.zero_le _, rfl, rfl⟩
  case round =>
    obtain ⟨k, hk, rfl, rfl⟩ := hrel
    generalize hx : fnv (zs.take k) = x
    have HX := hide hx
    clear hx
    by_cases hlt : k < zs.length
    · obtain ⟨b, off, rfl, hb, hc⟩ := h (by intro e; simp [e] at hlt)
      have hz01 := hu.get k
      have hc1 := hc k hlt
      generalize hz : zs.getD k 0 = z at hz01 hc1
      have HZ := hide hz
      have HC := hide hc
      clear hc h hz
      go_wp2
      go_round
      case rel => exact ⟨k + 1, by omega, by go_num, by rw [fnv_step hlt HZ.out, HX.out]; rfl⟩
      case measure => simp [intOf]; omega
    · go_wp2
      go_ret
      exact ⟨ret_int (by unfold digest; rw [← HX.out, List.take_of_length_le (by omega)]), rfl⟩

theorem bits_u32 (op : BinOp) (x y : Int) : 0 ≤ bits op .u32 x y ∧ bits op .u32 x y < 4294967296 := by
  unfold bits
  simp only [IntKind.wrap_u32]
  omega
theorem digest_range (zs : List Int) : 0 ≤ digest zs ∧ digest zs ≤ 4294967295 := by
  have h := bits_u32 .xor (fnv zs) ((zs.length : Int) * 65536 % 4294967296)
  unfold digest wrap64
  omega

end Go.Proofs.YtolnlfnndnpiiaaGreat

namespace Go.Proofs.YtolnlfnndnpiiaaGreat
open Go.RowKit
set_option linter.unusedVariables false

theorem reads_of_ownsRow {w : World} {B : Nat} {e : TypeId} {k : IntKind} {g n c : Nat} {zs : List Int} (h : w.ownsRow B e 1 (.slice (some ⟨g, 0, none⟩) n c) n (zs.map (Value.int k))) (hn : n = zs.length) : Own k w (some ⟨g, 0, none⟩) zs := by
  intro hz
  have h0 : 0 < n := by rw [hn]; exact List.length_pos_iff.2 hz
  refine ⟨g, 0, rfl, (h.lt g rfl).2, fun i hi => ⟨?_, h.frozenAt _⟩⟩
  rw [Nat.zero_add, h.cellAt i (by omega)]
  simp [List.getD_eq_getElem?_getD, hi]

theorem Grow2.shape {B : Nat} {w : World} {v : Value} {P : Nat → List Int} {j : Nat} (h : Grow2 B w v P j) : ∃ a c, v = .slice a j c := by
  obtain ⟨A, C, h1, h2, h3⟩ := h
  exact ownsRow_shape h1

def G2 (B T : Nat) (w : World) (v : Value) (P : Nat → List Int) (n : Nat) : Prop :=
  ∃ A C : Nat → Nat, w.ownsRow B 22 1 v n ((List.range n).map fun i => .slice (some ⟨A i, 0, none⟩) (P i).length (C i)) ∧
    (∀ i, i < n → w.ownsRow B 5 1 (.slice (some ⟨A i, 0, none⟩) (P i).length (C i)) (P i).length ((P i).map (Value.int .u8))) ∧
    (∀ i i', i < n → i' < n → A i = A i' → i = i') ∧ (∀ i, i < n → A i < T) ∧ ∀ b, v.ownBlock = some b → b < T
theorem U8.piece {zs : List Int} (h : U8 zs) (i : Nat) : U8 (piece zs i) := fun z hz => h z (List.mem_of_mem_drop (List.mem_of_mem_take hz))

theorem Grow2.at {B : Nat} {w : World} {a : Option Addr} {c : Nat} {P : Nat → List Int} {n j : Nat} (h : Grow2 B w (.slice a n c) P n) (hj : j < n) :
    ∃ g x d, a = some ⟨g, 0, none⟩ ∧ w.cell? ⟨g, j, none⟩ = some (.slice x (P j).length d) ∧ Reads .u8 w x (P j) := by
  obtain ⟨A, C, h1, h2, h3⟩ := h
  rcases h1.2 with ⟨_, h0⟩ | ⟨g, cap, cur, h', hb, hh, _⟩
  · omega
  · simp only [Value.slice.injEq, true_and] at h'
    obtain ⟨rfl, rfl⟩ := h'
    refine ⟨g, _, C j, rfl, ?_, (reads_of_ownsRow (h2 j hj) rfl).reads⟩
    rw [h1.cellAt j (by omega)]
    simp [hj]

end Go.Proofs.YtolnlfnndnpiiaaGreat

namespace Go.Proofs.YtolnlfnndnpiiaaGreat
open Go.RowKit
set_option linter.unusedVariables false

def G1 (B T : Nat) (w : World) (v : Value) (ds : List Int) : Prop :=
  w.ownsRow B 2 1 v ds.length (ds.map (Value.int .i64)) ∧ ∀ b, v.ownBlock = some b → b < T
end Go.Proofs.YtolnlfnndnpiiaaGreat

namespace Go.Proofs.YtolnlfnndnpiiaaGreat
open Go.RowKit
set_option linter.unusedVariables false

def digs (zs : List Int) (j : Nat) : List Int := (List.range j).map fun i => digest (piece zs i)
theorem digs_succ (zs : List Int) (j : Nat) : (digs zs (j + 1)).map (Value.int .i64) = (digs zs j).map (Value.int .i64) ++ [.int .i64 (digest (piece zs j))] := by
  simp [digs, List.range_succ]
theorem Grow2.kept_own {B B' : Nat} {w w' : World} {v v' : Value} {P : Nat → List Int} {n n' size : Nat} {e : TypeId} {xs : List Value} (h : Grow2 B w v P n) (ho : w.ownsRow B' e size v' n' xs) (h1 : e ≠ 22) (h2 : e ≠ 5) (hk : Kept (fun b => v'.ownBlock = some b) w w') : Grow2 B w' v P n := by
  obtain ⟨A, C, k1, k2, k3⟩ := h
  exact ⟨A, C, ownsRow_kept k1 hk (fun b hb hS => ownsRow_apart ho k1 h1 hS hb), fun i hi => ownsRow_kept (k2 i hi) hk (fun b hb hS => ownsRow_apart ho (k2 i hi) h2 hS hb), k3⟩

set_option maxHeartbeats 800000 in
theorem l1Digests_any (a : Option Addr) (cap : Nat) (zs : List Int) (w : World) (h : Reads .u8 w a zs) (hu : U8 zs) (hcap : zs.length ≤ cap) (hl : zs.length ≤ 24) :
    Calls Tryz.prog 215 #[.slice a zs.length cap] w fun e w' => ∃ v, e = .returned v ∧ w'.ownsRow w.heap.size 2 1 v (cut zs).length ((digs zs (cut zs).length).map (Value.int .i64)) ∧ Below w.heap.size w w' := by
  obtain ⟨i1, ki, kz0, kz1, kz2⟩ := info_parts Tryz.infoI64
  have HR := hide h
  have HU := hide hu
  clear h hu
  have hcl : (cut zs).length ≤ 3 := by rw [cut_length]; omega
  go_enter Tryz.func215, Tryz.ntmps215
  go_wp2_with fail
  refine (l1Cut_any a cap zs _ (HR.out.below (below_alloc _ _)) hcap (by omega)).mono ?_
  rintro e w1 ⟨pv, rfl, hG, hb1⟩
  obtain ⟨pa, pc, rfl⟩ := hG.shape
  generalize hN : (cut zs).length = N at *
  have HN := hide hN
  clear hN
  have O1 := hide (ownsRow_below (World.ownsRow_made (base := w.heap.size) (e := 2) (size := 1) w #[] 0 (Nat.le_refl _) (Nat.zero_le _) rfl) hb1)
  have HG := hide (hG.mono (B' := w.heap.size) (by simp))
  have HB := hide (below_next (below_alloc w (.cells #[] 2)) hb1)
  clear hG hb1
  go_wp2_with fail
  go_loopw [3, 5] (fun v i wr => ∃ j : Nat, j ≤ N ∧ i = .int .i64 j ∧ wr.ownsRow w.heap.size 2 1 v j ((digs zs j).map (Value.int .i64)) ∧ Grow2 w.heap.size wr (.slice pa N pc) (piece zs) N ∧ Below w.heap.size w wr) (fun _ i _ => N - (intOf i).toNat)
  case atStart => exact ⟨0, Nat.zero_le _, rfl, O1.out, HG.out, HB.out⟩
  case round =>
    obtain ⟨j, hj, rfl, hown, hG, hbel⟩ := hrel
    by_cases hlt : j < N
    · obtain ⟨g, x, d, rfl, hc0, hr0⟩ := hG.at hlt
      have hpl : (piece zs j).length ≤ 1048576 := by rw [piece_length]; omega
      have hm1 : j + 1 ≤ maxLen := by unfold maxLen; omega
      have hm2 : (j + 1) * 8 ≤ 140737488355328 := by omega
      have hsz := hbel.size
      have HR0 := hide hr0
      have HO := hide hown
      have HGj := hide hG
      have HBj := hide hbel
      clear hr0 hown hG hbel
      go_wp2_with (first | (go_at_call 250; refine (specDigestOf_any _ _ (piece zs j) _ HR0.out (HU.out.piece j) hpl).mono ?_; rintro e w1' ⟨rfl, rfl⟩) | (at_builtin; refine wpList_append_one rfl (.tmp 15) (.tmp 21) 48 rfl w.heap.size 2 i1 (.int .i64 0) 1 8 Tryz.underlying48 ki kz0 kz1 kz2 rfl (by decide) _ _ _ rfl HO.out rfl rfl (by intro u hu; simp at hu; subst hu; rfl) hm1 hm2 hsz ?_; intro v' w2 hown2 hkept; have O2 := hide hown2; have K2 := hide hkept; clear hown2 hkept))
      go_roundw
      case rel => exact ⟨j + 1, by omega, by go_num, by rw [digs_succ]; exact O2.out, HGj.out.kept_own HO.out (by decide) (by decide) K2.out, Kept.below_own HBj.out hsz HO.out K2.out⟩
      case measure => simp [intOf]; omega
    · have hje : j = N := by omega
      subst hje
      go_wp2
      go_ret
      exact ⟨_, rfl, by rw [HN.out]; exact hown, hbel⟩



end Go.Proofs.YtolnlfnndnpiiaaGreat

namespace Go.Proofs.YtolnlfnndnpiiaaGreat
open Go.RowKit Go.Maps
set_option linter.unusedVariables false

theorem Kept.four (w : World) (b : Nat) (u0 u1 u2 u3 : Value) : Kept (fun x => x = b) w ((((w.setCell ⟨b, 0, none⟩ u0).setCell ⟨b, 1, none⟩ u1).setCell ⟨b, 2, none⟩ u2).setCell ⟨b, 3, none⟩ u3) :=
  Kept.setCell (S := fun x => x = b) (p := ⟨b, 3, none⟩) (Kept.setCell (S := fun x => x = b) (p := ⟨b, 2, none⟩) (Kept.two w b 0 1 u0 u1) (fun _ => rfl) u2) (fun _ => rfl) u3
theorem digs_len (zs : List Int) : (digs zs (cut zs).length).length = (cut zs).length := by simp [digs]
def fileE (p : Bs) (zs : List Int) : En := ⟨p, 1, zs.length, digs zs (cut zs).length⟩

set_option maxRecDepth 100000 in
set_option maxHeartbeats 1600000 in
theorem l4File_any (p : Bs) (a : Option Addr) (cap : Nat) (zs : List Int) (w : World) (h : Reads .u8 w a zs) (hu : U8 zs) (hcap : zs.length ≤ cap) (hl : zs.length ≤ 24) :
    Calls Tryz.prog 171 #[.string (str p), .slice a zs.length cap] w fun r w' => ∃ av cv, r = .returned (.agg #[.string (str p), .int .i64 1, .int .i64 zs.length, .slice av (cut zs).length cv]) ∧ w'.ownsRow w.heap.size 2 1 (.slice av (cut zs).length cv) (cut zs).length ((digs zs (cut zs).length).map (Value.int .i64)) ∧ Below w.heap.size w w' := by
  have HD := hide (fun u hb => l1Digests_any a cap zs u (h.below hb) hu hcap hl)
  clear h hu
  go_enter Tryz.func171, Tryz.ntmps171
  have B0 := hide (below_alloc w (.cells #[.string ⟨#[]⟩, .int .i64 0, .int .i64 0, .slice none 0 0] 50))
  have F0 := hide (Four.new w (.string ⟨#[]⟩) (.int .i64 0) (.int .i64 0) (.slice none 0 0) 50)
  have Z0 := hide (show ∀ i, i < 4 → (w.alloc (.cells #[.string ⟨#[]⟩, .int .i64 0, .int .i64 0, .slice none 0 0] 50)).frozen? ⟨w.heap.size, i, none⟩ = false from fun i hi => by simp)
  go_wp2_with fail
  refine (HD.out _ B0.out).mono ?_
  rintro r w1 ⟨v, rfl, hG, hb1⟩
  obtain ⟨av, cv, rfl⟩ := ownsRow_shape hG
  have hlt0 := F0.out.lt
  have B1 := hide (below_next B0.out hb1)
  obtain ⟨f0, f1, f2, f3⟩ := F0.out.below hb1
  have z0 := (hb1.frozen (p := ⟨w.heap.size, 0, none⟩) hlt0).trans (Z0.out 0 (by omega))
  have z1 := (hb1.frozen (p := ⟨w.heap.size, 1, none⟩) hlt0).trans (Z0.out 1 (by omega))
  have z2 := (hb1.frozen (p := ⟨w.heap.size, 2, none⟩) hlt0).trans (Z0.out 2 (by omega))
  have z3 := (hb1.frozen (p := ⟨w.heap.size, 3, none⟩) hlt0).trans (Z0.out 3 (by omega))
  have GG := hide hG
  clear hG hb1 B0 F0 Z0
  go_wp2_with fail
  refine bodyPost_ret (v := .agg #[.string (str p), .int .i64 1, .int .i64 zs.length, .slice av (cut zs).length cv]) (by simp [results, Tryz.results171, go_sem, f0, f1, f2, f3]) rfl ⟨av, cv, rfl, ?_, (((B1.out.setCell (Nat.le_refl _) _).setCell (Nat.le_refl _) _).setCell (Nat.le_refl _) _).setCell (Nat.le_refl _) _⟩
  exact ownsRow_mono (ownsRow_kept (S := fun b => b = w.heap.size) GG.out (Kept.four _ _ _ _ _ _) (fun b hb e => by have := (GG.out.lt b hb).1; omega)) (by omega)

end Go.Proofs.YtolnlfnndnpiiaaGreat

