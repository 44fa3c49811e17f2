/-
  Texts put together: EntC EntA EntW EntP IteC IteD IteE EntQ LayR LayG Digest Parts IntsR Digests EntI TreL MerL OvrL EntS EntX TreA SeeA SeeB.
-/
import Derived.Test.YtjkmbicedbdifaaGreatJ1
import Derived.Deep.SlicePairs
import Derived.ProofKit
import Derived.ChangeOld
import Derived.Maps.OwnSet
import Derived.DeepKeys5
import Derived.Deep.RegionLaw
namespace Go.Proofs.YtjkmbicedbdifaaGreat
open Go.RowKit Go.Maps
set_option linter.unusedVariables false
attribute [local go_sem ↓] Go.wp_at_zero Go.wp_at_succ

/-- append(out, x...): out owned and made, x read, whether it has memory or not. -/
theorem wpList_append_take {P : Program} {wr : World} {ops : Array Oper} {rest : List Oper} {o : Oper} {a : Act} {Q : Exit → Act → World → Prop} (hgd : o.guard = none) (s x : Operand) (t : TypeId)
    (ho : o.op = .call { callee := .builtin .append, args := #[s, x], argTypes := #[t, t] })
    (base : Nat) (e : TypeId) (i : TypeInfo) (k : IntKind) (bytes : Nat) (hu : P.underlying t = some (.slice e)) (hi : P.info? e = some i) (hz : i.zero = some (.int k 0))
    (hsize : i.size = 1) (hby : i.bytes = bytes) (g c n : Nat) (ys : List Int) (hs : a.eval s = .slice (some ⟨g, 0, none⟩) n c) (hown : wr.ownsRow base e 1 (.slice (some ⟨g, 0, none⟩) n c) n (ys.map (Value.int k)))
    (xa : Option Addr) (m cap : Nat) (zs : List Int) (hx : a.eval x = .slice xa m cap) (hm : m = zs.length) (hr : Reads k wr xa zs)
    (N : Nat) (hN : n + m = N) (h63 : n + m ≤ maxLen) (hbytes : (n + m) * bytes ≤ 140737488355328) (hbase : base ≤ wr.heap.size)
    (h : ∀ av cv w', w'.ownsRow base e 1 (.slice av N cv) N ((ys ++ zs).map (Value.int k)) → Kept (fun b => b = g) wr w' → wpList P ops Q rest (a.put o.dst (.slice av N cv)) w') :
    wpList P ops Q (o :: rest) a wr := by
  subst hN
  cases xa with
  | some ad =>
    refine wpList_append_own _ hgd s x t ho base e i (.int k 0) 1 bytes hu hi hz hsize hby rfl (by decide) _ n _ hs hown ad m cap (zs.map (Value.int k)) hx (by simp [hm]) (fun j u hj => ?_) (ints_one _ _) h63 hbytes hbase ?_
    · have h0 : zs ≠ [] := fun e => by subst e; simp at hj
      obtain ⟨b, off, e1, hb, hc⟩ := hr h0
      simp only [Option.some.injEq] at e1
      subst e1
      exact reads_news hc j u hj
    · intro v' w' ho' hg _
      rw [← List.map_append] at ho'
      obtain ⟨av, cv, rfl⟩ := ownsRow_shape ho'
      exact h av cv w' ho' ⟨hg.os, hg.tape, hg.output, hg.size, fun q hq hn => hg.block q hq (fun e => hn (by simp [Value.ownBlock] at e; exact e))⟩
  | none =>
    have h0 : zs = [] := by
      by_cases h0 : zs = []
      · exact h0
      · obtain ⟨b, off, e1, _⟩ := hr h0; cases e1
    subst h0
    simp only [List.length_nil] at hm
    subst hm
    have hc : n ≤ c := ownsRow_cap hown
    have hrun : (Builtin.append_ #[t, t] o.type #[.slice (some ⟨g, 0, none⟩) n c, .slice none 0 cap]).run P wr = .ok (.slice (some ⟨g, 0, none⟩) (n + 0) c) wr := by
      simp [Builtin.append_, run_underlying hu, sizeOf, typeInfo, hi, Builtin.lenOf, Builtin.firstCells, storeCells, hc]
    refine wpList_plain hgd fun K hK => ?_
    unfold Oper.wp execOp
    simp only [ho, resolve, invoke, builtin, Sem.run_bind, Sem.run_pure, Result.andThen_ok, List.map_toArray, List.map_cons, List.map_nil, hs, hx, hrun]
    exact hK _ _ (h _ _ wr (by simpa using hown) (Kept.refl _ _))

/-- append(out, x) behind a walk that wrote the new block's number its own way. -/
theorem wpList_append_put {P : Program} {wr : World} {news : Array Value} {ops : Array Oper} {rest : List Oper} {o : Oper} {a : Act} {Q : Exit → Act → World → Prop} (hgd : o.guard = none) (s x : Operand) (t : TypeId)
    (ho : o.op = .call { callee := .builtin .append, args := #[s, x], argTypes := #[t, t] })
    (base : Nat) (e : TypeId) (i : TypeInfo) (z : Value) (size bytes : Nat) (ht : P.underlying t = some (.slice e)) (hi : P.info? e = some i) (hz : i.zero = some z)
    (hsize : i.size = size) (hby : i.bytes = bytes) (hzs : z.cells.size = size) (hsz : 0 < size)
    (v : Value) (n : Nat) (xs : List Value) (hs : a.eval s = v) (hown : wr.ownsRow base e size v n xs)
    (H : Nat) (hH : wr.heap.size = H) (hx : a.eval x = .slice (some ⟨H, 0, none⟩) 1 1) (hl : news.size = size) (h1 : ∀ u ∈ news.toList, u.oneCell' = true)
    (h63 : n + 1 ≤ maxLen) (hbytes : (n + 1) * bytes ≤ 140737488355328) (hbase : base ≤ wr.heap.size)
    (h : ∀ av cv w', w'.ownsRow base e size (.slice av (n + 1) cv) (n + 1) (xs ++ news.toList) → Kept (fun b => v.ownBlock = some b) wr w' → wpList P ops Q rest (a.put o.dst (.slice av (n + 1) cv)) w') :
    wpList P ops Q (o :: rest) a (wr.alloc (.cells news e)) := by
  subst hH
  refine wpList_append_one hgd s x t ho base e i z size bytes ht hi hz hsize hby hzs hsz v n xs hs hown hx hl h1 h63 hbytes hbase fun v' w' h2 h3 => ?_
  obtain ⟨av, cv, rfl⟩ := ownsRow_shape h2
  exact h av cv w' h2 h3

theorem row_addr {w : World} {B : Nat} {e : TypeId} {size n : Nat} {a : Option Addr} {c : Nat} {xs : List Value} (h : w.ownsRow B e size (.slice a n c) n xs) (hn : 0 < n ∨ ∃ g, (Value.slice a n c).ownBlock = some g) : ∃ g, a = some ⟨g, 0, none⟩ ∧ n ≤ c := by
  rcases h.2 with ⟨h', h0⟩ | ⟨g, cap, cur, h', _, _, hnc, _⟩
  · simp only [Value.slice.injEq] at h'
    rcases hn with hn | ⟨g, hg⟩
    · omega
    · rw [h'.1] at hg; simp [Value.ownBlock] at hg
  · simp only [Value.slice.injEq, true_and] at h'
    exact ⟨g, h'.1, by rw [h'.2]; exact hnc⟩
theorem GE.addr {B T : Nat} {w : World} {a : Option Addr} {n c : Nat} {es : List En} (h : GE B T w (.slice a n c) es) (hn : n = es.length) (ho : 0 < n ∨ ∃ g, (Value.slice a n c).ownBlock = some g) : ∃ g, a = some ⟨g, 0, none⟩ ∧ n ≤ c := by
  subst hn
  obtain ⟨rs, _, h1, _⟩ := h
  exact row_addr h1 ho
theorem GE.made (w : World) : GE w.heap.size (w.alloc (.cells #[] 40)).heap.size (w.alloc (.cells #[] 40)) (.slice (some ⟨w.heap.size, 0, none⟩) 0 0) [] :=
  ⟨[], rfl, World.ownsRow_made w #[] 0 (Nat.le_refl _) (Nat.zero_le _) rfl, fun r hr => by simp at hr, List.Pairwise.nil, fun r hr => by simp at hr, fun x hx => by simp [Value.ownBlock] at hx; subst hx; simp⟩
theorem GE.shape {B T : Nat} {w : World} {v : Value} {es : List En} (h : GE B T w v es) : ∃ a c, v = .slice a es.length c := h.se.shape
theorem take_len {α : Type} {es : List α} {k : Nat} (h : k ≤ es.length) : (es.take k).length = k := by rw [List.length_take]; omega

/-- What one round of the copy leaves. -/
theorem copy_step {wr w1 : World} {e : En} {x av : Option Addr} {cc cv : Nat} (hown : w1.ownsRow (wr.heap.size + 1) 2 1 (.slice av e.chunks.length cv) e.chunks.length (e.chunks.map (Value.int .i64)))
    (hk : Kept (fun b => b = wr.heap.size + 1) ((wr.alloc (.cells #[.string (str e.path), .int .i64 e.kind, .int .i64 e.size, .slice x e.chunks.length cc] 40)).alloc (.cells #[] 2)) w1) :
    (w1.cell? ⟨wr.heap.size, 0, none⟩ = some (.string (str e.path)) ∧ w1.cell? ⟨wr.heap.size, 1, none⟩ = some (.int .i64 e.kind) ∧ w1.cell? ⟨wr.heap.size, 2, none⟩ = some (.int .i64 e.size) ∧ w1.cell? ⟨wr.heap.size, 3, none⟩ = some (.slice x e.chunks.length cc) ∧ w1.frozen? ⟨wr.heap.size, 3, none⟩ = false) ∧
    Below wr.heap.size wr (w1.setCell ⟨wr.heap.size, 3, none⟩ (.slice av e.chunks.length cv)) ∧
    (w1.setCell ⟨wr.heap.size, 3, none⟩ (.slice av e.chunks.length cv)).ownsRow wr.heap.size 2 1 (.slice av e.chunks.length cv) e.chunks.length (e.chunks.map (Value.int .i64)) := by
  have hF := (Four.new wr (.string (str e.path)) (.int .i64 e.kind) (.int .i64 e.size) (.slice x e.chunks.length cc) 40).below (below_alloc _ (.cells #[] 2))
  have hfz : ((wr.alloc (.cells #[.string (str e.path), .int .i64 e.kind, .int .i64 e.size, .slice x e.chunks.length cc] 40)).alloc (.cells #[] 2)).frozen? ⟨wr.heap.size, 3, none⟩ = false := by
    rw [(below_alloc _ (.cells #[] 2)).frozen (p := ⟨wr.heap.size, 3, none⟩) (by simp)]
    simp
  have hBB : Below wr.heap.size wr ((wr.alloc (.cells #[.string (str e.path), .int .i64 e.kind, .int .i64 e.size, .slice x e.chunks.length cc] 40)).alloc (.cells #[] 2)) := below_next (below_alloc _ _) (below_alloc _ _)
  have hlt := hF.lt
  generalize (wr.alloc (.cells #[.string (str e.path), .int .i64 e.kind, .int .i64 e.size, .slice x e.chunks.length cc] 40)).alloc (.cells #[] 2) = W at *
  obtain ⟨f0, f1, f2, f3⟩ := hF
  have hne : ¬ (wr.heap.size = wr.heap.size + 1) := by omega
  refine ⟨⟨(hk.cell (p := ⟨wr.heap.size, 0, none⟩) hlt hne).trans f0, (hk.cell (p := ⟨wr.heap.size, 1, none⟩) hlt hne).trans f1, (hk.cell (p := ⟨wr.heap.size, 2, none⟩) hlt hne).trans f2, (hk.cell (p := ⟨wr.heap.size, 3, none⟩) hlt hne).trans f3, (hk.frozen (p := ⟨wr.heap.size, 3, none⟩) hlt hne).trans hfz⟩, ?_, ?_⟩
  · exact (hBB.trans (hk.below hBB.size (fun k hk h => by omega))).setCell (p := ⟨wr.heap.size, 3, none⟩) (Nat.le_refl _) _
  · refine ownsRow_mono (base := wr.heap.size + 1) ?_ (by omega)
    exact ownsRow_kept (S := fun b => b = wr.heap.size) hown (Kept.setCell (S := fun b => b = wr.heap.size) (p := ⟨wr.heap.size, 3, none⟩) (Kept.refl _ w1) (fun _ => rfl) _) (fun b hb hS => by have := (hown.lt b hb).1; omega)

set_option maxRecDepth 100000 in
set_option maxHeartbeats 3200000 in
theorem l4Copy_any (a : Option Addr) (c n : Nat) (es : List En) (w : World) (h : RdE w a es) (hn : n = es.length) (hl : es.length ≤ 1048576) (hs : SmallE es) :
    Calls Tryz.prog 113 #[.slice a n c] w fun r w' => ∃ g cv, r = .returned (.slice (some ⟨g, 0, none⟩) n cv) ∧ n ≤ cv ∧ GE w.heap.size w'.heap.size w' (.slice (some ⟨g, 0, none⟩) n cv) es ∧ Below w.heap.size w w' := by
  subst hn
  obtain ⟨i1, ki, kz0, kz1, kz2⟩ := info_parts Tryz.infoEn
  obtain ⟨i0, hi0, hz0, hz1, hz2⟩ := info_parts Tryz.infoI64
  have HA := hide h
  have HS := hide hs
  clear h hs
  go_enter Tryz.func113, Tryz.ntmps113
  go_wp2_with fail
  go_loopw [3, 4] (fun v i wr => ∃ j : Nat, j ≤ es.length ∧ i = .int .i64 j ∧ Hid (GE w.heap.size wr.heap.size wr v (es.take j)) ∧ Hid (∃ g, v.ownBlock = some g) ∧ Hid (Below w.heap.size w wr)) (fun _ i _ => es.length - (intOf i).toNat)
  case atStart => exact ⟨0, Nat.zero_le _, rfl, hide (GE.made w), hide ⟨_, rfl⟩, hide (below_alloc _ _)⟩
  case round =>
    obtain ⟨j, hj, rfl, HG, HOb, HW⟩ := hrel
    obtain ⟨lv, lc, hv⟩ := HG.out.shape
    rw [take_len hj] at hv
    subst hv
    have HA1 := hide (HA.out.below HW.out)
    have hsz := HW.out.size
    by_cases hlt : j < es.length
    · obtain ⟨b, off, e, x, cc, rfl, hb, he, c0, c1, c2, c3, hr⟩ := HA1.out.at hlt
      have HX := hide he
      have HRc := hide hr
      have hsm := HS.out e (List.mem_of_getElem? he)
      clear he hr
      obtain ⟨rs, g1, g2, g3, g4, g5, g6⟩ := HG.out
      have G1 := hide g1
      have G2 := hide g2
      have G3 := hide g3
      have G4 := hide g4
      clear g1 g2 g3 g4 g5 g6 HG
      have hj1 : (es.take j).length = j := take_len hj
      have OWN0 : Hid (((wr.alloc (.cells #[.string (str e.path), .int .i64 e.kind, .int .i64 e.size, .slice x e.chunks.length cc] 40)).alloc (.cells #[] 2)).ownsRow (wr.heap.size + 1) 2 1 (.slice (some ⟨wr.heap.size + 1, 0, none⟩) 0 0) 0 (([] : List Int).map (Value.int .i64))) := hide (by
        have := World.ownsRow_made (base := wr.heap.size + 1) (e := 2) (size := 1) (wr.alloc (.cells #[.string (str e.path), .int .i64 e.kind, .int .i64 e.size, .slice x e.chunks.length cc] 40)) #[] 0 (by simp) (Nat.zero_le _) rfl
        simpa using this)
      have RD0 : Hid (Reads .i64 ((wr.alloc (.cells #[.string (str e.path), .int .i64 e.kind, .int .i64 e.size, .slice x e.chunks.length cc] 40)).alloc (.cells #[] 2)) x e.chunks) := HRc.out.below (below_next (below_alloc _ _) (below_alloc _ _))
      have hm0 : 0 + e.chunks.length ≤ maxLen := by unfold maxLen; omega
      have hm0' : (0 + e.chunks.length) * 8 ≤ 140737488355328 := by omega
      have hm1 : j + 1 ≤ maxLen := by unfold maxLen; omega
      have hm1' : (j + 1) * 56 ≤ 140737488355328 := by omega
      have G2' : Hid (wr.ownsRow w.heap.size 40 4 (.slice lv j lc) j (rowR rs)) := by have := G2.out; rw [hj1] at this; exact this
      have HJ := hide hj1
      clear hj1
      go_wp2_with (first
        | (at_builtin; refine wpList_append_take rfl (.tmp 17) (.tmp 19) 38 rfl (wr.heap.size + 1) 2 i0 .i64 8 Tryz.underlying38 hi0 hz0 hz1 hz2 (wr.heap.size + 1) 0 0 [] rfl OWN0.out x e.chunks.length cc e.chunks rfl rfl RD0.out e.chunks.length (by simp) hm0 hm0' (by simp) ?_; intro av cv w1 hown1 hk1; obtain ⟨⟨f0, f1, f2, f3, f4⟩, hB1, hO1⟩ := copy_step hown1 hk1; have B1 := hide hB1; have O1 := hide hO1; have O2 := hide (ownsRow_below G2'.out hB1); have hs1 := hB1.size; have hH1 : (w1.setCell ⟨wr.heap.size, 3, none⟩ (.slice av e.chunks.length cv)).heap.size = w1.heap.size := (by simp [World.setCell]); clear hown1 hk1 hB1 hO1)
        | (at_builtin; refine wpList_append_put rfl (.tmp 22) (.tmp 24) 30 rfl w.heap.size 40 i1 (.agg #[.string ⟨#[]⟩, .int .i64 0, .int .i64 0, .slice none 0 0]) 4 56 Tryz.underlying30 ki kz0 kz1 kz2 rfl (by decide) _ _ _ rfl O2.out _ hH1 rfl rfl (by intro u hu; simp at hu; rcases hu with rfl | rfl | rfl | rfl <;> rfl) hm1 hm1' (by omega) ?_; intro av3 cv3 w3 hown2 hkept; have O3 := hide hown2; have K3 := hide hkept; clear hown2 hkept))
      go_roundw
      case rel =>
        refine ⟨j + 1, by omega, by go_num, hide ?_, hide ?_, hide ?_⟩
        · rw [take_snoc_at HX.out]
          exact GE.push G1.out G2.out G3.out G4.out hsz B1.out O1.out (by rw [HJ.out]; exact O3.out) K3.out
        · obtain ⟨g5, h5, _⟩ := row_addr O3.out (.inl (by omega))
          exact ⟨g5, by rw [h5]; rfl⟩
        · exact (below_next HW.out B1.out).trans (K3.out.below (by omega) (fun k hk hx => by have := (G2'.out.lt k hx).1; omega))
      case measure => simp [intOf]; omega
    · have hje : j = es.length := by omega
      have HE := hide (show es.take j = es from List.take_of_length_le (by omega))
      obtain ⟨g5, h5, h6⟩ := HG.out.addr (take_len hj).symm (.inr HOb.out)
      subst h5
      have HG2 : Hid (GE w.heap.size wr.heap.size wr (.slice (some ⟨g5, 0, none⟩) j lc) es) := by have := HG.out; rw [HE.out] at this; exact this
      clear HG HE
      subst hje
      go_wp2_with fail
      go_ret
      exact ⟨_, _, rfl, h6, HG2.out, HW.out⟩

end Go.Proofs.YtjkmbicedbdifaaGreat

namespace Go.Proofs.YtjkmbicedbdifaaGreat
open Go.RowKit Go.Maps
set_option linter.unusedVariables false
attribute [local go_sem ↓] Go.wp_at_zero Go.wp_at_succ

theorem RdE.one {w : World} {b off : Nat} {es : List En} {k : Nat} {e : En} (h : RdE w (some ⟨b, off, none⟩) es) (he : es[k]? = some e) : RdE w (some ⟨b, off + k * 4, none⟩) [e] := by
  intro _
  have hk := (List.getElem?_eq_some_iff.1 he).1
  obtain ⟨b', off', A, C, e1, hb, hc⟩ := h (by intro e; simp [e] at hk)
  simp only [Option.some.injEq, Addr.mk.injEq, and_true] at e1
  obtain ⟨rfl, rfl⟩ := e1
  refine ⟨b, off + k * 4, fun _ => A k, fun _ => C k, rfl, hb, fun i x hx => ?_⟩
  have hi : i = 0 := by
    have := (List.getElem?_eq_some_iff.1 hx).1
    simp at this
    exact this
  subst hi
  simp only [List.getElem?_cons_zero, Option.some.injEq] at hx
  subst hx
  simp only [Nat.zero_mul, Nat.add_zero]
  exact hc k e he

/-- A result: a code and a layer of its own. -/
def ResE (q : Int) (es : List En) (w : World) (r : Ending) (w' : World) : Prop :=
  ∃ av cv, r = .returned (.agg #[.int .i64 q, .slice av es.length cv]) ∧ GE w.heap.size w'.heap.size w' (.slice av es.length cv) es ∧ Below w.heap.size w w'
theorem ResE.of {q : Int} {es : List En} {w w2 w3 : World} {B b n : Nat} {av : Option Addr} {cv : Nat} {u v : Value} (hB : b < B) (hw : w.heap.size ≤ b) (hn : n = es.length) (hG : GE B w3.heap.size w3 (.slice av n cv) es) (hb : Below w.heap.size w w3) :
    ResE q es w (.returned (.agg #[.int .i64 q, .slice av n cv])) ((w3.setCell ⟨b, 0, none⟩ u).setCell ⟨b, 1, none⟩ v) := by
  subst hn
  refine ⟨av, cv, rfl, ?_, (hb.setCell hw _).setCell hw _⟩
  have hs : ((w3.setCell ⟨b, 0, none⟩ u).setCell ⟨b, 1, none⟩ v).heap.size = w3.heap.size := by simp [World.setCell]
  rw [hs]
  exact (hG.kept (Kept.two w3 b 0 1 u v) (fun x h1 _ h2 => by omega)).mono (by omega)
theorem ResE.bad {q : Int} {w w3 : World} {b : Nat} {u v : Value} (hw : w.heap.size ≤ b) (hb : Below w.heap.size w w3) :
    ResE q [] w (.returned (.agg #[.int .i64 q, .slice none 0 0])) ((w3.setCell ⟨b, 0, none⟩ u).setCell ⟨b, 1, none⟩ v) :=
  ⟨none, 0, rfl, GE.nil _ _ _, (hb.setCell hw _).setCell hw _⟩


/-- What EntryAt answers. -/
def findCode (es : List En) (p : Bs) : Int := if askE es p = 0 then (match atE es p with | some _ => 0 | none => 4) else askE es p
def findList (es : List En) (p : Bs) : List En := if askE es p = 0 then (match atE es p with | some k => (es[k]?).toList | none => []) else []

end Go.Proofs.YtjkmbicedbdifaaGreat

namespace Go.Proofs.YtjkmbicedbdifaaGreat
open Go.RowKit Go.Maps
set_option linter.unusedVariables false
attribute [local go_sem ↓] Go.wp_at_zero Go.wp_at_succ

/-- Is an entry dropped with a path? -/
def goesE (p : Bs) (also : Bool) (e : En) : Bool := belowB e.path p || (also && decide (e.path = p))
def restE (es : List En) (p : Bs) (also : Bool) : List En := es.filter fun e => !(goesE p also e)
theorem restE_take_in {es : List En} {p : Bs} {also : Bool} {k : Nat} {e : En} (he : es[k]? = some e) (h : goesE p also e = false) : restE (es.take (k + 1)) p also = restE (es.take k) p also ++ [e] := by
  rw [take_snoc_at he]; simp [restE, h]
theorem restE_take_out {es : List En} {p : Bs} {also : Bool} {k : Nat} {e : En} (he : es[k]? = some e) (h : goesE p also e = true) : restE (es.take (k + 1)) p also = restE (es.take k) p also := by
  rw [take_snoc_at he]; simp [restE, h]
theorem restE_len (es : List En) (p : Bs) (also : Bool) : (restE es p also).length ≤ es.length := List.length_filter_le _ _
theorem restE_small {es : List En} (h : SmallE es) (p : Bs) (also : Bool) : SmallE (restE es p also) := fun e he => h e (List.mem_filter.1 he).1
theorem SE.made (w : World) : SE w.heap.size (w.alloc (.cells #[] 40)) (.slice (some ⟨w.heap.size, 0, none⟩) 0 0) [] := (GE.made w).se

/-- v is a row of entries made since w0, whose chunks were read then. -/
def LE (w0 w : World) (v : Value) (es : List En) : Prop :=
  ∃ rs : List Rw, rs.map Rw.e = es ∧ w.ownsRow w0.heap.size 40 4 v es.length (rowR rs) ∧ ∀ r ∈ rs, Reads .i64 w0 r.a r.e.chunks
theorem LE.se {w0 w : World} {v : Value} {es : List En} (h : LE w0 w v es) (hb : Below w0.heap.size w0 w) : SE w0.heap.size w v es := by
  obtain ⟨rs, he, h1, h2⟩ := h
  exact ⟨rs, he, h1, fun r hr => (h2 r hr).below hb⟩
theorem LE.shape {w0 w : World} {v : Value} {es : List En} (h : LE w0 w v es) : ∃ a c, v = .slice a es.length c := by
  obtain ⟨rs, _, h1, _⟩ := h
  exact ownsRow_shape h1
theorem LE.made (w : World) : LE w (w.alloc (.cells #[] 40)) (.slice (some ⟨w.heap.size, 0, none⟩) 0 0) [] :=
  ⟨[], rfl, World.ownsRow_made w #[] 0 (Nat.le_refl _) (Nat.zero_le _) rfl, fun r hr => by simp at hr⟩
theorem LE.push {w0 w2 : World} {v' : Value} {es : List En} {rs : List Rw} {e : En} {a : Option Addr} {c m : Nat} (he : rs.map Rw.e = es) (hm : m = es.length)
    (h2 : ∀ r ∈ rs, Reads .i64 w0 r.a r.e.chunks) (hr : Reads .i64 w0 a e.chunks)
    (hv' : w2.ownsRow w0.heap.size 40 4 v' (m + 1) (rowR rs ++ cellsR ⟨e, a, c⟩)) : LE w0 w2 v' (es ++ [e]) := by
  subst hm
  refine ⟨rs ++ [⟨e, a, c⟩], by rw [List.map_append, he]; rfl, ?_, fun r hx => ?_⟩
  · rw [rowR_append, List.length_append]
    simpa [rowR] using hv'
  · rcases List.mem_append.1 hx with hx | hx
    · exact h2 r hx
    · simp only [List.mem_singleton] at hx
      subst hx
      exact hr

set_option maxRecDepth 100000 in
set_option maxHeartbeats 3200000 in
theorem l4Without_any (a : Option Addr) (c n : Nat) (es : List En) (p : Bs) (also : Bool) (w : World) (h : RdE w a es) (hn : n = es.length) (hl : es.length ≤ 1048576) (hs : SmallE es) (hp : p.length ≤ 1048576) :
    Calls Tryz.prog 147 #[.slice a n c, .string (str p), .bool also] w fun r w' => ∃ g cv, r = .returned (.slice (some ⟨g, 0, none⟩) (restE es p also).length cv) ∧ GE w.heap.size w'.heap.size w' (.slice (some ⟨g, 0, none⟩) (restE es p also).length cv) (restE es p also) ∧ Below w.heap.size w w' := by
  subst hn
  obtain ⟨i1, ki, kz0, kz1, kz2⟩ := info_parts Tryz.infoEn
  have HA := hide h
  have HS := hide hs
  clear h hs
  cases also
  case false =>
    go_enter Tryz.func147, Tryz.ntmps147
    go_wp2_with fail
    go_loopw [7, 8] (fun v i wr => ∃ j : Nat, j ≤ es.length ∧ i = .int .i64 j ∧ Hid (LE w wr v (restE (es.take j) p false)) ∧ Hid (∃ g, v.ownBlock = some g) ∧ Hid (Below w.heap.size w wr)) (fun _ i _ => es.length - (intOf i).toNat)
    case atStart => exact ⟨0, Nat.zero_le _, rfl, hide (LE.made w), hide ⟨_, rfl⟩, hide (below_alloc _ _)⟩
    case round =>
      obtain ⟨j, hj, rfl, HG, HOb, HW⟩ := hrel
      obtain ⟨lv, lc, rfl⟩ := HG.out.shape
      have hrl := restE_len (es.take j) p false
      have htl := take_len hj
      have hsz := HW.out.size
      by_cases hlt : j < es.length
      · obtain ⟨b, off, e, x, cc, rfl, hb, he, c0, c1, c2, c3, hr⟩ := HA.out.at hlt
        have HX := hide he
        have HRc := hide hr
        have hsm := HS.out e (List.mem_of_getElem? he)
        have c0 := (HW.out.cell (p := ⟨b, off + j * 4, none⟩) hb).trans c0
        have c1 := (HW.out.cell (p := ⟨b, off + j * 4 + 1, none⟩) hb).trans c1
        have c2 := (HW.out.cell (p := ⟨b, off + j * 4 + 2, none⟩) hb).trans c2
        have c3 := (HW.out.cell (p := ⟨b, off + j * 4 + 3, none⟩) hb).trans c3
        have hm1 : (restE (es.take j) p false).length + 1 ≤ maxLen := by unfold maxLen; omega
        have hm1' : ((restE (es.take j) p false).length + 1) * 56 ≤ 140737488355328 := by omega
        clear he hr htl hrl
        cases hbl : belowB e.path p
        · have HBl := hide hbl
          clear hbl
          have HO := hide (restE_take_in HX.out (show goesE p false e = false from by simp [goesE, HBl.out]))
          obtain ⟨rs, g1, g2, g3⟩ := HG.out
          have G1 := hide g1
          have G2 := hide g2
          have G3 := hide g3
          clear g1 g2 g3 HG
          go_wp2_with (first | (go_at_call 130; refine (l3Below_any _ _ _ (by rw [str_size]; omega) (by rw [str_size]; omega)).mono ?_; rintro r w' ⟨rfl, rfl⟩; rw [str_data, str_data, HBl.out]) | (at_builtin; refine wpList_append_put rfl (.tmp 35) (.tmp 40) 30 rfl w.heap.size 40 i1 (.agg #[.string ⟨#[]⟩, .int .i64 0, .int .i64 0, .slice none 0 0]) 4 56 Tryz.underlying30 ki kz0 kz1 kz2 rfl (by decide) _ _ _ rfl G2.out _ rfl rfl rfl (by intro u hu; simp at hu; rcases hu with rfl | rfl | rfl | rfl <;> rfl) hm1 hm1' (by omega) ?_; intro av3 cv3 w3 hown2 hkept; have O3 := hide hown2; have K3 := hide hkept; clear hown2 hkept))
          go_roundw
          case rel =>
            refine ⟨j + 1, by omega, by go_num, hide ?_, hide ?_, hide ?_⟩
            · rw [HO.out]
              exact LE.push G1.out rfl G3.out HRc.out O3.out
            · obtain ⟨g5, h5, _⟩ := row_addr O3.out (.inl (by omega))
              exact ⟨g5, by rw [h5]; rfl⟩
            · exact HW.out.trans (K3.out.below (by omega) (fun k hk hx => by have := (G2.out.lt k hx).1; omega))
          case measure => simp [intOf]; omega
        · have HBl := hide hbl
          clear hbl
          have HO := hide (restE_take_out HX.out (show goesE p false e = true from by simp [goesE, HBl.out]))
          go_wp2_with (go_at_call 130; refine (l3Below_any _ _ _ (by rw [str_size]; omega) (by rw [str_size]; omega)).mono ?_; rintro r w' ⟨rfl, rfl⟩; rw [str_data, str_data, HBl.out])
          go_roundw
          case rel => exact ⟨j + 1, by omega, by go_num, hide (by rw [HO.out]; exact HG.out), HOb, HW⟩
          case measure => simp [intOf]; omega
      · have hE : es.take j = es := List.take_of_length_le (by omega)
        rw [hE] at HG hrl htl ⊢
        clear hE
        have HC := hide (l4Copy_any lv lc (restE es p false).length (restE es p false) wr ((HG.out.se HW.out).rd) rfl (by omega) (restE_small HS.out p false))
        clear HG hrl htl
        go_wp2_with fail
        refine HC.out.mono ?_
        rintro r w3 ⟨g, cv, rfl, hcv, hG, hb3⟩
        have GG := hide (hG.mono hsz)
        have B3 := hide (below_next HW.out hb3)
        clear hG hb3
        go_wp2_with fail
        go_ret
        exact ⟨_, _, rfl, GG.out, B3.out⟩
  case true =>
    go_enter Tryz.func147, Tryz.ntmps147
    go_wp2_with fail
    go_loopw [7, 8] (fun v i wr => ∃ j : Nat, j ≤ es.length ∧ i = .int .i64 j ∧ Hid (LE w wr v (restE (es.take j) p true)) ∧ Hid (∃ g, v.ownBlock = some g) ∧ Hid (Below w.heap.size w wr)) (fun _ i _ => es.length - (intOf i).toNat)
    case atStart => exact ⟨0, Nat.zero_le _, rfl, hide (LE.made w), hide ⟨_, rfl⟩, hide (below_alloc _ _)⟩
    case round =>
      obtain ⟨j, hj, rfl, HG, HOb, HW⟩ := hrel
      obtain ⟨lv, lc, rfl⟩ := HG.out.shape
      have hrl := restE_len (es.take j) p true
      have htl := take_len hj
      have hsz := HW.out.size
      by_cases hlt : j < es.length
      · obtain ⟨b, off, e, x, cc, rfl, hb, he, c0, c1, c2, c3, hr⟩ := HA.out.at hlt
        have HX := hide he
        have HRc := hide hr
        have hsm := HS.out e (List.mem_of_getElem? he)
        have c0 := (HW.out.cell (p := ⟨b, off + j * 4, none⟩) hb).trans c0
        have c1 := (HW.out.cell (p := ⟨b, off + j * 4 + 1, none⟩) hb).trans c1
        have c2 := (HW.out.cell (p := ⟨b, off + j * 4 + 2, none⟩) hb).trans c2
        have c3 := (HW.out.cell (p := ⟨b, off + j * 4 + 3, none⟩) hb).trans c3
        have hm1 : (restE (es.take j) p true).length + 1 ≤ maxLen := by unfold maxLen; omega
        have hm1' : ((restE (es.take j) p true).length + 1) * 56 ≤ 140737488355328 := by omega
        clear he hr htl hrl
        cases hbl : belowB e.path p
        · have HBl := hide hbl
          clear hbl
          by_cases hq : e.path = p
          · have hq2 := str_yes hq
            have HQ := hide hq
            clear hq
            have HO := hide (restE_take_out HX.out (show goesE p true e = true from by simp [goesE, HQ.out]))
            go_wp2_with (go_at_call 130; refine (l3Below_any _ _ _ (by rw [str_size]; omega) (by rw [str_size]; omega)).mono ?_; rintro r w' ⟨rfl, rfl⟩; rw [str_data, str_data, HBl.out])
            go_roundw
            case rel => exact ⟨j + 1, by omega, by go_num, hide (by rw [HO.out]; exact HG.out), HOb, HW⟩
            case measure => simp [intOf]; omega
          · have hq2 := str_no hq
            have HQ := hide hq
            clear hq
            have HO := hide (restE_take_in HX.out (show goesE p true e = false from by simp [goesE, HBl.out]; exact HQ.out))
            obtain ⟨rs, g1, g2, g3⟩ := HG.out
            have G1 := hide g1
            have G2 := hide g2
            have G3 := hide g3
            clear g1 g2 g3 HG
            go_wp2_with (first | (go_at_call 130; refine (l3Below_any _ _ _ (by rw [str_size]; omega) (by rw [str_size]; omega)).mono ?_; rintro r w' ⟨rfl, rfl⟩; rw [str_data, str_data, HBl.out]) | (at_builtin; refine wpList_append_put rfl (.tmp 35) (.tmp 40) 30 rfl w.heap.size 40 i1 (.agg #[.string ⟨#[]⟩, .int .i64 0, .int .i64 0, .slice none 0 0]) 4 56 Tryz.underlying30 ki kz0 kz1 kz2 rfl (by decide) _ _ _ rfl G2.out _ rfl rfl rfl (by intro u hu; simp at hu; rcases hu with rfl | rfl | rfl | rfl <;> rfl) hm1 hm1' (by omega) ?_; intro av3 cv3 w3 hown2 hkept; have O3 := hide hown2; have K3 := hide hkept; clear hown2 hkept))
            go_roundw
            case rel =>
              refine ⟨j + 1, by omega, by go_num, hide ?_, hide ?_, hide ?_⟩
              · rw [HO.out]
                exact LE.push G1.out rfl G3.out HRc.out O3.out
              · obtain ⟨g5, h5, _⟩ := row_addr O3.out (.inl (by omega))
                exact ⟨g5, by rw [h5]; rfl⟩
              · exact HW.out.trans (K3.out.below (by omega) (fun k hk hx => by have := (G2.out.lt k hx).1; omega))
            case measure => simp [intOf]; omega
        · have HBl := hide hbl
          clear hbl
          have HO := hide (restE_take_out HX.out (show goesE p true e = true from by simp [goesE, HBl.out]))
          go_wp2_with (go_at_call 130; refine (l3Below_any _ _ _ (by rw [str_size]; omega) (by rw [str_size]; omega)).mono ?_; rintro r w' ⟨rfl, rfl⟩; rw [str_data, str_data, HBl.out])
          go_roundw
          case rel => exact ⟨j + 1, by omega, by go_num, hide (by rw [HO.out]; exact HG.out), HOb, HW⟩
          case measure => simp [intOf]; omega
      · have hE : es.take j = es := List.take_of_length_le (by omega)
        rw [hE] at HG hrl htl ⊢
        clear hE
        have HC := hide (l4Copy_any lv lc (restE es p true).length (restE es p true) wr ((HG.out.se HW.out).rd) rfl (by omega) (restE_small HS.out p true))
        clear HG hrl htl
        go_wp2_with fail
        refine HC.out.mono ?_
        rintro r w3 ⟨g, cv, rfl, hcv, hG, hb3⟩
        have GG := hide (hG.mono hsz)
        have B3 := hide (below_next HW.out hb3)
        clear hG hb3
        go_wp2_with fail
        go_ret
        exact ⟨_, _, rfl, GG.out, B3.out⟩

/-- What DropBelow answers. -/
def dropList (es : List En) (p : Bs) : List En := if askE es p = 0 then restE es p true else []

end Go.Proofs.YtjkmbicedbdifaaGreat

namespace Go.Proofs.YtjkmbicedbdifaaGreat
open Go.RowKit Go.Maps
set_option linter.unusedVariables false
attribute [local go_sem ↓] Go.wp_at_zero Go.wp_at_succ

/-- Does an entry stay where another is put? -/
def keepE (e x : En) : Bool := !(decide (x.path = e.path)) && (dirK e.kind || !(belowB x.path e.path))
def baseE (es : List En) (e : En) : List En := es.filter (keepE e)
theorem baseE_in {es : List En} {e x : En} {k : Nat} (he : es[k]? = some x) (h : keepE e x = true) : baseE (es.take (k + 1)) e = baseE (es.take k) e ++ [x] := by
  rw [take_snoc_at he]; simp [baseE, h]
theorem baseE_out {es : List En} {e x : En} {k : Nat} (he : es[k]? = some x) (h : keepE e x = false) : baseE (es.take (k + 1)) e = baseE (es.take k) e := by
  rw [take_snoc_at he]; simp [baseE, h]
theorem baseE_len (es : List En) (e : En) : (baseE es e).length ≤ es.length := List.length_filter_le _ _
theorem baseE_small {es : List En} (h : SmallE es) (e : En) : SmallE (baseE es e) := fun x hx => h x (List.mem_filter.1 hx).1
/-- How many of a list's first paths lie under a path. -/
def lowN (es : List En) (p : Bs) : Nat := (es.takeWhile fun x => Op.bytesLess x.path p).length
def putAt (rs : List En) (e : En) : List En := rs.take (lowN rs e.path) ++ e :: rs.drop (lowN rs e.path)
/-- A layer with an entry put into it. -/
def putE (es : List En) (e : En) : List En := putAt (baseE es e) e

theorem lowN_at {bs : List En} {p : Bs} {k : Nat} (hk : k ≤ bs.length) (h1 : (bs.take k).all (fun x => Op.bytesLess x.path p) = true) (h2 : ∀ y, bs[k]? = some y → Op.bytesLess y.path p = false) : lowN bs p = k := by
  have e : bs = bs.take k ++ bs.drop k := (List.take_append_drop k bs).symm
  have hd : (bs.drop k).takeWhile (fun x => Op.bytesLess x.path p) = [] := by
    cases hx : bs.drop k with
    | nil => rfl
    | cons y r =>
      have : bs[k]? = some y := by
        have h3 := congrArg (fun l => l[0]?) hx
        simpa using h3
      simp [h2 y this]
  unfold lowN
  conv => lhs; rw [e]
  rw [List.takeWhile_append_of_pos (by intro x hx; exact List.all_eq_true.1 h1 x hx), hd, List.append_nil, List.length_take]
  omega
/-- append(out, x...): out owned, x a row that is known. -/
theorem wpList_append_list {P : Program} {w : World} {ops : Array Oper} {rest : List Oper} {o : Oper} {a : Act} {Q : Exit → Act → World → Prop} (hgd : o.guard = none) (s x : Operand) (t : TypeId)
    (ho : o.op = .call { callee := .builtin .append, args := #[s, x], argTypes := #[t, t] })
    (base : Nat) (e : TypeId) (i : TypeInfo) (z : Value) (size bytes : Nat) (ht : P.underlying t = some (.slice e)) (hi : P.info? e = some i) (hz : i.zero = some z)
    (hsize : i.size = size) (hby : i.bytes = bytes) (hzs : z.cells.size = size) (hsz : 0 < size)
    (v : Value) (n : Nat) (xs : List Value) (hs : a.eval s = v) (hown : w.ownsRow base e size v n xs)
    (ad : Addr) (m c : Nat) (news : List Value) (hx : a.eval x = .slice (some ad) m c) (hl : news.length = m * size) (hnews : ∀ j u, news[j]? = some u → w.cell? (ad.add j) = some u) (h1 : ∀ u ∈ news, u.oneCell' = true)
    (N : Nat) (hN : n + m = N) (h63 : n + m ≤ maxLen) (hbytes : (n + m) * bytes ≤ 140737488355328) (hbase : base ≤ w.heap.size)
    (h : ∀ av cv w', w'.ownsRow base e size (.slice av N cv) N (xs ++ news) → Kept (fun b => v.ownBlock = some b) w w' → wpList P ops Q rest (a.put o.dst (.slice av N cv)) w') :
    wpList P ops Q (o :: rest) a w := by
  refine wpList_append_own w hgd s x t ho base e i z size bytes ht hi hz hsize hby hzs hsz v n xs hs hown ad m c news hx hl hnews h1 h63 hbytes hbase fun v' w' h2 h3 _ => ?_
  rw [hN] at h2
  obtain ⟨av, cv, rfl⟩ := ownsRow_shape h2
  exact h av cv w' h2 ⟨h3.os, h3.tape, h3.output, h3.size, fun q hq hn => h3.block q hq (fun e => hn e.symm)⟩
/-- append at a step of a region that draws its order. -/
theorem step_append_list {P : Program} {w : World} {ops : Array Oper} {o : Oper} {a : Act} {K : Act → World → Prop} {Q : Exit → Act → World → Prop} {E : Prop} (hgd : o.guard = none) (s x : Operand) (t : TypeId)
    (ho : o.op = .call { callee := .builtin .append, args := #[s, x], argTypes := #[t, t] })
    (base : Nat) (e : TypeId) (i : TypeInfo) (z : Value) (size bytes : Nat) (ht : P.underlying t = some (.slice e)) (hi : P.info? e = some i) (hz : i.zero = some z)
    (hsize : i.size = size) (hby : i.bytes = bytes) (hzs : z.cells.size = size) (hsz : 0 < size)
    (v : Value) (n : Nat) (xs : List Value) (hs : a.eval s = v) (hown : w.ownsRow base e size v n xs)
    (ad : Addr) (m c : Nat) (news : List Value) (hx : a.eval x = .slice (some ad) m c) (hl : news.length = m * size) (hnews : ∀ j u, news[j]? = some u → w.cell? (ad.add j) = some u) (h1 : ∀ u ∈ news, u.oneCell' = true)
    (N : Nat) (hN : n + m = N) (h63 : n + m ≤ maxLen) (hbytes : (n + m) * bytes ≤ 140737488355328) (hbase : base ≤ w.heap.size)
    (h : ∀ av cv w', w'.ownsRow base e size (.slice av N cv) N (xs ++ news) → Kept (fun b => v.ownBlock = some b) w w' → K (a.put o.dst (.slice av N cv)) w') :
    if Region.wanted o (yielded ops a.tmps) = true then Oper.wp P o a w K Q else E := by
  have hw : Region.wanted o (yielded ops a.tmps) = true := by simp [Region.wanted, hgd]
  rw [if_pos hw]
  refine wp_append_own w s x t ho base e i z size bytes ht hi hz hsize hby hzs hsz v n xs hs hown ad m c news hx hl hnews h1 h63 hbytes hbase fun v' w' h2 h3 _ => ?_
  rw [hN] at h2
  obtain ⟨av, cv, rfl⟩ := ownsRow_shape h2
  exact h av cv w' h2 ⟨h3.os, h3.tape, h3.output, h3.size, fun q hq hn => h3.block q hq (fun e => hn e.symm)⟩
theorem add_addr (b o j : Nat) : (⟨b, o, none⟩ : Addr).add j = ⟨b, o + j, none⟩ := by unfold Addr.add; split <;> simp_all
/-- The cells of a row's entries from place k on. -/
theorem row_news {w w' : World} {B g n c k : Nat} {rs : List Rw} (h : w.ownsRow B 40 4 (.slice (some ⟨g, 0, none⟩) n c) n (rowR rs)) (hb : Below w.heap.size w w') (l : List Value) (hl : ∀ j u, l[j]? = some u → (rowR rs)[k * 4 + j]? = some u) : ∀ j u, l[j]? = some u → w'.cell? ((⟨g, k * 4, none⟩ : Addr).add j) = some u := by
  intro j u hj
  rw [add_addr]
  have h1 := hl j u hj
  have hlt : k * 4 + j < (rowR rs).length := (List.getElem?_eq_some_iff.1 h1).1
  rw [hb.cell (p := ⟨g, k * 4 + j, none⟩) (h.lt g rfl).2]
  rcases h.2 with ⟨h', _⟩ | ⟨g', cap, cur, h', hb', hh, hnc, hcm, hcs, htake⟩
  · simp at h'
  · have hlen := h.1
    rw [h.cellAt (k * 4 + j) (by rw [hlen] at hlt; exact hlt)]
    exact h1
theorem put_rows {w0 w5 : World} {B : Nat} {rs : List Rw} {bs : List En} {e : En} {x : Option Addr} {cc k n : Nat} {v : Value} (g1 : rs.map Rw.e = bs) (hk : k ≤ bs.length) (hn : n = bs.length + 1)
    (g3 : ∀ r ∈ rs, Reads .i64 w0 r.a r.e.chunks) (hx : Reads .i64 w0 x e.chunks) (hb : Below w0.heap.size w0 w5)
    (ho : w5.ownsRow B 40 4 v n ((([] ++ rowR (rs.take k)) ++ cellsR ⟨e, x, cc⟩) ++ rowR (rs.drop k))) : SE B w5 v (bs.take k ++ e :: bs.drop k) := by
  subst hn
  refine ⟨rs.take k ++ ⟨e, x, cc⟩ :: rs.drop k, ?_, ?_, fun r hr => ?_⟩
  · rw [List.map_append, List.map_cons, List.map_take, List.map_drop, g1]
  · have e1 : (bs.take k ++ e :: bs.drop k).length = bs.length + 1 := by simp; omega
    rw [e1]
    have e2 : rowR (rs.take k ++ ⟨e, x, cc⟩ :: rs.drop k) = (([] ++ rowR (rs.take k)) ++ cellsR ⟨e, x, cc⟩) ++ rowR (rs.drop k) := by
      rw [rowR_append]; simp [rowR]
    rw [e2]
    exact ho
  · rcases List.mem_append.1 hr with hr | hr
    · exact (g3 r (List.mem_of_mem_take hr)).below hb
    · rcases List.mem_cons.1 hr with rfl | hr
      · exact hx.below hb
      · exact (g3 r (List.mem_of_mem_drop hr)).below hb
theorem news_four {w : World} {H : Nat} {u0 u1 u2 u3 : Value} {t : TypeId} (hH : w.heap.size = H) : ∀ j x, [u0, u1, u2, u3][j]? = some x → (w.alloc (.cells #[u0, u1, u2, u3] t)).cell? ((⟨H, 0, none⟩ : Addr).add j) = some x := by
  subst hH
  intro j x hj
  rw [add_addr, Nat.zero_add, cell_of_row _ w.heap.size j #[u0, u1, u2, u3] t (0, 0) (heap_alloc_new w _)]
  simpa using hj
theorem LE.drewN {w0 w : World} {v : Value} {es : List En} (h : LE w0 w v es) (n : Nat) : LE w0 (w.drewN n) v es := by
  obtain ⟨rs, he, h1, h2⟩ := h
  exact ⟨rs, he, ownsRow_below h1 (below_drewN (Below.refl _ _) n), h2⟩

set_option maxRecDepth 100000 in
set_option maxHeartbeats 3200000 in
theorem l4Put_any (a : Option Addr) (c n : Nat) (es : List En) (e : En) (x : Option Addr) (m cc : Nat) (w : World) (h : RdE w a es) (hn : n = es.length) (hl : es.length < 1048576) (hs : SmallE es) (hm : m = e.chunks.length) (hr : Reads .i64 w x e.chunks) (hp : e.path.length ≤ 1048576) (hcl : e.chunks.length ≤ 1048576) :
    Calls Tryz.prog 94 #[.slice a n c, .agg #[.string (str e.path), .int .i64 e.kind, .int .i64 e.size, .slice x m cc]] w fun r w' => ∃ g cv, r = .returned (.slice (some ⟨g, 0, none⟩) (putE es e).length cv) ∧ GE w.heap.size w'.heap.size w' (.slice (some ⟨g, 0, none⟩) (putE es e).length cv) (putE es e) ∧ Below w.heap.size w w' := by
  subst hn
  subst hm
  obtain ⟨i1, ki, kz0, kz1, kz2⟩ := info_parts Tryz.infoEn
  have HS := hide hs
  go_enter Tryz.func94, Tryz.ntmps94
  go_wp2_with fail
  have B0 := hide (below_alloc w (.cells #[.string (str e.path), .int .i64 e.kind, .int .i64 e.size, .slice x e.chunks.length cc] 40))
  have F0 := hide (Four.new w (.string (str e.path)) (.int .i64 e.kind) (.int .i64 e.size) (.slice x e.chunks.length cc) 40)
  have HA := hide (h.below B0.out)
  have HRx := hide (hr.below B0.out)
  have HM := hide (LE.made (w.alloc (.cells #[.string (str e.path), .int .i64 e.kind, .int .i64 e.size, .slice x e.chunks.length cc] 40)))
  have hsz0 : (w.alloc (.cells #[.string (str e.path), .int .i64 e.kind, .int .i64 e.size, .slice x e.chunks.length cc] 40)).heap.size = w.heap.size + 1 := by simp
  rw [hsz0] at HM
  have hlt0 := F0.out.lt
  generalize w.alloc (.cells #[.string (str e.path), .int .i64 e.kind, .int .i64 e.size, .slice x e.chunks.length cc] 40) = w0 at *
  have HW0 := hide (show w.heap.size ≤ w0.heap.size by omega)
  have HZ0 := hide hsz0
  clear h hs hr
  have hw1 : w.heap.size + 1 = w0.heap.size := hsz0.symm
  clear hsz0
  rw [hw1] at HM ⊢
  clear hw1
  generalize w.heap.size = bk at F0 hlt0 ⊢
  go_loopw [5, 6] (fun v i wr => ∃ j : Nat, j ≤ es.length ∧ i = .int .i64 j ∧ Hid (LE w0 wr v (baseE (es.take j) e)) ∧ Hid (∃ g, v.ownBlock = some g) ∧ Hid (Below w0.heap.size w0 wr)) (fun _ i _ => es.length - (intOf i).toNat)
  case atStart => exact ⟨0, Nat.zero_le _, rfl, HM, hide ⟨_, rfl⟩, hide (below_alloc _ _)⟩
  case round =>
    obtain ⟨j, hj, rfl, HG, HOb, HW⟩ := hrel
    obtain ⟨lv, lc, rfl⟩ := HG.out.shape
    have hrl := baseE_len (es.take j) e
    have htl := take_len hj
    have hsz := HW.out.size
    have F1 := (HW.out.cell (p := ⟨bk, 0 + 1, none⟩) hlt0).trans F0.out.2.1
    have F2 := (HW.out.cell (p := ⟨bk, 0, none⟩) hlt0).trans F0.out.1
    by_cases hlt : j < es.length
    · obtain ⟨b, off, y, xx, c2, rfl, hb, he, c0, c1, c2, c3, hr⟩ := HA.out.at hlt
      have HX := hide he
      have HRc := hide hr
      have hsm := HS.out y (List.mem_of_getElem? he)
      have HD := hide (And.intro c0 (And.intro c1 (And.intro c2 c3)))
      have c0 := (HW.out.cell (p := ⟨b, off + j * 4, none⟩) hb).trans c0
      have c1 := (HW.out.cell (p := ⟨b, off + j * 4 + 1, none⟩) hb).trans c1
      have c2 := (HW.out.cell (p := ⟨b, off + j * 4 + 2, none⟩) hb).trans c2
      have c3 := (HW.out.cell (p := ⟨b, off + j * 4 + 3, none⟩) hb).trans c3
      have hm1 : (baseE (es.take j) e).length + 1 ≤ maxLen := by unfold maxLen; omega
      have hm1' : ((baseE (es.take j) e).length + 1) * 56 ≤ 140737488355328 := by omega
      clear he hr htl hrl
      by_cases hq : y.path = e.path
      · have hq2 := str_yes hq
        have HO := hide (baseE_out HX.out (show keepE e y = false from by simp [keepE, hq]))
        clear hq
        go_wp2_with fail
        go_quiet (first | (go_at_call 93; refine Calls.quiet_of ((l4IsDir_any bk 0 e.kind _ ?_).mono (fun r w' ⟨he, hw⟩ => ⟨by rw [HDk.out] at he; exact he, 0, hw⟩)); exact F1) | (go_at_call 130; exact Calls.quiet_of ((l3Below_any _ _ _ (by rw [str_size]; omega) (by rw [str_size]; omega)).mono (fun r w' ⟨he, hw⟩ => ⟨by rw [str_data, str_data, HBl.out] at he; exact he, 0, hw⟩))))
        go_wp2_with fail
        go_roundw
        case rel => exact ⟨j + 1, by omega, by go_num, hide (by rw [HO.out]; exact HG.out.drewN nq), HOb, hide (below_drewN HW.out nq)⟩
        case measure => simp [intOf]; omega
      · have hq2 := str_no hq
        cases hd : dirK e.kind
        · cases hbl : belowB y.path e.path
          · have HO := hide (baseE_in HX.out (show keepE e y = true from by simp [keepE, hq, hd, hbl]))
            have HDk := hide hd
            have HBl := hide hbl
            clear hq hd hbl
            go_wp2_with fail
            go_quiet (first | (go_at_call 93; refine Calls.quiet_of ((l4IsDir_any bk 0 e.kind _ ?_).mono (fun r w' ⟨he, hw⟩ => ⟨by rw [HDk.out] at he; exact he, 0, hw⟩)); exact F1) | (go_at_call 130; exact Calls.quiet_of ((l3Below_any _ _ _ (by rw [str_size]; omega) (by rw [str_size]; omega)).mono (fun r w' ⟨he, hw⟩ => ⟨by rw [str_data, str_data, HBl.out] at he; exact he, 0, hw⟩))))
            have HW2 := hide (below_drewN HW.out nq)
            have HG2 := hide (HG.out.drewN nq)
            clear HG c0 c1 c2 c3 F1 F2
            generalize wr.drewN nq = W at HW2 HG2 ⊢
            obtain ⟨d0, d1, d2, d3⟩ := HD.out
            have c0 := (HW2.out.cell (p := ⟨b, off + j * 4, none⟩) hb).trans d0
            have c1 := (HW2.out.cell (p := ⟨b, off + j * 4 + 1, none⟩) hb).trans d1
            have c2 := (HW2.out.cell (p := ⟨b, off + j * 4 + 2, none⟩) hb).trans d2
            have c3 := (HW2.out.cell (p := ⟨b, off + j * 4 + 3, none⟩) hb).trans d3
            have hsz2 := HW2.out.size
            obtain ⟨rs, g1, g2, g3⟩ := HG2.out
            have G1 := hide g1
            have G2 := hide g2
            have G3 := hide g3
            clear g1 g2 g3 HG2 d0 d1 d2 d3
            go_wp2_with (at_builtin; refine wpList_append_put rfl (.tmp 38) (.tmp 43) 30 rfl w0.heap.size 40 i1 (.agg #[.string ⟨#[]⟩, .int .i64 0, .int .i64 0, .slice none 0 0]) 4 56 Tryz.underlying30 ki kz0 kz1 kz2 rfl (by decide) _ _ _ rfl G2.out _ rfl rfl rfl (by intro u hu; simp at hu; rcases hu with rfl | rfl | rfl | rfl <;> rfl) hm1 hm1' (by omega) ?_; intro av3 cv3 w3 hown2 hkept; have O3 := hide hown2; have K3 := hide hkept; clear hown2 hkept)
            go_roundw
            case rel =>
              refine ⟨j + 1, by omega, by go_num, hide ?_, hide ?_, hide ?_⟩
              · rw [HO.out]
                exact LE.push G1.out rfl G3.out HRc.out O3.out
              · obtain ⟨g5, h5, _⟩ := row_addr O3.out (.inl (by omega))
                exact ⟨g5, by rw [h5]; rfl⟩
              · exact HW2.out.trans (K3.out.below (by omega) (fun k hk hx => by have := (G2.out.lt k hx).1; omega))
            case measure => simp [intOf]; omega
          · have HO := hide (baseE_out HX.out (show keepE e y = false from by simp [keepE, hq, hd, hbl]))
            have HDk := hide hd
            have HBl := hide hbl
            clear hq hd hbl
            go_wp2_with fail
            go_quiet (first | (go_at_call 93; refine Calls.quiet_of ((l4IsDir_any bk 0 e.kind _ ?_).mono (fun r w' ⟨he, hw⟩ => ⟨by rw [HDk.out] at he; exact he, 0, hw⟩)); exact F1) | (go_at_call 130; exact Calls.quiet_of ((l3Below_any _ _ _ (by rw [str_size]; omega) (by rw [str_size]; omega)).mono (fun r w' ⟨he, hw⟩ => ⟨by rw [str_data, str_data, HBl.out] at he; exact he, 0, hw⟩))))
            go_wp2_with fail
            go_roundw
            case rel => exact ⟨j + 1, by omega, by go_num, hide (by rw [HO.out]; exact HG.out.drewN nq), HOb, hide (below_drewN HW.out nq)⟩
            case measure => simp [intOf]; omega
        · have HO := hide (baseE_in HX.out (show keepE e y = true from by simp [keepE, hq, hd]))
          have HDk := hide hd
          clear hq hd
          go_wp2_with fail
          go_quiet (first | (go_at_call 93; refine Calls.quiet_of ((l4IsDir_any bk 0 e.kind _ ?_).mono (fun r w' ⟨he, hw⟩ => ⟨by rw [HDk.out] at he; exact he, 0, hw⟩)); exact F1) | (go_at_call 130; exact Calls.quiet_of ((l3Below_any _ _ _ (by rw [str_size]; omega) (by rw [str_size]; omega)).mono (fun r w' ⟨he, hw⟩ => ⟨by rw [str_data, str_data, HBl.out] at he; exact he, 0, hw⟩))))
          have HW2 := hide (below_drewN HW.out nq)
          have HG2 := hide (HG.out.drewN nq)
          clear HG c0 c1 c2 c3 F1 F2
          generalize wr.drewN nq = W at HW2 HG2 ⊢
          obtain ⟨d0, d1, d2, d3⟩ := HD.out
          have c0 := (HW2.out.cell (p := ⟨b, off + j * 4, none⟩) hb).trans d0
          have c1 := (HW2.out.cell (p := ⟨b, off + j * 4 + 1, none⟩) hb).trans d1
          have c2 := (HW2.out.cell (p := ⟨b, off + j * 4 + 2, none⟩) hb).trans d2
          have c3 := (HW2.out.cell (p := ⟨b, off + j * 4 + 3, none⟩) hb).trans d3
          have hsz2 := HW2.out.size
          obtain ⟨rs, g1, g2, g3⟩ := HG2.out
          have G1 := hide g1
          have G2 := hide g2
          have G3 := hide g3
          clear g1 g2 g3 HG2 d0 d1 d2 d3
          go_wp2_with (at_builtin; refine wpList_append_put rfl (.tmp 38) (.tmp 43) 30 rfl w0.heap.size 40 i1 (.agg #[.string ⟨#[]⟩, .int .i64 0, .int .i64 0, .slice none 0 0]) 4 56 Tryz.underlying30 ki kz0 kz1 kz2 rfl (by decide) _ _ _ rfl G2.out _ rfl rfl rfl (by intro u hu; simp at hu; rcases hu with rfl | rfl | rfl | rfl <;> rfl) hm1 hm1' (by omega) ?_; intro av3 cv3 w3 hown2 hkept; have O3 := hide hown2; have K3 := hide hkept; clear hown2 hkept)
          go_roundw
          case rel =>
            refine ⟨j + 1, by omega, by go_num, hide ?_, hide ?_, hide ?_⟩
            · rw [HO.out]
              exact LE.push G1.out rfl G3.out HRc.out O3.out
            · obtain ⟨g5, h5, _⟩ := row_addr O3.out (.inl (by omega))
              exact ⟨g5, by rw [h5]; rfl⟩
            · exact HW2.out.trans (K3.out.below (by omega) (fun k hk hx => by have := (G2.out.lt k hx).1; omega))
          case measure => simp [intOf]; omega
    · have hE : es.take j = es := List.take_of_length_le (by omega)
      rw [hE] at HG HOb hrl htl ⊢
      clear hE
      have HBS := hide (baseE_small HS.out e)
      have hbl : (baseE es e).length < 1048576 := by omega
      have HPU := hide (show putE es e = putAt (baseE es e) e from rfl)
      generalize baseE es e = bs at *
      obtain ⟨g5, h5, h6⟩ : ∃ g, lv = some ⟨g, 0, none⟩ ∧ bs.length ≤ lc := by
        obtain ⟨rs, _, h1, _⟩ := HG.out
        exact row_addr h1 (.inr HOb.out)
      subst h5
      have HRd := hide ((HG.out.se HW.out).rd)
      clear hrl htl
      go_wp2_with fail
      obtain ⟨W1, hW1⟩ : ∃ W1, W1 = wr := ⟨_, rfl⟩
      subst hW1
      have hlt1 : bk < W1.heap.size := by omega
      go_loopw [7] (fun i w2 => ∃ k : Nat, k ≤ bs.length ∧ i = .int .i64 k ∧ Hid ((bs.take k).all (fun x => Op.bytesLess x.path e.path) = true) ∧ Hid (Below W1.heap.size W1 w2)) (fun i _ => bs.length - (intOf i).toNat)
      case atStart => exact ⟨0, Nat.zero_le _, rfl, hide (by simp), hide (Below.refl _ _)⟩
      case round =>
        obtain ⟨k, hk, rfl, HL, HW2⟩ := hrel
        have F3 := (HW2.out.cell (p := ⟨bk, 0, none⟩) hlt1).trans F2
        by_cases hlt : k < bs.length
        · obtain ⟨b, off, y, xx, c2, hbb, hb, he, c0, c1, c2, c3, hr⟩ := HRd.out.at hlt
          simp only [Option.some.injEq, Addr.mk.injEq, and_true] at hbb
          obtain ⟨rfl, rfl⟩ := hbb
          have c0 := (HW2.out.cell (p := ⟨g5, 0 + k * 4, none⟩) hb).trans c0
          rw [Nat.zero_add] at c0
          have HX := hide he
          clear he hr c1 c2 c3
          cases hlo : Op.bytesLess (str y.path).toList (str e.path).toList
          · have HLk := hide (lowN_at hk HL.out (fun y' hy' => by rw [HX.out] at hy'; cases hy'; rw [str_toList, str_toList] at hlo; exact hlo))
            go_wp2_with fail
            go_quiet (fail)
            have HWk := hide (below_drewN HW2.out nq)
            clear c0 HW2 F3
            generalize wr.drewN nq = W2 at HWk ⊢
            have HPU2 : Hid (putE es e = bs.take k ++ e :: bs.drop k) := by have := HPU.out; unfold putAt at this; rw [HLk.out] at this; exact this
            obtain ⟨rs, g1, g2, g3⟩ := HG.out
            have G1 := hide g1
            have G2 := hide g2
            have G3 := hide g3
            have hrsl : rs.length = bs.length := by rw [← g1, List.length_map]
            clear g1 g2 g3 HG HRd
            have hsW := HWk.out.size
            have OWN0 : Hid ((W2.alloc (.cells #[] 40)).ownsRow W2.heap.size 40 4 (.slice (some ⟨W2.heap.size, 0, none⟩) 0 0) 0 []) := World.ownsRow_made W2 #[] 0 (Nat.le_refl _) (Nat.zero_le _) rfl
            have NEWS0 : Hid (∀ j u, (rowR (rs.take k))[j]? = some u → (W2.alloc (.cells #[] 40)).cell? ((⟨g5, 0, none⟩ : Addr).add j) = some u) := hide (by
              have := row_news (k := 0) G2.out (below_next HWk.out (below_alloc W2 (.cells #[] 40))) (rowR (rs.take k)) (fun j u hj => by
                rw [← rowR_take] at hj
                rw [Nat.zero_mul, Nat.zero_add]
                rw [List.getElem?_take] at hj
                split at hj
                · exact hj
                · cases hj)
              simpa using this)
            have hln0 : (rowR (rs.take k)).length = k * 4 := by rw [rowR_length, List.length_take]; congr 1; omega
            have hm0 : 0 + k ≤ maxLen := by unfold maxLen; omega
            have hm0' : (0 + k) * 56 ≤ 140737488355328 := by omega
            have hkc : (k : Int) ≤ (lc : Int) := by omega
            go_wp2_with (at_builtin; refine wpList_append_list rfl (.tmp 61) (.tmp 64) 30 rfl W2.heap.size 40 i1 (.agg #[.string ⟨#[]⟩, .int .i64 0, .int .i64 0, .slice none 0 0]) 4 56 Tryz.underlying30 ki kz0 kz1 kz2 rfl (by decide) (.slice (some ⟨W2.heap.size, 0, none⟩) 0 0) 0 [] rfl OWN0.out ⟨g5, 0, none⟩ k lc (rowR (rs.take k)) rfl hln0 NEWS0.out (rowR_one _) k (by simp) hm0 hm0' (by simp) ?_; intro av3 cv3 w3 hown3 hk3; have O3 := hide hown3; have K3 := hide hk3; clear hown3 hk3)
            have BW3 := hide ((below_alloc W2 (.cells #[] 40)).trans (K3.out.below (by simp) (fun q hq hS => by simp [Value.ownBlock] at hS; omega)))
            have BW2 := hide (below_next HW.out HWk.out)
            have B3 := hide (below_next BW2.out BW3.out)
            have hs3 := BW3.out.size
            have KC : Hid (∀ w5 : World, Below W2.heap.size W2 w5 → w5.cell? ⟨bk, 0, none⟩ = some (.string (str e.path)) ∧ w5.cell? ⟨bk, 1, none⟩ = some (.int .i64 e.kind) ∧ w5.cell? ⟨bk, 2, none⟩ = some (.int .i64 e.size) ∧ w5.cell? ⟨bk, 3, none⟩ = some (.slice x e.chunks.length cc)) := fun w5 hb5 => ⟨((below_next BW2.out hb5).cell (p := ⟨bk, 0, none⟩) hlt0).trans F0.out.1, ((below_next BW2.out hb5).cell (p := ⟨bk, 1, none⟩) hlt0).trans F0.out.2.1, ((below_next BW2.out hb5).cell (p := ⟨bk, 2, none⟩) hlt0).trans F0.out.2.2.1, ((below_next BW2.out hb5).cell (p := ⟨bk, 3, none⟩) hlt0).trans F0.out.2.2.2⟩
            have p0 := (B3.out.cell (p := ⟨bk, 0, none⟩) hlt0).trans F0.out.1
            have p1 := (B3.out.cell (p := ⟨bk, 1, none⟩) hlt0).trans F0.out.2.1
            have p2 := (B3.out.cell (p := ⟨bk, 2, none⟩) hlt0).trans F0.out.2.2.1
            have p3 := (B3.out.cell (p := ⟨bk, 3, none⟩) hlt0).trans F0.out.2.2.2
            have OWN1 : Hid ((w3.alloc (.cells #[.string (str e.path), .int .i64 e.kind, .int .i64 e.size, .slice x e.chunks.length cc] 40)).drew.ownsRow W2.heap.size 40 4 (.slice av3 k cv3) k ([] ++ rowR (rs.take k))) := ownsRow_below O3.out (below_alloc _ _).drew
            have NEWS1 : Hid (∀ j u, (cellsR ⟨e, x, cc⟩)[j]? = some u → (w3.alloc (.cells #[.string (str e.path), .int .i64 e.kind, .int .i64 e.size, .slice x e.chunks.length cc] 40)).drew.cell? ((⟨w3.heap.size, 0, none⟩ : Addr).add j) = some u) := news_four (t := 40) rfl
            have hnl : (rowR (rs.drop k)).length = (bs.length - k) * 4 := by rw [rowR_length, List.length_drop, hrsl]
            have hm1 : k + 1 ≤ maxLen := by unfold maxLen; omega
            have hm1' : (k + 1) * 56 ≤ 140737488355328 := by omega
            have hk1' : k + 1 + (bs.length - k) = bs.length + 1 := by omega
            have hm2 : k + 1 + (bs.length - k) ≤ maxLen := by unfold maxLen; omega
            have hm2' : (k + 1 + (bs.length - k)) * 56 ≤ 140737488355328 := by omega
            have HLn := hide (show bs.length + 1 = (bs.take k ++ e :: bs.drop k).length from by simp; omega)
            have HSm := hide (show SmallE (bs.take k ++ e :: bs.drop k) from fun y hy => by
              rcases List.mem_append.1 hy with hy | hy
              · exact HBS.out y (List.mem_of_mem_take hy)
              · rcases List.mem_cons.1 hy with rfl | hy
                · exact ⟨hp, hcl⟩
                · exact HBS.out y (List.mem_of_mem_drop hy))
            have hkc2 : (k : Int) ≤ (bs.length : Int) := by omega
            have hbc : (bs.length : Int) ≤ (lc : Int) := by omega
            by_cases hck : lc = k
            · exact absurd hck (by omega)
            · have hck2 : ¬ k = lc := fun e => hck e.symm
              have NEWS2 : Hid (∀ w5 : World, Below W2.heap.size W2 w5 → ∀ j u, (rowR (rs.drop k))[j]? = some u → w5.cell? ((⟨g5, k * 4, none⟩ : Addr).add j) = some u) := fun w5 hb5 => row_news (k := k) G2.out (below_next HWk.out hb5) (rowR (rs.drop k)) (fun j u hj => by rw [← rowR_drop, List.getElem?_drop] at hj; exact hj)
              go_region_held3 (fun w' => w'.cell? ⟨bk, 0, none⟩ = some (.string (str e.path)) ∧ w'.cell? ⟨bk, 1, none⟩ = some (.int .i64 e.kind) ∧ w'.cell? ⟨bk, 2, none⟩ = some (.int .i64 e.size) ∧ w'.cell? ⟨bk, 3, none⟩ = some (.slice x e.chunks.length cc)) (first | exact KC.out _ BB4.out | exact KC.out _ BB5.out | exact KC.out _ B6.out | go_keep)
                ((first
                  | (refine step_append_list (by rfl) (.tmp 66) (.tmp 68) 30 (by rfl) W2.heap.size 40 i1 (.agg #[.string ⟨#[]⟩, .int .i64 0, .int .i64 0, .slice none 0 0]) 4 56 Tryz.underlying30 ki kz0 kz1 kz2 rfl (by decide) (.slice av3 k cv3) k ([] ++ rowR (rs.take k)) (by rfl) OWN1.out ⟨w3.heap.size, 0, none⟩ 1 1 (cellsR ⟨e, x, cc⟩) (by rfl) (by rfl) NEWS1.out (rowR_one [⟨e, x, cc⟩]) (k + 1) rfl hm1 hm1' (by simp; omega) ?_; intro av4 cv4 w4 hown4 hk4; have O4 := hide hown4; have BB4 := hide (BW3.out.trans ((((Kept.refl (fun q => (Value.slice av3 k cv3).ownBlock = some q) w3).alloc _).drew.trans hk4).below hs3 (fun q hq hS => by have := (O3.out.lt q hS).1; omega))); clear hown4 hk4)
                  | (refine step_append_list (by rfl) (.tmp 69) (.tmp 72) 30 (by rfl) W2.heap.size 40 i1 (.agg #[.string ⟨#[]⟩, .int .i64 0, .int .i64 0, .slice none 0 0]) 4 56 Tryz.underlying30 ki kz0 kz1 kz2 rfl (by decide) (.slice av4 (k + 1) cv4) (k + 1) (([] ++ rowR (rs.take k)) ++ cellsR ⟨e, x, cc⟩) (by rfl) O4.out ⟨g5, k * 4, none⟩ (bs.length - k) (lc - k) (rowR (rs.drop k)) (by rfl) hnl (NEWS2.out w4 BB4.out) (rowR_one _) (bs.length + 1) hk1' hm2 hm2' BB4.out.size ?_; intro av5 cv5 w5 hown5 hk5; have O5 := hide hown5; have BB5 := hide (BB4.out.trans (hk5.below BB4.out.size (fun q hq hS => by have := (O4.out.lt q hS).1; omega))); have RD5 := hide ((put_rows G1.out hk rfl G3.out HRx.out (below_next BW2.out BB5.out) hown5).rd); clear hown5 hk5)
                  | (go_at_call 113; refine (l4Copy_any av5 cv5 (bs.length + 1) _ w5 RD5.out HLn.out (by rw [← HLn.out]; omega) HSm.out).mono ?_; rintro r w6 ⟨g6, cv6, rfl, hcv6, hG6, hb6⟩; have GG6 := hide (hG6.mono BB5.out.size); have B6 := hide (below_next BB5.out hb6); clear hG6 hb6)))
              have hpl : (putE es e).length = bs.length + 1 := by rw [HPU2.out]; exact HLn.out.symm
              have HPL := hide hpl
              clear hpl
              go_wp2_with fail
              go_ret
              have hz0 := HW0.out
              have hz1 := BW2.out.size
              exact ⟨g6, cv6, by rw [HPL.out]; rfl, by rw [HPL.out, HPU2.out]; exact GG6.out.mono (by omega), below_next B0.out (below_next BW2.out B6.out)⟩
          · have HLk := hide (show (bs.take (k + 1)).all (fun x => Op.bytesLess x.path e.path) = true from by
              rw [str_toList, str_toList] at hlo
              rw [take_snoc_at HX.out]; simp only [List.all_append, HL.out, List.all_cons, hlo, List.all_nil, Bool.and_self])
            go_wp2_with fail
            go_quiet (fail)
            go_wp2_with fail
            go_roundw
            case rel => exact ⟨k + 1, by omega, by go_num, HLk, hide (below_drewN HW2.out nq)⟩
            case measure => simp [intOf]; omega
        · have HLk := hide (lowN_at hk HL.out (fun y' hy' => by have := (List.getElem?_eq_some_iff.1 hy').1; omega))
          go_wp2_with fail
          go_quiet (fail)
          have HWk := hide (below_drewN HW2.out nq)
          clear HW2 F3
          generalize wr.drewN nq = W2 at HWk ⊢
          have HPU2 : Hid (putE es e = bs.take k ++ e :: bs.drop k) := by have := HPU.out; unfold putAt at this; rw [HLk.out] at this; exact this
          obtain ⟨rs, g1, g2, g3⟩ := HG.out
          have G1 := hide g1
          have G2 := hide g2
          have G3 := hide g3
          have hrsl : rs.length = bs.length := by rw [← g1, List.length_map]
          clear g1 g2 g3 HG HRd
          have hsW := HWk.out.size
          have OWN0 : Hid ((W2.alloc (.cells #[] 40)).ownsRow W2.heap.size 40 4 (.slice (some ⟨W2.heap.size, 0, none⟩) 0 0) 0 []) := World.ownsRow_made W2 #[] 0 (Nat.le_refl _) (Nat.zero_le _) rfl
          have NEWS0 : Hid (∀ j u, (rowR (rs.take k))[j]? = some u → (W2.alloc (.cells #[] 40)).cell? ((⟨g5, 0, none⟩ : Addr).add j) = some u) := hide (by
            have := row_news (k := 0) G2.out (below_next HWk.out (below_alloc W2 (.cells #[] 40))) (rowR (rs.take k)) (fun j u hj => by
              rw [← rowR_take] at hj
              rw [Nat.zero_mul, Nat.zero_add]
              rw [List.getElem?_take] at hj
              split at hj
              · exact hj
              · cases hj)
            simpa using this)
          have hln0 : (rowR (rs.take k)).length = k * 4 := by rw [rowR_length, List.length_take]; congr 1; omega
          have hm0 : 0 + k ≤ maxLen := by unfold maxLen; omega
          have hm0' : (0 + k) * 56 ≤ 140737488355328 := by omega
          have hkc : (k : Int) ≤ (lc : Int) := by omega
          go_wp2_with (at_builtin; refine wpList_append_list rfl (.tmp 61) (.tmp 64) 30 rfl W2.heap.size 40 i1 (.agg #[.string ⟨#[]⟩, .int .i64 0, .int .i64 0, .slice none 0 0]) 4 56 Tryz.underlying30 ki kz0 kz1 kz2 rfl (by decide) (.slice (some ⟨W2.heap.size, 0, none⟩) 0 0) 0 [] rfl OWN0.out ⟨g5, 0, none⟩ k lc (rowR (rs.take k)) rfl hln0 NEWS0.out (rowR_one _) k (by simp) hm0 hm0' (by simp) ?_; intro av3 cv3 w3 hown3 hk3; have O3 := hide hown3; have K3 := hide hk3; clear hown3 hk3)
          have BW3 := hide ((below_alloc W2 (.cells #[] 40)).trans (K3.out.below (by simp) (fun q hq hS => by simp [Value.ownBlock] at hS; omega)))
          have BW2 := hide (below_next HW.out HWk.out)
          have B3 := hide (below_next BW2.out BW3.out)
          have hs3 := BW3.out.size
          have KC : Hid (∀ w5 : World, Below W2.heap.size W2 w5 → w5.cell? ⟨bk, 0, none⟩ = some (.string (str e.path)) ∧ w5.cell? ⟨bk, 1, none⟩ = some (.int .i64 e.kind) ∧ w5.cell? ⟨bk, 2, none⟩ = some (.int .i64 e.size) ∧ w5.cell? ⟨bk, 3, none⟩ = some (.slice x e.chunks.length cc)) := fun w5 hb5 => ⟨((below_next BW2.out hb5).cell (p := ⟨bk, 0, none⟩) hlt0).trans F0.out.1, ((below_next BW2.out hb5).cell (p := ⟨bk, 1, none⟩) hlt0).trans F0.out.2.1, ((below_next BW2.out hb5).cell (p := ⟨bk, 2, none⟩) hlt0).trans F0.out.2.2.1, ((below_next BW2.out hb5).cell (p := ⟨bk, 3, none⟩) hlt0).trans F0.out.2.2.2⟩
          have p0 := (B3.out.cell (p := ⟨bk, 0, none⟩) hlt0).trans F0.out.1
          have p1 := (B3.out.cell (p := ⟨bk, 1, none⟩) hlt0).trans F0.out.2.1
          have p2 := (B3.out.cell (p := ⟨bk, 2, none⟩) hlt0).trans F0.out.2.2.1
          have p3 := (B3.out.cell (p := ⟨bk, 3, none⟩) hlt0).trans F0.out.2.2.2
          have OWN1 : Hid ((w3.alloc (.cells #[.string (str e.path), .int .i64 e.kind, .int .i64 e.size, .slice x e.chunks.length cc] 40)).drew.ownsRow W2.heap.size 40 4 (.slice av3 k cv3) k ([] ++ rowR (rs.take k))) := ownsRow_below O3.out (below_alloc _ _).drew
          have NEWS1 : Hid (∀ j u, (cellsR ⟨e, x, cc⟩)[j]? = some u → (w3.alloc (.cells #[.string (str e.path), .int .i64 e.kind, .int .i64 e.size, .slice x e.chunks.length cc] 40)).drew.cell? ((⟨w3.heap.size, 0, none⟩ : Addr).add j) = some u) := news_four (t := 40) rfl
          have hnl : (rowR (rs.drop k)).length = (bs.length - k) * 4 := by rw [rowR_length, List.length_drop, hrsl]
          have hm1 : k + 1 ≤ maxLen := by unfold maxLen; omega
          have hm1' : (k + 1) * 56 ≤ 140737488355328 := by omega
          have hk1' : k + 1 + (bs.length - k) = bs.length + 1 := by omega
          have hm2 : k + 1 + (bs.length - k) ≤ maxLen := by unfold maxLen; omega
          have hm2' : (k + 1 + (bs.length - k)) * 56 ≤ 140737488355328 := by omega
          have HLn := hide (show bs.length + 1 = (bs.take k ++ e :: bs.drop k).length from by simp; omega)
          have HSm := hide (show SmallE (bs.take k ++ e :: bs.drop k) from fun y hy => by
            rcases List.mem_append.1 hy with hy | hy
            · exact HBS.out y (List.mem_of_mem_take hy)
            · rcases List.mem_cons.1 hy with rfl | hy
              · exact ⟨hp, hcl⟩
              · exact HBS.out y (List.mem_of_mem_drop hy))
          have hkc2 : (k : Int) ≤ (bs.length : Int) := by omega
          have hbc : (bs.length : Int) ≤ (lc : Int) := by omega
          by_cases hck : lc = k
          · obtain rfl : k = lc := hck.symm
            have hck3 : k = bs.length := by omega
            have hnl0 : (rowR (rs.drop k)).length = 0 * 4 := by rw [rowR_length, List.length_drop, hrsl]; omega
            have hk0 : k + 1 + 0 = bs.length + 1 := by omega
            have hm3 : k + 1 + 0 ≤ maxLen := by omega
            have hm3' : (k + 1 + 0) * 56 ≤ 140737488355328 := by omega
            have HCK := hide hck3
            clear hck3
            have NEWS2 : Hid (∀ w5 : World, Below W2.heap.size W2 w5 → ∀ j u, (rowR (rs.drop k))[j]? = some u → w5.cell? ((⟨g5, 0, none⟩ : Addr).add j) = some u) := fun w5 hb5 j u hj => by rw [← rowR_drop, List.drop_eq_nil_of_le (by rw [rowR_length]; omega)] at hj; simp at hj
            go_region_held3 (fun w' => w'.cell? ⟨bk, 0, none⟩ = some (.string (str e.path)) ∧ w'.cell? ⟨bk, 1, none⟩ = some (.int .i64 e.kind) ∧ w'.cell? ⟨bk, 2, none⟩ = some (.int .i64 e.size) ∧ w'.cell? ⟨bk, 3, none⟩ = some (.slice x e.chunks.length cc)) (first | exact KC.out _ BB4.out | exact KC.out _ BB5.out | exact KC.out _ B6.out | go_keep)
              ((first
                | (refine step_append_list (by rfl) (.tmp 66) (.tmp 68) 30 (by rfl) W2.heap.size 40 i1 (.agg #[.string ⟨#[]⟩, .int .i64 0, .int .i64 0, .slice none 0 0]) 4 56 Tryz.underlying30 ki kz0 kz1 kz2 rfl (by decide) (.slice av3 k cv3) k ([] ++ rowR (rs.take k)) (by rfl) OWN1.out ⟨w3.heap.size, 0, none⟩ 1 1 (cellsR ⟨e, x, cc⟩) (by rfl) (by rfl) NEWS1.out (rowR_one [⟨e, x, cc⟩]) (k + 1) rfl hm1 hm1' (by simp; omega) ?_; intro av4 cv4 w4 hown4 hk4; have O4 := hide hown4; have BB4 := hide (BW3.out.trans ((((Kept.refl (fun q => (Value.slice av3 k cv3).ownBlock = some q) w3).alloc _).drew.trans hk4).below hs3 (fun q hq hS => by have := (O3.out.lt q hS).1; omega))); clear hown4 hk4)
                | (refine step_append_list (by rfl) (.tmp 69) (.tmp 72) 30 (by rfl) W2.heap.size 40 i1 (.agg #[.string ⟨#[]⟩, .int .i64 0, .int .i64 0, .slice none 0 0]) 4 56 Tryz.underlying30 ki kz0 kz1 kz2 rfl (by decide) (.slice av4 (k + 1) cv4) (k + 1) (([] ++ rowR (rs.take k)) ++ cellsR ⟨e, x, cc⟩) (by rfl) O4.out ⟨g5, 0, none⟩ 0 0 (rowR (rs.drop k)) (by rfl) hnl0 (NEWS2.out w4 BB4.out) (rowR_one _) (bs.length + 1) hk0 hm3 hm3' BB4.out.size ?_; intro av5 cv5 w5 hown5 hk5; have O5 := hide hown5; have BB5 := hide (BB4.out.trans (hk5.below BB4.out.size (fun q hq hS => by have := (O4.out.lt q hS).1; omega))); have RD5 := hide ((put_rows G1.out hk rfl G3.out HRx.out (below_next BW2.out BB5.out) hown5).rd); clear hown5 hk5)
                | (go_at_call 113; refine (l4Copy_any av5 cv5 (bs.length + 1) _ w5 RD5.out HLn.out (by rw [← HLn.out]; omega) HSm.out).mono ?_; rintro r w6 ⟨g6, cv6, rfl, hcv6, hG6, hb6⟩; have GG6 := hide (hG6.mono BB5.out.size); have B6 := hide (below_next BB5.out hb6); clear hG6 hb6)))
            have hpl : (putE es e).length = bs.length + 1 := by rw [HPU2.out]; exact HLn.out.symm
            have HPL := hide hpl
            clear hpl
            go_wp2_with fail
            go_ret
            have hz0 := HW0.out
            have hz1 := BW2.out.size
            exact ⟨g6, cv6, by rw [HPL.out]; rfl, by rw [HPL.out, HPU2.out]; exact GG6.out.mono (by omega), below_next B0.out (below_next BW2.out B6.out)⟩
          · have hck2 : ¬ k = lc := fun e => hck e.symm
            have NEWS2 : Hid (∀ w5 : World, Below W2.heap.size W2 w5 → ∀ j u, (rowR (rs.drop k))[j]? = some u → w5.cell? ((⟨g5, k * 4, none⟩ : Addr).add j) = some u) := fun w5 hb5 => row_news (k := k) G2.out (below_next HWk.out hb5) (rowR (rs.drop k)) (fun j u hj => by rw [← rowR_drop, List.getElem?_drop] at hj; exact hj)
            go_region_held3 (fun w' => w'.cell? ⟨bk, 0, none⟩ = some (.string (str e.path)) ∧ w'.cell? ⟨bk, 1, none⟩ = some (.int .i64 e.kind) ∧ w'.cell? ⟨bk, 2, none⟩ = some (.int .i64 e.size) ∧ w'.cell? ⟨bk, 3, none⟩ = some (.slice x e.chunks.length cc)) (first | exact KC.out _ BB4.out | exact KC.out _ BB5.out | exact KC.out _ B6.out | go_keep)
              ((first
                | (refine step_append_list (by rfl) (.tmp 66) (.tmp 68) 30 (by rfl) W2.heap.size 40 i1 (.agg #[.string ⟨#[]⟩, .int .i64 0, .int .i64 0, .slice none 0 0]) 4 56 Tryz.underlying30 ki kz0 kz1 kz2 rfl (by decide) (.slice av3 k cv3) k ([] ++ rowR (rs.take k)) (by rfl) OWN1.out ⟨w3.heap.size, 0, none⟩ 1 1 (cellsR ⟨e, x, cc⟩) (by rfl) (by rfl) NEWS1.out (rowR_one [⟨e, x, cc⟩]) (k + 1) rfl hm1 hm1' (by simp; omega) ?_; intro av4 cv4 w4 hown4 hk4; have O4 := hide hown4; have BB4 := hide (BW3.out.trans ((((Kept.refl (fun q => (Value.slice av3 k cv3).ownBlock = some q) w3).alloc _).drew.trans hk4).below hs3 (fun q hq hS => by have := (O3.out.lt q hS).1; omega))); clear hown4 hk4)
                | (refine step_append_list (by rfl) (.tmp 69) (.tmp 72) 30 (by rfl) W2.heap.size 40 i1 (.agg #[.string ⟨#[]⟩, .int .i64 0, .int .i64 0, .slice none 0 0]) 4 56 Tryz.underlying30 ki kz0 kz1 kz2 rfl (by decide) (.slice av4 (k + 1) cv4) (k + 1) (([] ++ rowR (rs.take k)) ++ cellsR ⟨e, x, cc⟩) (by rfl) O4.out ⟨g5, k * 4, none⟩ (bs.length - k) (lc - k) (rowR (rs.drop k)) (by rfl) hnl (NEWS2.out w4 BB4.out) (rowR_one _) (bs.length + 1) hk1' hm2 hm2' BB4.out.size ?_; intro av5 cv5 w5 hown5 hk5; have O5 := hide hown5; have BB5 := hide (BB4.out.trans (hk5.below BB4.out.size (fun q hq hS => by have := (O4.out.lt q hS).1; omega))); have RD5 := hide ((put_rows G1.out hk rfl G3.out HRx.out (below_next BW2.out BB5.out) hown5).rd); clear hown5 hk5)
                | (go_at_call 113; refine (l4Copy_any av5 cv5 (bs.length + 1) _ w5 RD5.out HLn.out (by rw [← HLn.out]; omega) HSm.out).mono ?_; rintro r w6 ⟨g6, cv6, rfl, hcv6, hG6, hb6⟩; have GG6 := hide (hG6.mono BB5.out.size); have B6 := hide (below_next BB5.out hb6); clear hG6 hb6)))
            have hpl : (putE es e).length = bs.length + 1 := by rw [HPU2.out]; exact HLn.out.symm
            have HPL := hide hpl
            clear hpl
            go_wp2_with fail
            go_ret
            have hz0 := HW0.out
            have hz1 := BW2.out.size
            exact ⟨g6, cv6, by rw [HPL.out]; rfl, by rw [HPL.out, HPU2.out]; exact GG6.out.mono (by omega), below_next B0.out (below_next BW2.out B6.out)⟩

end Go.Proofs.YtjkmbicedbdifaaGreat

namespace Go.Proofs.YtjkmbicedbdifaaGreat
open Go.RowKit Go.Maps
set_option linter.unusedVariables false
attribute [local go_sem ↓] Go.wp_at_zero Go.wp_at_succ

/-- append(nil, x...): x read, whether it has memory or not. -/
theorem wpList_append_nil {P : Program} {wr : World} {ops : Array Oper} {rest : List Oper} {o : Oper} {a : Act} {Q : Exit → Act → World → Prop} (hgd : o.guard = none) (s x : Operand) (t : TypeId)
    (ho : o.op = .call { callee := .builtin .append, args := #[s, x], argTypes := #[t, t] })
    (e : TypeId) (i : TypeInfo) (k : IntKind) (bytes : Nat) (hu : P.underlying t = some (.slice e)) (hi : P.info? e = some i) (hz : i.zero = some (.int k 0))
    (hsize : i.size = 1) (hby : i.bytes = bytes) (hs : a.eval s = .slice none 0 0)
    (xa : Option Addr) (m cap : Nat) (zs : List Int) (hx : a.eval x = .slice xa m cap) (hm : m = zs.length) (hr : Reads k wr xa zs)
    (h63 : 0 + m ≤ maxLen) (hbytes : (0 + m) * bytes ≤ 140737488355328)
    (h : ∀ av cv w', w'.ownsRow wr.heap.size e 1 (.slice av m cv) m (zs.map (Value.int k)) → Below wr.heap.size wr w' → wpList P ops Q rest (a.put o.dst (.slice av m cv)) w') :
    wpList P ops Q (o :: rest) a wr := by
  cases xa with
  | some ad =>
    refine wpList_append_own _ hgd s x t ho wr.heap.size e i (.int k 0) 1 bytes hu hi hz hsize hby rfl (by decide) _ 0 [] hs (World.ownsRow_nil _ _ _ _) ad m cap (zs.map (Value.int k)) hx (by simp [hm]) (fun j u hj => ?_) (ints_one _ _) h63 hbytes (Nat.le_refl _) ?_
    · have h0 : zs ≠ [] := fun e => by subst e; simp at hj
      obtain ⟨b, off, e1, hb, hc⟩ := hr h0
      simp only [Option.some.injEq] at e1
      subst e1
      exact reads_news hc j u hj
    · intro v' w' ho' hg _
      rw [List.nil_append, Nat.zero_add] at ho'
      obtain ⟨av, cv, rfl⟩ := ownsRow_shape ho'
      exact h av cv w' ho' ⟨hg.os, hg.tape, hg.output, hg.size, fun q hq => hg.block q hq (fun e => by simp [Value.ownBlock] at e)⟩
  | none =>
    have h0 : zs = [] := by
      by_cases h0 : zs = []
      · exact h0
      · obtain ⟨b, off, e1, _⟩ := hr h0; cases e1
    subst h0
    simp only [List.length_nil] at hm
    subst hm
    have hrun : (Builtin.append_ #[t, t] o.type #[.slice none 0 0, .slice none 0 cap]).run P wr = .ok (.slice none 0 0) wr := by
      simp [Builtin.append_, run_underlying hu, sizeOf, typeInfo, hi, Builtin.lenOf, Builtin.firstCells]
    refine wpList_plain hgd fun K hK => ?_
    unfold Oper.wp execOp
    simp only [ho, resolve, invoke, builtin, Sem.run_bind, Sem.run_pure, Result.andThen_ok, List.map_toArray, List.map_cons, List.map_nil, hs, hx, hrun]
    exact hK _ _ (h _ _ wr (World.ownsRow_nil _ _ _ _) (Below.refl _ _))

set_option maxHeartbeats 400000 in
theorem copyChunks_any (z : Int) (x : Option Addr) (c : Nat) (zs : List Int) (w : World) (h : Reads .i64 w x zs) (hc : zs.length ≤ 1048576) :
    Calls Tryz.prog 77 #[.agg #[.int .i64 z, .slice x zs.length c]] w fun r w' => ∃ av cv, r = .returned (.slice av zs.length cv) ∧ w'.ownsRow w.heap.size 2 1 (.slice av zs.length cv) zs.length (zs.map (Value.int .i64)) ∧ Below w.heap.size w w' := by
  obtain ⟨i0, hi0, hz0, hz1, hz2⟩ := info_parts Tryz.infoI64
  have HR := hide (h.below (below_alloc w (.cells #[.int .i64 z, .slice x zs.length c] 62)))
  have hm0 : 0 + zs.length ≤ maxLen := by unfold maxLen; omega
  have hm1 : (0 + zs.length) * 8 ≤ 140737488355328 := by omega
  clear h
  go_enter Tryz.func77, Tryz.ntmps77
  go_wp2_with (at_builtin; refine wpList_append_nil rfl (.const (.slice none 0 0)) (.tmp 4) 38 rfl 2 i0 .i64 8 Tryz.underlying38 hi0 hz0 hz1 hz2 rfl x zs.length c zs rfl rfl HR.out hm0 hm1 ?_; intro av cv w1 hown1 hk1; have O1 := hide hown1; have B1 := hide hk1; clear hown1 hk1)
  go_ret
  exact ⟨av, cv, rfl, ownsRow_mono O1.out (by simp), below_next (below_alloc _ _) B1.out⟩

theorem Tryz.infoIt : (Tryz.prog.info? 64).map (fun i => (i.zero, i.size, i.bytes)) = some (some (.agg #[.int .i64 0, .slice none 0 0, .string ⟨#[]⟩, .int .i64 0]), 4, 56) := by kernel_rfl

/-- An item's cells. -/
def cellsI (r : Rw) : List Value := [.int .i64 r.e.size, .slice r.a r.e.chunks.length r.c, .string (str r.e.path), .int .i64 r.e.kind]
def rowI (rs : List Rw) : List Value := rs.flatMap cellsI
theorem rowI_append (a b : List Rw) : rowI (a ++ b) = rowI a ++ rowI b := by simp [rowI]
theorem rowI_length : ∀ rs : List Rw, (rowI rs).length = rs.length * 4
  | [] => rfl
  | r :: rs => by
    have := rowI_length rs
    simp only [rowI, List.flatMap_cons, List.length_append, List.length_cons] at this ⊢
    rw [this]; simp [cellsI]; omega
theorem rowI_get : ∀ (rs : List Rw) (i q : Nat) (r : Rw), rs[i]? = some r → q < 4 → (rowI rs)[i * 4 + q]? = (cellsI r)[q]?
  | [], i, q, r, h, _ => by simp at h
  | x :: rs, 0, q, r, h, hq => by
    simp only [List.getElem?_cons_zero, Option.some.injEq] at h
    subst h
    simp only [rowI, List.flatMap_cons, Nat.zero_mul, Nat.zero_add]
    rw [List.getElem?_append_left (by simp [cellsI]; omega)]
  | x :: rs, i + 1, q, r, h, hq => by
    have := rowI_get rs i q r (by simpa using h) hq
    rw [← this]
    simp only [rowI, List.flatMap_cons]
    rw [List.getElem?_append_right (by simp [cellsI]; omega)]
    congr 1
    simp [cellsI]; omega
theorem rowI_one (rs : List Rw) : ∀ u ∈ rowI rs, u.oneCell' = true := by
  intro u hu
  simp only [rowI, List.mem_flatMap] at hu
  obtain ⟨r, _, hr⟩ := hu
  simp only [cellsI, List.mem_cons, List.not_mem_nil, or_false] at hr
  rcases hr with rfl | rfl | rfl | rfl <;> rfl
/-- The slice at address a reads as items of the entries es. -/
def RdI (w : World) (a : Option Addr) (es : List En) : Prop :=
  es ≠ [] → ∃ (b off : Nat) (A : Nat → Option Addr) (C : Nat → Nat), a = some ⟨b, off, none⟩ ∧ b < w.heap.size ∧ ∀ i e, es[i]? = some e →
    w.cell? ⟨b, off + i * 4, none⟩ = some (.int .i64 e.size) ∧ w.cell? ⟨b, off + i * 4 + 1, none⟩ = some (.slice (A i) e.chunks.length (C i)) ∧ w.cell? ⟨b, off + i * 4 + 2, none⟩ = some (.string (str e.path)) ∧
    w.cell? ⟨b, off + i * 4 + 3, none⟩ = some (.int .i64 e.kind) ∧ Reads .i64 w (A i) e.chunks
theorem RdI.below {w w' : World} {a : Option Addr} {es : List En} (h : RdI w a es) (hk : Below w.heap.size w w') : RdI w' a es := by
  intro hz
  obtain ⟨b, off, A, C, e, hb, hc⟩ := h hz
  refine ⟨b, off, A, C, e, Nat.lt_of_lt_of_le hb hk.size, fun i x hx => ?_⟩
  obtain ⟨c0, c1, c2, c3, r⟩ := hc i x hx
  exact ⟨(hk.cell (p := ⟨b, off + i * 4, none⟩) hb).trans c0, (hk.cell (p := ⟨b, off + i * 4 + 1, none⟩) hb).trans c1, (hk.cell (p := ⟨b, off + i * 4 + 2, none⟩) hb).trans c2, (hk.cell (p := ⟨b, off + i * 4 + 3, none⟩) hb).trans c3, r.below hk⟩
theorem RdI.at {w : World} {a : Option Addr} {es : List En} (h : RdI w a es) {k : Nat} (hk : k < es.length) :
    ∃ b off e x c, a = some ⟨b, off, none⟩ ∧ b < w.heap.size ∧ es[k]? = some e ∧ w.cell? ⟨b, off + k * 4, none⟩ = some (.int .i64 e.size) ∧ w.cell? ⟨b, off + k * 4 + 1, none⟩ = some (.slice x e.chunks.length c) ∧ w.cell? ⟨b, off + k * 4 + 2, none⟩ = some (.string (str e.path)) ∧
      w.cell? ⟨b, off + k * 4 + 3, none⟩ = some (.int .i64 e.kind) ∧ Reads .i64 w x e.chunks := by
  obtain ⟨b, off, A, C, e, hb, hc⟩ := h (by intro e; simp [e] at hk)
  have hx : es[k]? = some es[k] := List.getElem?_eq_getElem hk
  obtain ⟨c0, c1, c2, c3, r⟩ := hc k _ hx
  exact ⟨b, off, es[k], A k, C k, e, hb, hx, c0, c1, c2, c3, r⟩
/-- v is a row of items made since w0, whose chunks were read then. -/
def LI (w0 w : World) (v : Value) (es : List En) : Prop :=
  ∃ rs : List Rw, rs.map Rw.e = es ∧ w.ownsRow w0.heap.size 64 4 v es.length (rowI rs) ∧ ∀ r ∈ rs, Reads .i64 w0 r.a r.e.chunks
theorem LI.shape {w0 w : World} {v : Value} {es : List En} (h : LI w0 w v es) : ∃ a c, v = .slice a es.length c := by
  obtain ⟨rs, _, h1, _⟩ := h
  exact ownsRow_shape h1
theorem LI.nil (w0 w : World) : LI w0 w (.slice none 0 0) [] :=
  ⟨[], rfl, World.ownsRow_nil _ _ _ _, fun r hr => by simp at hr⟩
theorem LI.below {w0 w w' : World} {v : Value} {es : List En} (h : LI w0 w v es) (hk : Below w.heap.size w w') : LI w0 w' v es := by
  obtain ⟨rs, he, h1, h2⟩ := h
  exact ⟨rs, he, ownsRow_below h1 hk, h2⟩
theorem LI.push {w0 w2 : World} {v' : Value} {es : List En} {rs : List Rw} {e : En} {a : Option Addr} {c m : Nat} (he : rs.map Rw.e = es) (hm : m = es.length)
    (h2 : ∀ r ∈ rs, Reads .i64 w0 r.a r.e.chunks) (hr : Reads .i64 w0 a e.chunks)
    (hv' : w2.ownsRow w0.heap.size 64 4 v' (m + 1) (rowI rs ++ cellsI ⟨e, a, c⟩)) : LI w0 w2 v' (es ++ [e]) := by
  subst hm
  refine ⟨rs ++ [⟨e, a, c⟩], by rw [List.map_append, he]; rfl, ?_, fun r hx => ?_⟩
  · rw [rowI_append, List.length_append]
    simpa [rowI] using hv'
  · rcases List.mem_append.1 hx with hx | hx
    · exact h2 r hx
    · simp only [List.mem_singleton] at hx
      subst hx
      exact hr
theorem LI.rd {w0 w : World} {a : Option Addr} {n c : Nat} {es : List En} (h : LI w0 w (.slice a n c) es) (hb : Below w0.heap.size w0 w) : RdI w a es := by
  intro hz
  obtain ⟨rs, he, h1, h2⟩ := h
  have h0 : 0 < es.length := List.length_pos_iff.2 hz
  have hl : rs.length = es.length := by rw [← he, List.length_map]
  rcases h1.2 with ⟨_, h0'⟩ | ⟨g, cap, cur, h', hb', hh, hnc, hcm, hcs, htake⟩
  · omega
  · simp only [Value.slice.injEq] at h'
    obtain ⟨rfl, rfl, rfl⟩ := h'
    refine ⟨g, 0, fun i => (rs[i]?.map Rw.a).getD none, fun i => (rs[i]?.map Rw.c).getD 0, rfl, (h1.lt g rfl).2, fun i e hi => ?_⟩
    have hi0 : i < es.length := (List.getElem?_eq_some_iff.1 hi).1
    obtain ⟨r, hr⟩ : ∃ r, rs[i]? = some r := ⟨rs[i]'(by omega), List.getElem?_eq_getElem (by omega)⟩
    have hre : r.e = e := by
      have : (rs.map Rw.e)[i]? = some r.e := by rw [List.getElem?_map, hr]; rfl
      rw [he, hi] at this
      exact (Option.some.inj this).symm
    have hc := fun q hq => (h1.cellAt (i * 4 + q) (by omega)).trans (rowI_get rs i q r hr hq)
    simp only [hr, Option.map_some, Option.getD_some, Nat.zero_add]
    rw [← hre]
    exact ⟨hc 0 (by decide), hc 1 (by decide), hc 2 (by decide), hc 3 (by decide), (h2 r (List.mem_of_getElem? hr)).below hb⟩

end Go.Proofs.YtjkmbicedbdifaaGreat

namespace Go.Proofs.YtjkmbicedbdifaaGreat
open Go.RowKit Go.Maps
set_option linter.unusedVariables false
attribute [local go_sem ↓] Go.wp_at_zero Go.wp_at_succ

theorem RdI.fresh {w : World} {e : En} {x : Option Addr} {c : Nat} {t : TypeId} (h : Reads .i64 w x e.chunks) : RdI (w.alloc (.cells #[.int .i64 e.size, .slice x e.chunks.length c, .string (str e.path), .int .i64 e.kind] t)) (some ⟨w.heap.size, 0, none⟩) [e] := by
  intro _
  obtain ⟨f0, f1, f2, f3⟩ := Four.new w (.int .i64 e.size) (.slice x e.chunks.length c) (.string (str e.path)) (.int .i64 e.kind) t
  refine ⟨w.heap.size, 0, fun _ => x, fun _ => c, rfl, by simp, fun i y hy => ?_⟩
  have hi : i = 0 := by
    have := (List.getElem?_eq_some_iff.1 hy).1
    simp at this
    exact this
  subst hi
  simp only [List.getElem?_cons_zero, Option.some.injEq] at hy
  subst hy
  simp only [Nat.zero_mul, Nat.add_zero, Nat.zero_add]
  exact ⟨f0, f1, f2, f3, h.below (below_alloc _ _)⟩

set_option maxRecDepth 100000 in
set_option maxHeartbeats 3200000 in
theorem entriesOf_any (a : Option Addr) (c n : Nat) (es : List En) (w : World) (h : RdI w a es) (hn : n = es.length) (hl : es.length ≤ 1048576) (hs : SmallE es) :
    Calls Tryz.prog 37 #[.slice a n c] w fun r w' => ∃ av cv, r = .returned (.slice av n cv) ∧ GE w.heap.size w'.heap.size w' (.slice av n cv) es ∧ Below w.heap.size w w' := by
  subst hn
  obtain ⟨i1, ki, kz0, kz1, kz2⟩ := info_parts Tryz.infoEn
  have HA := hide h
  have HS := hide hs
  clear h hs
  go_enter Tryz.func37, Tryz.ntmps37
  go_wp2_with fail
  go_loopw [3, 8] (fun v i wr => ∃ j : Nat, j ≤ es.length ∧ i = .int .i64 j ∧ Hid (GE w.heap.size wr.heap.size wr v (es.take j)) ∧ Hid (Below w.heap.size w wr)) (fun _ i _ => es.length - (intOf i).toNat)
  case atStart => exact ⟨0, Nat.zero_le _, rfl, hide (GE.nil _ _ _), hide (Below.refl _ _)⟩
  case round =>
    obtain ⟨j, hj, rfl, HG, HW⟩ := hrel
    obtain ⟨lv, lc, hv⟩ := HG.out.shape
    rw [take_len hj] at hv
    subst hv
    have HA1 := hide (HA.out.below HW.out)
    have hsz := HW.out.size
    by_cases hlt : j < es.length
    · obtain ⟨b, off, e, x, cc, rfl, hb, he, c0, c1, c2, c3, hr⟩ := HA1.out.at hlt
      have HX := hide he
      have HRc := hide (hr.below (below_alloc wr (.cells #[.int .i64 e.size, .slice x e.chunks.length cc, .string (str e.path), .int .i64 e.kind] 64)))
      have hsm := HS.out e (List.mem_of_getElem? he)
      have BW2 := hide (below_alloc wr (.cells #[.int .i64 e.size, .slice x e.chunks.length cc, .string (str e.path), .int .i64 e.kind] 64))
      have F4 := hide (Four.new wr (.int .i64 e.size) (.slice x e.chunks.length cc) (.string (str e.path)) (.int .i64 e.kind) 64)
      clear he hr
      obtain ⟨rs, g1, g2, g3, g4, g5, g6⟩ := HG.out
      have G1 := hide g1
      have G2 := hide g2
      have G3 := hide g3
      have G4 := hide g4
      clear g1 g2 g3 g4 g5 g6 HG
      have hj1 : (es.take j).length = j := take_len hj
      have hm1 : j + 1 ≤ maxLen := by unfold maxLen; omega
      have hm1' : (j + 1) * 56 ≤ 140737488355328 := by omega
      have G2' : Hid (wr.ownsRow w.heap.size 40 4 (.slice lv j lc) j (rowR rs)) := by have := G2.out; rw [hj1] at this; exact this
      have HJ := hide hj1
      clear hj1
      go_wp2_with fail
      clear c0 c1 c2 c3
      have hbk : wr.heap.size < (wr.alloc (.cells #[.int .i64 e.size, .slice x e.chunks.length cc, .string (str e.path), .int .i64 e.kind] 64)).heap.size := F4.out.lt
      generalize wr.alloc (.cells #[.int .i64 e.size, .slice x e.chunks.length cc, .string (str e.path), .int .i64 e.kind] 64) = W2 at *
      obtain ⟨bk, hbke⟩ : ∃ bk, bk = wr.heap.size := ⟨_, rfl⟩
      rw [← hbke] at F4 hbk ⊢
      have HBK := hide hbke
      clear hbke
      have KC : Hid (∀ w' : World, Below W2.heap.size W2 w' → w'.cell? ⟨bk, 0, none⟩ = some (.int .i64 e.size) ∧ w'.cell? ⟨bk, 1, none⟩ = some (.slice x e.chunks.length cc) ∧ w'.cell? ⟨bk, 2, none⟩ = some (.string (str e.path)) ∧ w'.cell? ⟨bk, 3, none⟩ = some (.int .i64 e.kind)) := hide (fun w' hb' => F4.out.below hb')
      have KD : Hid (∀ w2 w3 : World, Below W2.heap.size W2 w2 → Kept (fun q => (Value.slice lv j lc).ownBlock = some q) w2 w3 → w3.cell? ⟨bk, 0, none⟩ = some (.int .i64 e.size) ∧ w3.cell? ⟨bk, 1, none⟩ = some (.slice x e.chunks.length cc) ∧ w3.cell? ⟨bk, 2, none⟩ = some (.string (str e.path)) ∧ w3.cell? ⟨bk, 3, none⟩ = some (.int .i64 e.kind)) := hide (fun w2 w3 hb' hk' => by
        have hn : ¬ (Value.slice lv j lc).ownBlock = some bk := fun hq => by have := (G2'.out.lt bk hq).2; have := HBK.out; omega
        have hlt2 : bk < w2.heap.size := Nat.lt_of_lt_of_le hbk hb'.size
        obtain ⟨q0, q1, q2, q3⟩ := KC.out w2 hb'
        exact ⟨(hk'.cell (p := ⟨bk, 0, none⟩) hlt2 hn).trans q0, (hk'.cell (p := ⟨bk, 1, none⟩) hlt2 hn).trans q1, (hk'.cell (p := ⟨bk, 2, none⟩) hlt2 hn).trans q2, (hk'.cell (p := ⟨bk, 3, none⟩) hlt2 hn).trans q3⟩)
      obtain ⟨f0, f1, f2, f3⟩ := F4.out
      go_region_held3 (fun w' => w'.cell? ⟨bk, 0, none⟩ = some (.int .i64 e.size) ∧ w'.cell? ⟨bk, 1, none⟩ = some (.slice x e.chunks.length cc) ∧ w'.cell? ⟨bk, 2, none⟩ = some (.string (str e.path)) ∧ w'.cell? ⟨bk, 3, none⟩ = some (.int .i64 e.kind)) (first | exact KC.out _ BB1.out | exact KC.out _ BB2.out | exact KD.out _ _ BB2.out K3.out | go_keep)
        ((first
          | (go_at_call 27; refine (clone_str _ _ (by rw [str_size]; omega)).mono ?_; rintro r w1 ⟨rfl, hb1⟩; have BB1 := hide ((Below.refl W2.heap.size W2).drew.trans hb1); clear hb1)
          | (go_at_call 77; refine (copyChunks_any _ _ _ _ _ (HRc.out.below BB1.out) hsm.2).mono ?_; rintro r w2 ⟨av2, cv2, rfl, ho2, hb2⟩; have O2 := hide ho2; have BB2 := hide (below_next BB1.out hb2); clear ho2 hb2)
          | (refine step_append_list (by rfl) (.tmp 12) (.tmp 25) 30 (by rfl) w.heap.size 40 i1 (.agg #[.string ⟨#[]⟩, .int .i64 0, .int .i64 0, .slice none 0 0]) 4 56 Tryz.underlying30 ki kz0 kz1 kz2 rfl (by decide) (.slice lv j lc) j (rowR rs) (by rfl) ((ownsRow_below G2'.out (below_next BW2.out BB2.out)).alloc _) ⟨w2.heap.size, 0, none⟩ 1 1 (cellsR ⟨e, av2, cv2⟩) (by rfl) (by rfl) (news_four rfl) (rowR_one [⟨e, av2, cv2⟩]) (j + 1) rfl hm1 hm1' (by have := BW2.out.size; have := BB2.out.size; simp; omega) ?_; intro av3 cv3 w3 hown3 hk3; have O3 := hide hown3; have K3 := hide (((Kept.refl (fun q => (Value.slice lv j lc).ownBlock = some q) w2).alloc _).trans hk3); clear hown3 hk3)))
      go_wp2_with fail
      go_roundw
      case rel =>
        have hs1 := BW2.out.size
        have hs2 := BB1.out.size
        have hs3 := BB2.out.size
        refine ⟨j + 1, by omega, by go_num, hide ?_, hide ?_⟩
        · rw [take_snoc_at HX.out]
          exact GE.push G1.out G2.out G3.out G4.out hsz (below_next BW2.out BB2.out) (ownsRow_mono O2.out (by omega)) (by rw [HJ.out]; exact O3.out) K3.out
        · exact (below_next HW.out (below_next BW2.out BB2.out)).trans (K3.out.below (by omega) (fun k hk hx => by have := (G2'.out.lt k hx).1; omega))
      case measure => simp [intOf]; omega
    · have hje : j = es.length := by omega
      have HE := hide (show es.take j = es from List.take_of_length_le (by omega))
      have HG2 : Hid (GE w.heap.size wr.heap.size wr (.slice lv j lc) es) := by have := HG.out; rw [HE.out] at this; exact this
      clear HG HE
      subst hje
      go_wp2_with fail
      go_ret
      exact ⟨_, _, rfl, HG2.out, HW.out⟩

end Go.Proofs.YtjkmbicedbdifaaGreat

namespace Go.Proofs.YtjkmbicedbdifaaGreat
open Go.RowKit Go.Maps
set_option linter.unusedVariables false
attribute [local go_sem ↓] Go.wp_at_zero Go.wp_at_succ

/-- What the program's EntryAt answers. -/
def findCodeP (es : List En) (p : Bs) : Int := if askP es p = 0 then (if (findE es p).isSome then 0 else 4) else askP es p
def findListP (es : List En) (p : Bs) : List En := if findCodeP es p = 0 then (findE es p).toList else []
theorem findE_step {es : List En} {k : Nat} {e : En} {p : Bs} (he : es[k]? = some e) (h : findE es p = findE (es.drop k) p) (hp : e.path ≠ p) : findE es p = findE (es.drop (k + 1)) p := by
  rw [h, drop_at he, findE, List.find?_cons]
  simp [hp, findE]
theorem findE_hit {es : List En} {k : Nat} {e : En} {p : Bs} (he : es[k]? = some e) (h : findE es p = findE (es.drop k) p) (hp : e.path = p) : findE es p = some e := by
  rw [h, drop_at he, findE, List.find?_cons]
  simp [hp]
theorem findE_end {es : List En} {k : Nat} {p : Bs} (hk : es.length ≤ k) (h : findE es p = findE (es.drop k) p) : findE es p = none := by
  rw [h, List.drop_eq_nil_of_le hk]; rfl


/-- Is a path the other one, or below it, as the program asks? -/
def atBelow (p t : Bs) : Bool := decide (p = t) || isBelow p t
set_option maxHeartbeats 800000 in
theorem isAtOrBelow_any (p t : Bs) (k z : Int) (a : Option Addr) (n c : Nat) (w : World) (hp : p.length ≤ 1048576) :
    Calls Tryz.prog 137 #[.agg #[.int .i64 z, .slice a n c, .string (str p), .int .i64 k], .string (str t)] w fun r w' => r = .returned (.bool (atBelow p t)) ∧ Below w.heap.size w w' := by
  have HB := hide (below_alloc w (.cells #[.int .i64 z, .slice a n c, .string (str p), .int .i64 k] 64))
  by_cases h : p = t
  · have hs1 := str_yes h
    have HE := hide (show atBelow p t = true from by simp [atBelow, h])
    clear h
    generalize atBelow p t = Z at HE ⊢
    go_enter Tryz.func137, Tryz.ntmps137
    go_wp2_with fail
    go_ret
    exact ⟨ret_bool HE.out.symm, HB.out⟩
  · have hs1 := str_no h
    have HE := hide (show atBelow p t = isBelow p t from by simp [atBelow, h])
    clear h
    generalize atBelow p t = Z at HE ⊢
    go_enter Tryz.func137, Tryz.ntmps137
    go_wp2_with fail
    refine (implIsBelow_any _ _ _ (by rw [str_size]; omega)).mono ?_
    rintro r w1 ⟨rfl, hb1⟩
    rw [str_data, str_data, ← HE.out]
    have HB1 := hide (below_next HB.out hb1)
    clear hb1 HE
    go_wp2_with fail
    cases Z
    · go_ret
      exact ⟨rfl, HB1.out⟩
    · go_ret
      exact ⟨rfl, HB1.out⟩
/-- Does an entry give way to another one that is put? -/
def oustsE (e x : En) : Bool := if dirK e.kind then decide (x.path = e.path) else atBelow x.path e.path

/-- What DropBelow leaves. -/
def restP (es : List En) (p : Bs) : List En := es.filter fun e => !(atBelow e.path p)
def dropListP (es : List En) (p : Bs) : List En := if askP es p = 0 then restP es p else []
theorem restP_in {es : List En} {p : Bs} {k : Nat} {e : En} (he : es[k]? = some e) (h : atBelow e.path p = false) : restP (es.take (k + 1)) p = restP (es.take k) p ++ [e] := by
  rw [take_snoc_at he]; simp [restP, h]
theorem restP_out {es : List En} {p : Bs} {k : Nat} {e : En} (he : es[k]? = some e) (h : atBelow e.path p = true) : restP (es.take (k + 1)) p = restP (es.take k) p := by
  rw [take_snoc_at he]; simp [restP, h]
theorem restP_len (es : List En) (p : Bs) : (restP es p).length ≤ es.length := List.length_filter_le _ _
theorem restP_small {es : List En} (h : SmallE es) (p : Bs) : SmallE (restP es p) := fun e he => h e (List.mem_filter.1 he).1


end Go.Proofs.YtjkmbicedbdifaaGreat

namespace Go.Proofs.YtjkmbicedbdifaaGreat
open Go.RowKit Go.Maps
set_option linter.unusedVariables false

/-- What PutEntry answers. -/
def putCode (es : List En) (e : En) : Int :=
  if layFault es = 0 then (if entFault e = 0 then (if homeE es e.path then (if 12 < (putE es e).length then 2 else 0) else 9) else entFault e) else layFault es
def putList (es : List En) (e : En) : List En := if putCode es e = 0 then putE es e else []

set_option maxRecDepth 100000 in
set_option maxHeartbeats 3200000 in
theorem specPutEntry_any (a : Option Addr) (c n : Nat) (es : List En) (e : En) (x : Option Addr) (m cc : Nat) (w : World) (h : RdE w a es) (hn : n = es.length) (hl : es.length < 1048576) (hs : SmallE es) (hm : m = e.chunks.length) (hr : Reads .i64 w x e.chunks) (hp : e.path.length ≤ 1048576) (hcl : e.chunks.length ≤ 1048576) :
    Calls Tryz.prog 95 #[.slice a n c, .agg #[.string (str e.path), .int .i64 e.kind, .int .i64 e.size, .slice x m cc]] w (ResE (putCode es e) (putList es e) w) := by
  subst hn
  subst hm
  have HF := hide (fun u hb => l4Fault_any a c es.length es u (h.below hb) rfl (by omega) hs)
  have HEf := hide (fun u (hb : Below w.heap.size w u) => specEntryFault_any e x cc e.chunks.length u (hr.below hb) rfl hp hcl)
  have HHo := hide (fun u hb h1 => l4Home_any a c es.length es e.path u (h.below hb) rfl (by omega) h1 hp)
  have HPu := hide (fun u hb => l4Put_any a c es.length es e x e.chunks.length cc u (h.below hb) rfl hl hs rfl (hr.below hb) hp hcl)
  clear h hs hr
  go_enter Tryz.func95, Tryz.ntmps95
  go_wp2_with fail
  have B0 := hide (below_next (below_alloc w (.cells #[.string (str e.path), .int .i64 e.kind, .int .i64 e.size, .slice x e.chunks.length cc] 40)) (below_alloc _ (.cells #[.int .i64 0, .slice none 0 0] 36)))
  have F0 := hide ((Four.new w (.string (str e.path)) (.int .i64 e.kind) (.int .i64 e.size) (.slice x e.chunks.length cc) 40).below (below_alloc _ (.cells #[.int .i64 0, .slice none 0 0] 36)))
  have X0 := hide (Box.new (w.alloc (.cells #[.string (str e.path), .int .i64 e.kind, .int .i64 e.size, .slice x e.chunks.length cc] 40)) (.int .i64 0) (.slice none 0 0) 36)
  have hsz0 : (w.alloc (.cells #[.string (str e.path), .int .i64 e.kind, .int .i64 e.size, .slice x e.chunks.length cc] 40)).heap.size = w.heap.size + 1 := by simp
  rw [hsz0] at X0
  clear hsz0
  generalize (w.alloc (.cells #[.string (str e.path), .int .i64 e.kind, .int .i64 e.size, .slice x e.chunks.length cc] 40)).alloc (.cells #[.int .i64 0, .slice none 0 0] 36) = w0 at *
  have hrb : w.heap.size ≤ w.heap.size + 1 := Nat.le_succ _
  generalize hbk : w.heap.size + 1 = rb at *
  have HRB := hide hrb
  clear hrb hbk
  refine (HF.out _ B0.out).mono ?_
  rintro r w1 ⟨rfl, hb1⟩
  have B1 := hide (below_next B0.out hb1)
  have F1 := hide (F0.out.below hb1)
  have X1 := hide (X0.out.below hb1)
  clear hb1 B0 F0 X0 HF
  by_cases hz : layFault es = 0
  · rw [hz]
    obtain ⟨f0, f1, f2, f3⟩ := F1.out
    go_wp2_with fail
    refine (HEf.out _ B1.out).mono ?_
    rintro r w2 ⟨rfl, hb2⟩
    have B2 := hide (below_next B1.out hb2)
    have X2 := hide (X1.out.below hb2)
    have F2 := hide (F1.out.below hb2)
    clear hb2 f0 f1 f2 f3 F1 X1 B1 HEf
    by_cases he : entFault e = 0
    · rw [he]
      have hpos := path_pos (entFault_zero he)
      obtain ⟨f0, f1, f2, f3⟩ := F2.out
      go_wp2_with fail
      refine (HHo.out _ B2.out hpos).mono ?_
      rintro r w3 ⟨rfl, hb3⟩
      have B3 := hide (below_next B2.out hb3)
      have X3 := hide (X2.out.below hb3)
      have F3 := hide (F2.out.below hb3)
      clear hb3 f0 f1 f2 f3 F2 X2 B2 HHo
      cases hh : homeE es e.path
      · have HC := hide (show putCode es e = 9 ∧ putList es e = [] from by
          have : putCode es e = 9 := by simp [putCode, hz, he, hh]
          exact ⟨this, by simp [putList, this]⟩)
        clear hh hz he
        obtain ⟨⟨t0, t1⟩, t2, t3⟩ := X3.out
        go_wp2_with fail
        exact bodyPost_ret (v := .agg #[.int .i64 9, .slice none 0 0]) (by simp [results, Tryz.results95, go_sem, t0, t1]) rfl (by rw [HC.out.1, HC.out.2]; exact ResE.bad HRB.out B3.out)
      · have HC0 := hide (show putCode es e = (if 12 < (putE es e).length then 2 else 0) from by simp [putCode, hz, he, hh])
        clear hh hz he
        obtain ⟨f0, f1, f2, f3⟩ := F3.out
        go_wp2_with fail
        refine (HPu.out _ B3.out).mono ?_
        rintro r w4 ⟨g, cv, rfl, hG, hb4⟩
        have hlt0 := X3.out.1.lt
        have B4 := hide (below_next B3.out hb4)
        obtain ⟨⟨t0, t1⟩, t2, t3⟩ := X3.out.below hb4
        have GG := hide hG
        clear hG hb4 f0 f1 f2 f3 F3 X3 HPu
        by_cases hq : 12 < (putE es e).length
        · have HC := hide (show putCode es e = 2 ∧ putList es e = [] from by
            have : putCode es e = 2 := by rw [HC0.out, if_pos hq]
            exact ⟨this, by simp [putList, this]⟩)
          have hq2 : (12 : Int) < ((putE es e).length : Int) := by omega
          go_wp2_with fail
          exact bodyPost_ret (v := .agg #[.int .i64 2, .slice none 0 0]) (by simp [results, Tryz.results95, go_sem, t0, t1]) rfl (by rw [HC.out.1, HC.out.2]; exact ResE.bad HRB.out B4.out)
        · have HC := hide (show putCode es e = 0 ∧ putList es e = putE es e from by
            have : putCode es e = 0 := by rw [HC0.out, if_neg hq]
            exact ⟨this, by simp [putList, this]⟩)
          have hq2 : ¬ (12 : Int) < ((putE es e).length : Int) := by omega
          go_wp2_with fail
          exact bodyPost_ret (v := .agg #[.int .i64 0, .slice (some ⟨g, 0, none⟩) (putE es e).length cv]) (by simp [results, Tryz.results95, go_sem, t0, t1]) rfl (by rw [HC.out.1, HC.out.2]; exact ResE.of (w2 := w3) hlt0 HRB.out rfl GG.out B4.out)
    · have HC := hide (show putCode es e = entFault e ∧ putList es e = [] from by
        have : putCode es e = entFault e := by simp [putCode, hz, he]
        exact ⟨this, by simp [putList, this, he]⟩)
      generalize entFault e = F at *
      have hz2 : (F != 0) = true := by simp; exact he
      clear he hz
      obtain ⟨⟨t0, t1⟩, t2, t3⟩ := X2.out
      go_wp2_with fail
      exact bodyPost_ret (v := .agg #[.int .i64 F, .slice none 0 0]) (by simp [results, Tryz.results95, go_sem, t0, t1]) rfl (by rw [HC.out.1, HC.out.2]; exact ResE.bad HRB.out B2.out)
  · have HC := hide (show putCode es e = layFault es ∧ putList es e = [] from by
      have : putCode es e = layFault es := by simp [putCode, hz]
      exact ⟨this, by simp [putList, this, hz]⟩)
    generalize layFault es = F at *
    have hz2 : (F != 0) = true := by simp; exact hz
    clear hz
    obtain ⟨⟨t0, t1⟩, t2, t3⟩ := X1.out
    go_wp2_with fail
    exact bodyPost_ret (v := .agg #[.int .i64 F, .slice none 0 0]) (by simp [results, Tryz.results95, go_sem, t0, t1]) rfl (by rw [HC.out.1, HC.out.2]; exact ResE.bad HRB.out B1.out)

end Go.Proofs.YtjkmbicedbdifaaGreat

namespace Go.Proofs.YtjkmbicedbdifaaGreat
set_option linter.unusedVariables false

theorem bl_irrefl : ∀ a : Bs, Op.bytesLess a a = false
  | [] => rfl
  | c :: a => by simp [Op.bytesLess, bl_irrefl a]
theorem bl_trans : ∀ a b c : Bs, Op.bytesLess a b = true → Op.bytesLess b c = true → Op.bytesLess a c = true
  | a, [], c, h, _ => by cases a <;> simp [Op.bytesLess] at h
  | [], b :: bs, [], _, h2 => by simp [Op.bytesLess] at h2
  | [], b :: bs, c :: cs, _, _ => by simp [Op.bytesLess]
  | a :: xs, b :: ys, [], _, h2 => by simp [Op.bytesLess] at h2
  | a :: xs, b :: ys, c :: zs, h1, h2 => by
    simp only [Op.bytesLess, Bool.or_eq_true, decide_eq_true_eq, Bool.and_eq_true, beq_iff_eq] at h1 h2 ⊢
    rcases h1 with h1 | ⟨rfl, h1⟩
    · rcases h2 with h2 | ⟨rfl, h2⟩
      · exact .inl (UInt8.lt_trans h1 h2)
      · exact .inl h1
    · rcases h2 with h2 | ⟨rfl, h2⟩
      · exact .inl h2
      · exact .inr ⟨rfl, bl_trans xs ys zs h1 h2⟩
theorem bl_total : ∀ a b : Bs, Op.bytesLess a b = false → a ≠ b → Op.bytesLess b a = true
  | [], [], _, h => absurd rfl h
  | [], b :: bs, h, _ => by simp [Op.bytesLess] at h
  | a :: xs, [], _, _ => by simp [Op.bytesLess]
  | a :: xs, b :: ys, h, hn => by
    simp only [Op.bytesLess, Bool.or_eq_false_iff, decide_eq_false_iff_not, Bool.and_eq_false_iff, beq_eq_false_iff_ne] at h
    simp only [Op.bytesLess, Bool.or_eq_true, decide_eq_true_eq, Bool.and_eq_true, beq_iff_eq]
    by_cases e : a = b
    · subst e
      refine .inr ⟨rfl, bl_total xs ys ?_ (fun x => hn (by rw [x]))⟩
      rcases h.2 with h2 | h2
      · exact absurd rfl h2
      · exact h2
    · refine .inl ?_
      have h1 := h.1
      rw [UInt8.lt_iff_toNat_lt] at h1 ⊢
      have : a.toNat ≠ b.toNat := fun x => e (UInt8.toNat_inj.1 x)
      omega
theorem bl_asymm {a b : Bs} (h : Op.bytesLess a b = true) : Op.bytesLess b a = false := by
  cases h2 : Op.bytesLess b a
  · rfl
  · have := bl_trans a b a h h2
    rw [bl_irrefl] at this
    cases this
theorem bl_ne {a b : Bs} (h : Op.bytesLess a b = true) : a ≠ b := fun e => by rw [e, bl_irrefl] at h; cases h

/-- Rising by path. -/
def Rise (es : List En) : Prop := es.Pairwise fun x y => Op.bytesLess x.path y.path = true
theorem lowE_some {q e : En} (h : lowE (some q) e = false) : Op.bytesLess q.path e.path = true := by
  simp only [lowE, Bool.or_eq_false_iff, beq_eq_false_iff_ne] at h
  exact bl_total _ _ h.1 h.2
theorem lowE_of {q e : En} (h : Op.bytesLess q.path e.path = true) : lowE (some q) e = false := by
  simp only [lowE, Bool.or_eq_false_iff, beq_eq_false_iff_ne]
  exact ⟨bl_asymm h, fun x => bl_ne h x.symm⟩
theorem layFromH_zero {H : Bs → Bool} : ∀ {l : List En} {prev : Option En}, layFromH H prev l = 0 ↔ (∀ e ∈ l, entFault e = 0 ∧ H e.path = true) ∧ Rise l ∧ ∀ q, prev = some q → ∀ e ∈ l, Op.bytesLess q.path e.path = true
  | [], prev => by simp [layFromH, Rise]
  | x :: r, prev => by
    have ih := layFromH_zero (H := H) (l := r) (prev := some x)
    have hx : entBadH H prev x = 0 ↔ entFault x = 0 ∧ lowE prev x = false ∧ H x.path = true := by
      unfold entBadH
      by_cases h1 : entFault x = 0
      · simp only [h1, if_true, true_and]
        cases h2 : lowE prev x
        · cases h3 : H x.path <;> simp
        · simp
      · simp [h1]
    simp only [layFromH]
    by_cases hb : entBadH H prev x = 0
    · rw [if_pos hb, ih]
      obtain ⟨h1, h2, h3⟩ := hx.1 hb
      constructor
      · rintro ⟨a1, a2, a3⟩
        refine ⟨fun e he => ?_, List.pairwise_cons.2 ⟨fun e he => a3 x rfl e he, a2⟩, fun q hq e he => ?_⟩
        · rcases List.mem_cons.1 he with rfl | he
          · exact ⟨h1, h3⟩
          · exact a1 e he
        · subst hq
          have := lowE_some h2
          rcases List.mem_cons.1 he with rfl | he
          · exact this
          · exact bl_trans _ _ _ this (a3 x rfl e he)
      · rintro ⟨a1, a2, a3⟩
        refine ⟨fun e he => a1 e (List.mem_cons_of_mem _ he), (List.pairwise_cons.1 a2).2, fun q hq e he => ?_⟩
        cases hq
        exact (List.pairwise_cons.1 a2).1 e he
    · rw [if_neg hb]
      constructor
      · intro h; exact absurd h hb
      · rintro ⟨a1, a2, a3⟩
        exfalso
        refine hb (hx.2 ⟨(a1 x List.mem_cons_self).1, ?_, (a1 x List.mem_cons_self).2⟩)
        cases prev with
        | none => rfl
        | some q => exact lowE_of (a3 q rfl x List.mem_cons_self)
theorem rise_find {es : List En} (h : Rise es) {e : En} (he : e ∈ es) : findE es e.path = some e := by
  induction es with
  | nil => simp at he
  | cons x r ih =>
    have hp := List.pairwise_cons.1 h
    rcases List.mem_cons.1 he with rfl | he
    · simp [findE]
    · have := hp.1 e he
      rw [findE, List.find?_cons]
      have hn : x.path ≠ e.path := bl_ne this
      simp only [hn, decide_false]
      exact ih hp.2 he
theorem find_mem {es : List En} {p : Bs} {e : En} (h : findE es p = some e) : e ∈ es ∧ e.path = p := by
  refine ⟨List.mem_of_find?_eq_some h, ?_⟩
  have := List.find?_some h
  simpa using this
theorem find_none {es : List En} {p : Bs} (h : ∀ e ∈ es, e.path ≠ p) : findE es p = none := by
  rw [findE, List.find?_eq_none]
  intro e he
  simpa using h e he
theorem homeP_iff {es : List En} {p : Bs} : homeP es p = true ↔ parentP p = [] ∨ ∃ d ∈ es, d.path = parentP p ∧ dirK d.kind = true := by
  unfold homeP hasDir
  by_cases h : parentP p = []
  · simp [h]
  · simp [h]
/-- Where no path is there twice both words are one. -/
theorem homeP_eq {es : List En} (h : Rise es) (p : Bs) : homeP es p = homeE es p := by
  unfold homeP homeE
  by_cases h0 : parentP p = []
  · simp [h0]
  · rw [if_neg h0, if_neg h0]
    cases hf : findE es (parentP p) with
    | none =>
      rw [hasDir, List.any_eq_false]
      intro x hx
      have := List.find?_eq_none.1 hf x hx
      simp only [decide_eq_true_eq] at this
      simp [this]
    | some d =>
      obtain ⟨hd, hdp⟩ := find_mem hf
      cases hk : dirK d.kind
      · show hasDir es (parentP p) = dirK d.kind
        rw [hk, hasDir, List.any_eq_false]
        intro x hx
        by_cases hxp : x.path = parentP p
        · have := rise_find h hx
          rw [hxp, hf] at this
          cases this
          simp [hk]
        · simp [hxp]
      · show hasDir es (parentP p) = dirK d.kind
        rw [hk, hasDir, List.any_eq_true]
        exact ⟨d, hd, by simp [hdp, hk]⟩
/-- A layer without faults. -/
structure Right (es : List En) : Prop where
  len : es.length ≤ 12
  ent : ∀ e ∈ es, entFault e = 0
  rise : Rise es
  home : ∀ e ∈ es, homeP es e.path = true
theorem right_P {es : List En} : layFaultP es = 0 ↔ Right es := by
  unfold layFaultP
  by_cases h : 12 < es.length
  · rw [if_pos h]
    exact ⟨fun x => (by cases x), fun x => (by have := x.len; omega)⟩
  · rw [if_neg h, layFromH_zero]
    exact ⟨fun ⟨a, b, _⟩ => ⟨by omega, fun e he => (a e he).1, b, fun e he => (a e he).2⟩, fun x => ⟨fun e he => ⟨x.ent e he, x.home e he⟩, x.rise, fun q hq => by cases hq⟩⟩
theorem layFromH_congr {H H' : Bs → Bool} : ∀ {l : List En} {prev : Option En}, (∀ e ∈ l, entFault e = 0 → H e.path = H' e.path) → layFromH H prev l = layFromH H' prev l
  | [], _, _ => rfl
  | x :: r, prev, h => by
    have hx : entBadH H prev x = entBadH H' prev x := by
      unfold entBadH
      by_cases h1 : entFault x = 0
      · rw [h x List.mem_cons_self h1]
      · simp [h1]
    simp only [layFromH]
    rw [hx, layFromH_congr (l := r) (prev := some x) (fun e he => h e (List.mem_cons_of_mem _ he))]
theorem right_E {es : List En} : layFault es = 0 ↔ Right es := by
  unfold layFault
  by_cases h : 12 < es.length
  · rw [if_pos h]
    exact ⟨fun x => (by cases x), fun x => (by have := x.len; omega)⟩
  · rw [if_neg h, layFrom_H, layFromH_zero]
    exact ⟨fun ⟨a, b, _⟩ => ⟨by omega, fun e he => (a e he).1, b, fun e he => by rw [homeP_eq b]; exact (a e he).2⟩, fun x => ⟨fun e he => ⟨x.ent e he, by rw [← homeP_eq x.rise]; exact x.home e he⟩, x.rise, fun q hq => by cases hq⟩⟩

theorem belowB_iff {p t : Bs} : belowB p t = true ↔ ∃ r, r ≠ [] ∧ p = t ++ 47 :: r := by
  simp only [belowB, Bool.and_eq_true, decide_eq_true_eq, beq_iff_eq]
  constructor
  · rintro ⟨⟨hl, ht⟩, hh⟩
    cases e : p.drop t.length with
    | nil => rw [e] at hh; simp at hh
    | cons c r =>
      rw [e] at hh
      simp at hh
      subst hh
      refine ⟨r, ?_, ?_⟩
      · intro h0
        have := congrArg List.length e
        rw [List.length_drop, h0] at this
        simp at this
        omega
      · rw [← e]
        conv => lhs; rw [← List.take_append_drop t.length p, ht]
  · rintro ⟨r, hr, rfl⟩
    have := List.length_pos_iff.2 hr
    simp
    first | done | omega
theorem below_trans {p q t : Bs} (h1 : belowB p q = true) (h2 : belowB q t = true) : belowB p t = true := by
  obtain ⟨r, hr, rfl⟩ := belowB_iff.1 h1
  obtain ⟨s, hs, rfl⟩ := belowB_iff.1 h2
  exact belowB_iff.2 ⟨s ++ 47 :: r, by simp, by simp⟩
theorem below_len {p t : Bs} (h : belowB p t = true) : t.length < p.length := by
  obtain ⟨r, hr, rfl⟩ := belowB_iff.1 h
  simp
theorem below_irrefl (p : Bs) : belowB p p = false := by
  cases h : belowB p p
  · rfl
  · have := below_len h; omega
/-- The path above: it has no fault, and the path is below it. -/
theorem parent_above {p : Bs} (hp : faultP p = 0) (h : parentP p ≠ []) : faultP (parentP p) = 0 ∧ belowB p (parentP p) = true := by
  have hm : parentP p ∈ aboveN (cutB p.tail) := by
    have hne : aboveN (cutB p.tail) ≠ [] := fun e => h (parentP_nil.2 e)
    unfold parentP
    rw [List.getLastD_eq_getLast?, List.getLast?_eq_some_getLast hne]
    exact List.getLast_mem _
  exact (above_iff hp).1 hm
theorem isBelow_eq {p t : Bs} (hp : faultP p = 0) (ht : faultP t = 0) : isBelow p t = belowB p t := by
  rw [isBelow_good hp]
  cases h : belowB p t <;> simp [ht]
theorem ousts_keep {e x : En} (he : faultP e.path = 0) (hx : faultP x.path = 0) : (!oustsE e x) = keepE e x := by
  unfold oustsE keepE atBelow
  rw [isBelow_eq hx he]
  cases dirK e.kind <;> cases belowB x.path e.path <;> by_cases h : x.path = e.path <;> simp [h]

theorem mem_putAt {bs : List En} {e x : En} : x ∈ putAt bs e ↔ x = e ∨ x ∈ bs := by
  have hb : x ∈ bs ↔ x ∈ bs.take (lowN bs e.path) ∨ x ∈ bs.drop (lowN bs e.path) := by
    conv => lhs; rw [← List.take_append_drop (lowN bs e.path) bs]
    exact List.mem_append
  unfold putAt
  rw [List.mem_append, List.mem_cons, hb]
  exact ⟨fun h => h.elim (fun h => .inr (.inl h)) (fun h => h.elim .inl (fun h => .inr (.inr h))), fun h => h.elim (fun h => .inr (.inl h)) (fun h => h.elim .inl (fun h => .inr (.inr h)))⟩
theorem mem_putE {es : List En} {e x : En} : x ∈ putE es e ↔ x = e ∨ (x ∈ es ∧ keepE e x = true) := by
  rw [putE, mem_putAt, baseE, List.mem_filter]
theorem low_take {p : Bs} : ∀ (bs : List En), ∀ x ∈ bs.take (lowN bs p), Op.bytesLess x.path p = true
  | [], x, hx => by simp [lowN] at hx
  | b :: bs, x, hx => by
    unfold lowN at hx
    rw [List.takeWhile_cons] at hx
    cases h : Op.bytesLess b.path p
    · rw [h] at hx; simp at hx
    · rw [h] at hx
      simp only [if_true, List.length_cons, List.take_succ_cons, List.mem_cons] at hx
      rcases hx with rfl | hx
      · exact h
      · exact low_take bs x hx
theorem low_drop {p : Bs} : ∀ (bs : List En), Rise bs → (∀ x ∈ bs, x.path ≠ p) → ∀ x ∈ bs.drop (lowN bs p), Op.bytesLess p x.path = true
  | [], _, _, x, hx => by simp at hx
  | b :: bs, hr, hn, x, hx => by
    unfold lowN at hx
    rw [List.takeWhile_cons] at hx
    cases h : Op.bytesLess b.path p
    · rw [h] at hx
      simp only [if_false, Bool.false_eq_true, List.length_nil, List.drop_zero] at hx
      have hb := bl_total _ _ h (hn b List.mem_cons_self)
      rcases List.mem_cons.1 hx with rfl | hx
      · exact hb
      · exact bl_trans _ _ _ hb ((List.pairwise_cons.1 hr).1 x hx)
    · rw [h] at hx
      simp only [if_true, List.length_cons, List.drop_succ_cons] at hx
      exact low_drop bs (List.pairwise_cons.1 hr).2 (fun y hy => hn y (List.mem_cons_of_mem _ hy)) x hx
theorem rise_putAt {bs : List En} {e : En} (h : Rise bs) (hn : ∀ x ∈ bs, x.path ≠ e.path) : Rise (putAt bs e) := by
  unfold putAt Rise
  rw [List.pairwise_append]
  refine ⟨h.sublist (List.take_sublist _ _), List.pairwise_cons.2 ⟨fun x hx => low_drop bs h hn x hx, h.sublist (List.drop_sublist _ _)⟩, fun x hx y hy => ?_⟩
  have h1 := low_take bs x hx
  rcases List.mem_cons.1 hy with rfl | hy
  · exact h1
  · exact bl_trans _ _ _ h1 (low_drop bs h hn y hy)
theorem rise_putE {es : List En} {e : En} (h : Rise es) : Rise (putE es e) := by
  refine rise_putAt (h.sublist List.filter_sublist) (fun x hx => ?_)
  have := (List.mem_filter.1 hx).2
  simp only [keepE, Bool.and_eq_true, Bool.not_eq_true', decide_eq_false_iff_not] at this
  exact this.1
theorem right_put {es : List En} {e : En} (h : Right es) (he : entFault e = 0) (hh : homeP es e.path = true) (hl : (putE es e).length ≤ 12) : Right (putE es e) := by
  have hpe := entFault_zero he
  refine ⟨hl, fun x hx => ?_, rise_putE h.rise, fun x hx => ?_⟩
  · rcases mem_putE.1 hx with rfl | ⟨hx, _⟩
    · exact he
    · exact h.ent x hx
  · rw [homeP_iff]
    rcases mem_putE.1 hx with rfl | ⟨hx, hk⟩
    · rcases homeP_iff.1 hh with h0 | ⟨d, hd, hdp, hdk⟩
      · exact .inl h0
      · by_cases h0 : parentP x.path = []
        · exact .inl h0
        · have hb := (parent_above hpe h0).2
          have hlen := below_len hb
          refine .inr ⟨d, mem_putE.2 (.inr ⟨hd, ?_⟩), hdp, hdk⟩
          have h1 : d.path ≠ x.path := fun e => by rw [hdp] at e; rw [e] at hlen; omega
          have h2 : belowB d.path x.path = false := by
            cases h3 : belowB d.path x.path
            · rfl
            · have := below_len h3; rw [hdp] at this; omega
          simp [keepE, h1, h2]
    · have hpx := entFault_zero (h.ent x hx)
      rcases homeP_iff.1 (h.home x hx) with h0 | ⟨d, hd, hdp, hdk⟩
      · exact .inl h0
      · by_cases h0 : parentP x.path = []
        · exact .inl h0
        · have hb := (parent_above hpx h0).2
          rw [← hdp] at hb
          simp only [keepE, Bool.and_eq_true, Bool.not_eq_true', decide_eq_false_iff_not, Bool.or_eq_true] at hk
          by_cases hde : d.path = e.path
          · rcases hk.2 with hk2 | hk2
            · exact .inr ⟨e, mem_putE.2 (.inl rfl), by rw [← hde]; exact hdp, hk2⟩
            · rw [hde] at hb; rw [hb] at hk2; cases hk2
          · refine .inr ⟨d, mem_putE.2 (.inr ⟨hd, ?_⟩), hdp, hdk⟩
            simp only [keepE, Bool.and_eq_true, Bool.not_eq_true', decide_eq_false_iff_not, Bool.or_eq_true]
            refine ⟨hde, hk.2.elim .inl (fun hk2 => .inr ?_)⟩
            cases h3 : belowB d.path e.path
            · rfl
            · rw [below_trans hb h3] at hk2; cases hk2
theorem right_rest {es : List En} {p : Bs} (h : Right es) (hp : faultP p = 0) : Right (restP es p) := by
  refine ⟨Nat.le_trans (restP_len es p) h.len, fun x hx => h.ent x (List.mem_filter.1 hx).1, h.rise.sublist List.filter_sublist, fun x hx => ?_⟩
  obtain ⟨hx, hk⟩ := List.mem_filter.1 hx
  have hpx := entFault_zero (h.ent x hx)
  rw [homeP_iff]
  rcases homeP_iff.1 (h.home x hx) with h0 | ⟨d, hd, hdp, hdk⟩
  · exact .inl h0
  · by_cases h0 : parentP x.path = []
    · exact .inl h0
    · have hb := (parent_above hpx h0).2
      rw [← hdp] at hb
      have hpd := entFault_zero (h.ent d hd)
      refine .inr ⟨d, List.mem_filter.2 ⟨hd, ?_⟩, hdp, hdk⟩
      simp only [atBelow, isBelow_eq hpx hp, Bool.not_eq_true', Bool.or_eq_false_iff, decide_eq_false_iff_not] at hk
      simp only [atBelow, isBelow_eq hpd hp, Bool.not_eq_true', Bool.or_eq_false_iff, decide_eq_false_iff_not]
      refine ⟨fun e => ?_, ?_⟩
      · rw [e] at hb; rw [hb] at hk; exact absurd hk.2 (by simp)
      · cases h3 : belowB d.path p
        · rfl
        · rw [below_trans hb h3] at hk; exact absurd hk.2 (by simp)
theorem right_nil : Right [] := ⟨by simp, fun e he => by simp at he, List.Pairwise.nil, fun e he => by simp at he⟩

/-- What the program's PutEntry answers. -/
def putCodeP (es : List En) (e : En) : Int :=
  if layFaultP es = 0 then (if entFault e = 0 then (if homeP es e.path then (if 12 < (putE es e).length then 2 else 0) else 9) else entFault e) else layFaultP es
def putListP (es : List En) (e : En) : List En := if putCodeP es e = 0 then putE es e else []
theorem putP_zero {es : List En} {e : En} (h : putCodeP es e = 0) : Right es ∧ entFault e = 0 ∧ homeP es e.path = true ∧ (putE es e).length ≤ 12 ∧ Right (putE es e) := by
  unfold putCodeP at h
  by_cases h1 : layFaultP es = 0
  · rw [if_pos h1] at h
    by_cases h2 : entFault e = 0
    · rw [if_pos h2] at h
      cases h3 : homeP es e.path
      · rw [h3] at h; simp at h
      · rw [h3] at h
        by_cases h4 : 12 < (putE es e).length
        · rw [if_pos rfl, if_pos h4] at h; cases h
        · have hR := right_P.1 h1
          exact ⟨hR, h2, rfl, by omega, right_put hR h2 h3 (by omega)⟩
    · rw [if_neg h2] at h; exact absurd h h2
  · rw [if_neg h1] at h; exact absurd h h1

end Go.Proofs.YtjkmbicedbdifaaGreat

namespace Go.Proofs.YtjkmbicedbdifaaGreat
set_option linter.unusedVariables false

/-- The program tells the fault that the model tells. -/
def Good (es : List En) : Prop := layFaultP es = layFault es
theorem good_right {es : List En} (h : Right es) : Good es := by rw [Good, right_P.2 h, right_E.2 h]
theorem good_many {es : List En} (h : 12 < es.length) : Good es := by rw [Good, layFaultP_many h, layFault_many h]
theorem good_of {es : List En} (h : ¬ 12 < es.length) (hh : layFromH (homeP es) none es = layFromH (homeE es) none es) : Good es := by
  rw [Good, layFaultP, layFault, if_neg h, if_neg h, layFrom_H, hh]
theorem parent_ne {p : Bs} (h : faultP p = 0) (h0 : parentP p ≠ []) : parentP p ≠ p := by
  have := below_len (parent_above h h0).2
  intro e
  rw [e] at this
  omega
theorem good_snoc {es : List En} {e : En} (h : Right es) : Good (es ++ [e]) := by
  by_cases hl : 12 < (es ++ [e]).length
  · exact good_many hl
  · refine good_of hl (layFromH_congr (fun x hx hxe => ?_))
    rcases List.mem_append.1 hx with hx | hx
    · have h1 := h.home x hx
      have h2 : homeP (es ++ [e]) x.path = true := by
        rw [homeP_iff] at h1 ⊢
        rcases h1 with h1 | ⟨d, hd, h1⟩
        · exact .inl h1
        · exact .inr ⟨d, List.mem_append_left _ hd, h1⟩
      rw [h2]
      symm
      rw [homeP_eq h.rise] at h1
      unfold homeE at h1 ⊢
      by_cases h0 : parentP x.path = []
      · simp [h0]
      · rw [if_neg h0] at h1 ⊢
        cases hf : findE es (parentP x.path) with
        | none => rw [hf] at h1; simp at h1
        | some d =>
          rw [hf] at h1
          have : findE (es ++ [e]) (parentP x.path) = some d := by
            rw [findE, List.find?_append]
            have hf' : List.find? (fun y : En => decide (y.path = parentP x.path)) es = some d := hf
            rw [hf']
            rfl
          rw [this]
          exact h1
    · simp only [List.mem_singleton] at hx
      subst hx
      by_cases h0 : parentP x.path = []
      · simp [homeP, homeE, h0]
      · have hne := parent_ne (entFault_zero hxe) h0
        have e1 : homeP (es ++ [x]) x.path = homeP es x.path := by
          simp [homeP, h0, hasDir, hne.symm]
        have e2 : homeE (es ++ [x]) x.path = homeE es x.path := by
          have : findE (es ++ [x]) (parentP x.path) = findE es (parentP x.path) := by
            simp [findE, List.find?_append, hne.symm]
          simp only [homeE, this]
        rw [e1, e2, homeP_eq h.rise]
theorem good_set {r0 e : En} {tl : List En} (h : Right (r0 :: tl)) : Good (e :: tl) := by
  by_cases hl : 12 < (e :: tl).length
  · exact good_many hl
  · have hrt : Rise tl := (List.pairwise_cons.1 h.rise).2
    by_cases hr : Rise (e :: tl)
    · exact good_of hl (layFromH_congr (fun x hx _ => homeP_eq hr x.path))
    · refine good_of hl ?_
      have hb : entBadH (homeP (e :: tl)) none e = entBadH (homeE (e :: tl)) none e := by
        unfold entBadH
        by_cases he : entFault e = 0
        · have : homeP (e :: tl) e.path = homeE (e :: tl) e.path := by
            by_cases h0 : parentP e.path = []
            · simp [homeP, homeE, h0]
            · have hne := parent_ne (entFault_zero he) h0
              have e1 : homeP (e :: tl) e.path = homeP tl e.path := by simp [homeP, h0, hasDir, hne.symm]
              have e2 : homeE (e :: tl) e.path = homeE tl e.path := by
                have : findE (e :: tl) (parentP e.path) = findE tl (parentP e.path) := by simp [findE, hne.symm]
                simp only [homeE, this]
              rw [e1, e2, homeP_eq hrt]
          rw [this]
        · simp [he]
      simp only [layFromH]
      rw [hb]
      by_cases hz : entBadH (homeE (e :: tl)) none e = 0
      · rw [if_pos hz, if_pos hz]
        cases tl with
        | nil => rfl
        | cons t1 r =>
          have ht : entFault t1 = 0 := h.ent t1 (by simp)
          have hlow : lowE (some e) t1 = true := by
            cases hlo : lowE (some e) t1
            · exfalso
              refine hr (List.pairwise_cons.2 ⟨fun y hy => ?_, hrt⟩)
              have h1 := lowE_some hlo
              rcases List.mem_cons.1 hy with rfl | hy
              · exact h1
              · exact bl_trans _ _ _ h1 ((List.pairwise_cons.1 hrt).1 y hy)
            · rfl
          simp only [layFromH]
          have b1 : ∀ H : Bs → Bool, entBadH H (some e) t1 = 1 := fun H => by simp [entBadH, ht, hlow]
          rw [b1, b1]
          rfl
      · rw [if_neg hz, if_neg hz]
theorem good_put {es : List En} {e : En} (h : Good es) : putCodeP es e = putCode es e := by
  unfold putCodeP putCode
  rw [h]
  by_cases h0 : layFault es = 0
  · rw [if_pos h0, if_pos h0, homeP_eq (right_E.1 h0).rise]
  · rw [if_neg h0, if_neg h0]

end Go.Proofs.YtjkmbicedbdifaaGreat

namespace Go.Proofs.YtjkmbicedbdifaaGreat
open Go.RowKit
set_option linter.unusedVariables false

/-- One byte of a digest, as both texts reckon it. -/
def fnvStep (h z : Int) : Int := bits BinOp.xor IntKind.u32 h z * 16777619 % 4294967296
def fnv (zs : List Int) : Int := zs.foldl fnvStep 2166136261
/-- The digest of the bytes zs. -/
def digest (zs : List Int) : Int := wrap64 (bits BinOp.xor IntKind.u32 (fnv zs) ((zs.length : Int) * 65536 % 4294967296))
theorem fnv_step {zs : List Int} {k : Nat} {z : Int} (hk : k < zs.length) (hz : zs.getD k 0 = z) : fnv (zs.take (k + 1)) = fnvStep (fnv (zs.take k)) z := by
  unfold fnv
  rw [List.take_succ_eq_append_getElem hk, List.foldl_append]
  simp [List.getD_eq_getElem?_getD, hk] at hz
  simp [hz]

set_option maxHeartbeats 400000 in
theorem specDigestOf_any (a : Option Addr) (cap : Nat) (zs : List Int) (w : World) (h : Reads .u8 w a zs) (hu : U8 zs) (hl : zs.length ≤ 1048576) :
    Calls Tryz.prog 170 #[.slice a zs.length cap] w fun e w' => e = .returned (.int .i64 (digest zs)) ∧ w' = w := by
  go_enter Tryz.func170, Tryz.ntmps170
  go_wp2
  go_loop [3, 4] (fun h i => ∃ k : Nat, k ≤ zs.length ∧ i = .int .i64 k ∧ h = .int .u32 (fnv (zs.take k))) (fun _ i => zs.length - (intOf i).toNat)
  case atStart => exact ⟨0, Nat.zero_le _, rfl, rfl⟩
  case round =>
    obtain ⟨k, hk, rfl, rfl⟩ := hrel
    generalize hx : fnv (zs.take k) = x
    have HX := hide hx
    clear hx
    by_cases hlt : k < zs.length
    · obtain ⟨b, off, rfl, hb, hc⟩ := h (by intro e; simp [e] at hlt)
      have hz01 := hu.get k
      have hc1 := hc k hlt
      generalize hz : zs.getD k 0 = z at hz01 hc1
      have HZ := hide hz
      have HC := hide hc
      clear hc h hz
      go_wp2
      go_round
      case rel => exact ⟨k + 1, by omega, by go_num, by rw [fnv_step hlt HZ.out, HX.out]; rfl⟩
      case measure => simp [intOf]; omega
    · go_wp2
      go_ret
      exact ⟨ret_int (by unfold digest; rw [← HX.out, List.take_of_length_le (by omega)]), rfl⟩


theorem bits_u32 (op : BinOp) (x y : Int) : 0 ≤ bits op .u32 x y ∧ bits op .u32 x y < 4294967296 := by
  unfold bits
  simp only [IntKind.wrap_u32]
  omega
theorem digest_range (zs : List Int) : 0 ≤ digest zs ∧ digest zs ≤ 4294967295 := by
  have h := bits_u32 .xor (fnv zs) ((zs.length : Int) * 65536 % 4294967296)
  unfold digest wrap64
  omega

end Go.Proofs.YtjkmbicedbdifaaGreat

namespace Go.Proofs.YtjkmbicedbdifaaGreat
open Go.RowKit
set_option linter.unusedVariables false

/-- The slice at address a (n elements) reads as n byte slices, slice i reading as P i. -/
def Rd2 (w : World) (a : Option Addr) (P : Nat → List Int) (n : Nat) : Prop :=
  0 < n → ∃ (b off : Nat) (A : Nat → Option Addr) (C : Nat → Nat), a = some ⟨b, off, none⟩ ∧ b < w.heap.size ∧ ∀ i, i < n → w.cell? ⟨b, off + i, none⟩ = some (.slice (A i) (P i).length (C i)) ∧ Reads .u8 w (A i) (P i)

theorem Rd2.below {w w' : World} {a : Option Addr} {P : Nat → List Int} {n : Nat} (h : Rd2 w a P n) (hk : Below w.heap.size w w') : Rd2 w' a P n := by
  intro hn
  obtain ⟨b, off, A, C, e, hb, hc⟩ := h hn
  exact ⟨b, off, A, C, e, Nat.lt_of_lt_of_le hb hk.size, fun i hi => ⟨(hk.cell (p := ⟨b, off + i, none⟩) hb).trans (hc i hi).1, (hc i hi).2.below hk⟩⟩

theorem reads_of_ownsRow {w : World} {B : Nat} {e : TypeId} {k : IntKind} {g n c : Nat} {zs : List Int} (h : w.ownsRow B e 1 (.slice (some ⟨g, 0, none⟩) n c) n (zs.map (Value.int k))) (hn : n = zs.length) : Own k w (some ⟨g, 0, none⟩) zs := by
  intro hz
  have h0 : 0 < n := by rw [hn]; exact List.length_pos_iff.2 hz
  refine ⟨g, 0, rfl, (h.lt g rfl).2, fun i hi => ⟨?_, h.frozenAt _⟩⟩
  rw [Nat.zero_add, h.cellAt i (by omega)]
  simp [List.getD_eq_getElem?_getD, hi]

theorem Grow2.shape {B : Nat} {w : World} {v : Value} {P : Nat → List Int} {j : Nat} (h : Grow2 B w v P j) : ∃ a c, v = .slice a j c := by
  obtain ⟨A, C, h1, h2, h3⟩ := h
  exact ownsRow_shape h1

theorem Grow2.rd {B : Nat} {w : World} {a : Option Addr} {c : Nat} {P : Nat → List Int} {n : Nat} (h : Grow2 B w (.slice a n c) P n) : Rd2 w a P n := by
  intro hn
  obtain ⟨A, C, h1, h2, h3⟩ := h
  rcases h1.2 with ⟨h', h0⟩ | ⟨g, cap, cur, h', hb, hh, hnc, hcm, hcs, htake⟩
  · omega
  · simp only [Value.slice.injEq, true_and] at h'
    obtain ⟨rfl, rfl⟩ := h'
    refine ⟨g, 0, fun i => some ⟨A i, 0, none⟩, C, rfl, (h1.lt g rfl).2, fun i hi => ⟨?_, (reads_of_ownsRow (h2 i hi) rfl).reads⟩⟩
    rw [Nat.zero_add, h1.cellAt i (by omega)]
    simp [hi]


theorem Reads.drewN {k : IntKind} {w : World} {a : Option Addr} {zs : List Int} (h : Reads k w a zs) (n : Nat) : Reads k (w.drewN n) a zs := h


/-- The same, the slices' blocks below T. -/
def G2 (B T : Nat) (w : World) (v : Value) (P : Nat → List Int) (n : Nat) : Prop :=
  ∃ A C : Nat → Nat, w.ownsRow B 22 1 v n ((List.range n).map fun i => .slice (some ⟨A i, 0, none⟩) (P i).length (C i)) ∧
    (∀ i, i < n → w.ownsRow B 5 1 (.slice (some ⟨A i, 0, none⟩) (P i).length (C i)) (P i).length ((P i).map (Value.int .u8))) ∧
    (∀ i i', i < n → i' < n → A i = A i' → i = i') ∧ (∀ i, i < n → A i < T) ∧ ∀ b, v.ownBlock = some b → b < T
theorem Grow2.fit {B : Nat} {w : World} {v : Value} {P : Nat → List Int} {n : Nat} (h : Grow2 B w v P n) : G2 B w.heap.size w v P n := by
  obtain ⟨A, C, h1, h2, h3⟩ := h
  exact ⟨A, C, h1, h2, h3, fun i hi => ((h2 i hi).lt (A i) rfl).2, fun b hb => (h1.lt b hb).2⟩
theorem G2.grow {B T : Nat} {w : World} {v : Value} {P : Nat → List Int} {n : Nat} (h : G2 B T w v P n) : Grow2 B w v P n := by
  obtain ⟨A, C, h1, h2, h3, _⟩ := h
  exact ⟨A, C, h1, h2, h3⟩
theorem G2.kept {S : Nat → Prop} {B T : Nat} {w w' : World} {v : Value} {P : Nat → List Int} {n : Nat} (h : G2 B T w v P n) (hk : Kept S w w') (hS : ∀ b, B ≤ b → b < T → ¬ S b) : G2 B T w' v P n := by
  obtain ⟨A, C, h1, h2, h3, h4, h5⟩ := h
  exact ⟨A, C, ownsRow_kept h1 hk (fun b hb => hS b (h1.lt b hb).1 (h5 b hb)), fun i hi => ownsRow_kept (h2 i hi) hk (fun b hb => hS b ((h2 i hi).lt b hb).1 (by simp only [Value.ownBlock, Option.some.injEq] at hb; subst hb; exact h4 i hi)), h3, h4, h5⟩
theorem G2.below {B T : Nat} {w w' : World} {v : Value} {P : Nat → List Int} {n : Nat} (h : G2 B T w v P n) (hk : Below w.heap.size w w') : G2 B T w' v P n :=
  h.kept (S := fun _ => False) (Kept.of_below hk) (fun _ _ _ => id)

/-- What is written into slice i. -/
def marked (k : Int) (P : Nat → List Int) (i : Nat) : List Int := marks (k + ahead P i) (P i).length

theorem G2.congr {B T : Nat} {w : World} {v : Value} {P Q : Nat → List Int} {n : Nat} (h : G2 B T w v P n) (hQ : ∀ i, i < n → Q i = P i) : G2 B T w v Q n := by
  obtain ⟨A, C, h1, h2, h3, h45⟩ := h
  refine ⟨A, C, ?_, fun i hi => by rw [hQ i hi]; exact h2 i hi, h3, h45⟩
  have e : (List.range n).map (fun i => Value.slice (some ⟨A i, 0, none⟩) (Q i).length (C i)) = (List.range n).map (fun i => Value.slice (some ⟨A i, 0, none⟩) (P i).length (C i)) := by
    apply List.map_congr_left
    intro i hi
    rw [hQ i (List.mem_range.1 hi)]
  rw [e]; exact h1

/-- One slice is marked: the others stay. -/
theorem G2.mark {B T : Nat} {w w' : World} {v : Value} {P : Nat → List Int} {n j : Nat} {A C : Nat → Nat} {ys : List Int}
    (h1 : w.ownsRow B 22 1 v n ((List.range n).map fun i => .slice (some ⟨A i, 0, none⟩) (P i).length (C i)))
    (h2 : ∀ i, i < n → w.ownsRow B 5 1 (.slice (some ⟨A i, 0, none⟩) (P i).length (C i)) (P i).length ((P i).map (Value.int .u8)))
    (h3 : ∀ i i', i < n → i' < n → A i = A i' → i = i') (h45 : (∀ i, i < n → A i < T) ∧ ∀ b, v.ownBlock = some b → b < T) (hj : j < n) (hl : ys.length = (P j).length)
    (ho : Own .u8 w' (some ⟨A j, 0, none⟩) ys) (hk : Kept (blkOf (some ⟨A j, 0, none⟩)) w w') (hs : SameShape w w') (Q : Nat → List Int) (hQ : ∀ i, i < n → Q i = if i = j then ys else P i) :
    G2 B T w' v Q n := by
  have hlen : ∀ i, i < n → (Q i).length = (P i).length := fun i hi => by
    rw [hQ i hi]; by_cases e : i = j
    · subst e; rw [if_pos rfl]; exact hl
    · rw [if_neg e]
  refine ⟨A, C, ?_, ?_, h3, h45⟩
  · have e : (List.range n).map (fun i => Value.slice (some ⟨A i, 0, none⟩) (Q i).length (C i)) = (List.range n).map (fun i => Value.slice (some ⟨A i, 0, none⟩) (P i).length (C i)) := by
      apply List.map_congr_left
      intro i hi
      rw [hlen i (List.mem_range.1 hi)]
    rw [e]
    exact ownsRow_kept h1 hk (fun b hb hS => ownsRow_apart h1 (h2 j hj) (by decide) hb (by simpa [blkOf, Value.ownBlock] using hS))
  · intro i hi
    by_cases e : i = j
    · subst e
      rw [hQ i hi, if_pos rfl, hl]
      refine own_back (h2 i hi) hs (by simp [hl]) (fun t ht => ?_)
      obtain ⟨b, off, e1, hb, hc⟩ := ho (by intro e; rw [e] at hl; simp at hl; omega)
      simp only [Option.some.injEq, Addr.mk.injEq, and_true] at e1
      obtain ⟨rfl, rfl⟩ := e1
      have := (hc t (by omega)).1
      rw [Nat.zero_add] at this
      rw [this]
      have ht2 : t < ys.length := by omega
      simp [List.getD_eq_getElem?_getD, ht2]
    · rw [hQ i hi, if_neg e]
      exact ownsRow_kept (h2 i hi) hk (fun b hb hS => by
        simp only [Value.ownBlock, Option.some.injEq] at hb
        simp only [blkOf, Option.map_some, Option.some.injEq] at hS
        exact e (h3 i j hi hj (by omega)))






theorem U8.piece {zs : List Int} (h : U8 zs) (i : Nat) : U8 (piece zs i) := fun z hz => h z (List.mem_of_mem_drop (List.mem_of_mem_take hz))

theorem Grow2.at {B : Nat} {w : World} {a : Option Addr} {c : Nat} {P : Nat → List Int} {n j : Nat} (h : Grow2 B w (.slice a n c) P n) (hj : j < n) :
    ∃ g x d, a = some ⟨g, 0, none⟩ ∧ w.cell? ⟨g, j, none⟩ = some (.slice x (P j).length d) ∧ Reads .u8 w x (P j) := by
  obtain ⟨A, C, h1, h2, h3⟩ := h
  rcases h1.2 with ⟨_, h0⟩ | ⟨g, cap, cur, h', hb, hh, _⟩
  · omega
  · simp only [Value.slice.injEq, true_and] at h'
    obtain ⟨rfl, rfl⟩ := h'
    refine ⟨g, _, C j, rfl, ?_, (reads_of_ownsRow (h2 j hj) rfl).reads⟩
    rw [h1.cellAt j (by omega)]
    simp [hj]

end Go.Proofs.YtjkmbicedbdifaaGreat

namespace Go.Proofs.YtjkmbicedbdifaaGreat
open Go.RowKit
set_option linter.unusedVariables false

/-- v is a row of the int64s ds in a block of its own, from B on and below T. -/
def G1 (B T : Nat) (w : World) (v : Value) (ds : List Int) : Prop :=
  w.ownsRow B 2 1 v ds.length (ds.map (Value.int .i64)) ∧ ∀ b, v.ownBlock = some b → b < T
theorem G1.kept {S : Nat → Prop} {B T : Nat} {w w' : World} {v : Value} {ds : List Int} (h : G1 B T w v ds) (hk : Kept S w w') (hS : ∀ b, B ≤ b → b < T → ¬ S b) : G1 B T w' v ds :=
  ⟨ownsRow_kept h.1 hk (fun b hb => hS b (h.1.lt b hb).1 (h.2 b hb)), h.2⟩
theorem G1.below {B T : Nat} {w w' : World} {v : Value} {ds : List Int} (h : G1 B T w v ds) (hk : Below w.heap.size w w') : G1 B T w' v ds :=
  h.kept (S := fun _ => False) (Kept.of_below hk) (fun _ _ _ => id)
theorem G1.mk {B : Nat} {w : World} {v : Value} {ds : List Int} {n : Nat} (h : w.ownsRow B 2 1 v n (ds.map (Value.int .i64))) (hn : n = ds.length) : G1 B w.heap.size w v ds := by
  subst hn
  exact ⟨h, fun b hb => (h.lt b hb).2⟩
theorem G1.own {B T : Nat} {w : World} {a : Option Addr} {c : Nat} {ds : List Int} (h : G1 B T w (.slice a ds.length c) ds) : Own .i64 w a ds := ownsRow_own h.1 rfl
theorem G1.mark {B T : Nat} {w w' : World} {a : Option Addr} {c : Nat} {ds ys : List Int} (h : G1 B T w (.slice a ds.length c) ds) (hl : ys.length = ds.length) (ho : Own .i64 w' a ys) (hs : SameShape w w') : G1 B T w' (.slice a ds.length c) ys := by
  obtain ⟨h1, h2⟩ := h
  refine ⟨?_, h2⟩
  rw [hl]
  rcases h1.2 with ⟨h', h0⟩ | ⟨g, cap, cur, h', hb, hh, hnc, hcm, hcs, htake⟩
  · have e : ys = [] := List.eq_nil_of_length_eq_zero (by omega)
    have e2 : ds = [] := List.eq_nil_of_length_eq_zero h0
    subst e e2
    rw [h']
    exact World.ownsRow_nil _ _ _ _
  · simp only [Value.slice.injEq, true_and] at h'
    obtain ⟨rfl, rfl⟩ := h'
    refine own_back h1 hs (by simp [hl]) (fun t ht => ?_)
    obtain ⟨b, off, e1, hb, hc⟩ := ho (by intro e; rw [e] at hl; simp at hl; omega)
    simp only [Option.some.injEq, Addr.mk.injEq, and_true] at e1
    obtain ⟨rfl, rfl⟩ := e1
    have := (hc t (by omega)).1
    rw [Nat.zero_add] at this
    rw [this]
    have ht2 : t < ys.length := by omega
    simp [List.getD_eq_getElem?_getD, ht2]




end Go.Proofs.YtjkmbicedbdifaaGreat

namespace Go.Proofs.YtjkmbicedbdifaaGreat
open Go.RowKit
set_option linter.unusedVariables false

/-- The digests of the first j pieces. -/
def digs (zs : List Int) (j : Nat) : List Int := (List.range j).map fun i => digest (piece zs i)
theorem digs_length (zs : List Int) (j : Nat) : (digs zs j).length = j := by simp [digs]
theorem digs_succ (zs : List Int) (j : Nat) : (digs zs (j + 1)).map (Value.int .i64) = (digs zs j).map (Value.int .i64) ++ [.int .i64 (digest (piece zs j))] := by
  simp [digs, List.range_succ]
theorem Grow2.kept_own {B B' : Nat} {w w' : World} {v v' : Value} {P : Nat → List Int} {n n' size : Nat} {e : TypeId} {xs : List Value} (h : Grow2 B w v P n) (ho : w.ownsRow B' e size v' n' xs) (h1 : e ≠ 22) (h2 : e ≠ 5) (hk : Kept (fun b => v'.ownBlock = some b) w w') : Grow2 B w' v P n := by
  obtain ⟨A, C, k1, k2, k3⟩ := h
  exact ⟨A, C, ownsRow_kept k1 hk (fun b hb hS => ownsRow_apart ho k1 h1 hS hb), fun i hi => ownsRow_kept (k2 i hi) hk (fun b hb hS => ownsRow_apart ho (k2 i hi) h2 hS hb), k3⟩

set_option maxHeartbeats 800000 in
theorem l1Digests_any (a : Option Addr) (cap : Nat) (zs : List Int) (w : World) (h : Reads .u8 w a zs) (hu : U8 zs) (hcap : zs.length ≤ cap) (hl : zs.length ≤ 24) :
    Calls Tryz.prog 152 #[.slice a zs.length cap] w fun e w' => ∃ v, e = .returned v ∧ w'.ownsRow w.heap.size 2 1 v (cut zs).length ((digs zs (cut zs).length).map (Value.int .i64)) ∧ Below w.heap.size w w' := by
  obtain ⟨i1, ki, kz0, kz1, kz2⟩ := info_parts Tryz.infoI64
  have HR := hide h
  have HU := hide hu
  clear h hu
  have hcl : (cut zs).length ≤ 3 := by rw [cut_length]; omega
  go_enter Tryz.func152, Tryz.ntmps152
  go_wp2_with fail
  refine (l1Cut_any a cap zs _ (HR.out.below (below_alloc _ _)) hcap (by omega)).mono ?_
  rintro e w1 ⟨pv, rfl, hG, hb1⟩
  obtain ⟨pa, pc, rfl⟩ := hG.shape
  generalize hN : (cut zs).length = N at *
  have HN := hide hN
  clear hN
  have O1 := hide (ownsRow_below (World.ownsRow_made (base := w.heap.size) (e := 2) (size := 1) w #[] 0 (Nat.le_refl _) (Nat.zero_le _) rfl) hb1)
  have HG := hide (hG.mono (B' := w.heap.size) (by simp))
  have HB := hide (below_next (below_alloc w (.cells #[] 2)) hb1)
  clear hG hb1
  go_wp2_with fail
  go_loopw [3, 5] (fun v i wr => ∃ j : Nat, j ≤ N ∧ i = .int .i64 j ∧ wr.ownsRow w.heap.size 2 1 v j ((digs zs j).map (Value.int .i64)) ∧ Grow2 w.heap.size wr (.slice pa N pc) (piece zs) N ∧ Below w.heap.size w wr) (fun _ i _ => N - (intOf i).toNat)
  case atStart => exact ⟨0, Nat.zero_le _, rfl, O1.out, HG.out, HB.out⟩
  case round =>
    obtain ⟨j, hj, rfl, hown, hG, hbel⟩ := hrel
    by_cases hlt : j < N
    · obtain ⟨g, x, d, rfl, hc0, hr0⟩ := hG.at hlt
      have hpl : (piece zs j).length ≤ 1048576 := by rw [piece_length]; omega
      have hm1 : j + 1 ≤ maxLen := by unfold maxLen; omega
      have hm2 : (j + 1) * 8 ≤ 140737488355328 := by omega
      have hsz := hbel.size
      have HR0 := hide hr0
      have HO := hide hown
      have HGj := hide hG
      have HBj := hide hbel
      clear hr0 hown hG hbel
      go_wp2_with (first | (go_at_call 170; refine (specDigestOf_any _ _ (piece zs j) _ HR0.out (HU.out.piece j) hpl).mono ?_; rintro e w1' ⟨rfl, rfl⟩) | (at_builtin; refine wpList_append_one rfl (.tmp 15) (.tmp 21) 38 rfl w.heap.size 2 i1 (.int .i64 0) 1 8 Tryz.underlying38 ki kz0 kz1 kz2 rfl (by decide) _ _ _ rfl HO.out rfl rfl (by intro u hu; simp at hu; subst hu; rfl) hm1 hm2 hsz ?_; intro v' w2 hown2 hkept; have O2 := hide hown2; have K2 := hide hkept; clear hown2 hkept))
      go_roundw
      case rel => exact ⟨j + 1, by omega, by go_num, by rw [digs_succ]; exact O2.out, HGj.out.kept_own HO.out (by decide) (by decide) K2.out, Kept.below_own HBj.out hsz HO.out K2.out⟩
      case measure => simp [intOf]; omega
    · have hje : j = N := by omega
      subst hje
      go_wp2
      go_ret
      exact ⟨_, rfl, by rw [HN.out]; exact hown, hbel⟩





end Go.Proofs.YtjkmbicedbdifaaGreat

namespace Go.Proofs.YtjkmbicedbdifaaGreat
open Go.RowKit Go.Maps
set_option linter.unusedVariables false

theorem Kept.four (w : World) (b : Nat) (u0 u1 u2 u3 : Value) : Kept (fun x => x = b) w ((((w.setCell ⟨b, 0, none⟩ u0).setCell ⟨b, 1, none⟩ u1).setCell ⟨b, 2, none⟩ u2).setCell ⟨b, 3, none⟩ u3) :=
  Kept.setCell (S := fun x => x = b) (p := ⟨b, 3, none⟩) (Kept.setCell (S := fun x => x = b) (p := ⟨b, 2, none⟩) (Kept.two w b 0 1 u0 u1) (fun _ => rfl) u2) (fun _ => rfl) u3
theorem digs_len (zs : List Int) : (digs zs (cut zs).length).length = (cut zs).length := by simp [digs]
/-- The entry of a file. -/
def fileE (p : Bs) (zs : List Int) : En := ⟨p, 1, zs.length, digs zs (cut zs).length⟩

set_option maxRecDepth 100000 in
set_option maxHeartbeats 1600000 in
theorem l4File_any (p : Bs) (a : Option Addr) (cap : Nat) (zs : List Int) (w : World) (h : Reads .u8 w a zs) (hu : U8 zs) (hcap : zs.length ≤ cap) (hl : zs.length ≤ 24) :
    Calls Tryz.prog 127 #[.string (str p), .slice a zs.length cap] w fun r w' => ∃ av cv, r = .returned (.agg #[.string (str p), .int .i64 1, .int .i64 zs.length, .slice av (cut zs).length cv]) ∧ w'.ownsRow w.heap.size 2 1 (.slice av (cut zs).length cv) (cut zs).length ((digs zs (cut zs).length).map (Value.int .i64)) ∧ Below w.heap.size w w' := by
  have HD := hide (fun u hb => l1Digests_any a cap zs u (h.below hb) hu hcap hl)
  clear h hu
  go_enter Tryz.func127, Tryz.ntmps127
  have B0 := hide (below_alloc w (.cells #[.string ⟨#[]⟩, .int .i64 0, .int .i64 0, .slice none 0 0] 40))
  have F0 := hide (Four.new w (.string ⟨#[]⟩) (.int .i64 0) (.int .i64 0) (.slice none 0 0) 40)
  have Z0 := hide (show ∀ i, i < 4 → (w.alloc (.cells #[.string ⟨#[]⟩, .int .i64 0, .int .i64 0, .slice none 0 0] 40)).frozen? ⟨w.heap.size, i, none⟩ = false from fun i hi => by simp)
  go_wp2_with fail
  refine (HD.out _ B0.out).mono ?_
  rintro r w1 ⟨v, rfl, hG, hb1⟩
  obtain ⟨av, cv, rfl⟩ := ownsRow_shape hG
  have hlt0 := F0.out.lt
  have B1 := hide (below_next B0.out hb1)
  obtain ⟨f0, f1, f2, f3⟩ := F0.out.below hb1
  have z0 := (hb1.frozen (p := ⟨w.heap.size, 0, none⟩) hlt0).trans (Z0.out 0 (by omega))
  have z1 := (hb1.frozen (p := ⟨w.heap.size, 1, none⟩) hlt0).trans (Z0.out 1 (by omega))
  have z2 := (hb1.frozen (p := ⟨w.heap.size, 2, none⟩) hlt0).trans (Z0.out 2 (by omega))
  have z3 := (hb1.frozen (p := ⟨w.heap.size, 3, none⟩) hlt0).trans (Z0.out 3 (by omega))
  have GG := hide hG
  clear hG hb1 B0 F0 Z0
  go_wp2_with fail
  refine bodyPost_ret (v := .agg #[.string (str p), .int .i64 1, .int .i64 zs.length, .slice av (cut zs).length cv]) (by simp [results, Tryz.results127, go_sem, f0, f1, f2, f3]) rfl ⟨av, cv, rfl, ?_, (((B1.out.setCell (Nat.le_refl _) _).setCell (Nat.le_refl _) _).setCell (Nat.le_refl _) _).setCell (Nat.le_refl _) _⟩
  exact ownsRow_mono (ownsRow_kept (S := fun b => b = w.heap.size) GG.out (Kept.four _ _ _ _ _ _) (fun b hb e => by have := (GG.out.lt b hb).1; omega)) (by omega)

end Go.Proofs.YtjkmbicedbdifaaGreat

namespace Go.Proofs.YtjkmbicedbdifaaGreat
set_option linter.unusedVariables false

/-- A file, or a plain directory. -/
def treeK (k : Int) : Bool := decide (k = 1 ∨ k = 2)
/-- What the program's TreeFault answers. -/
def treFaultP (es : List En) : Int := if 40 < es.length then 2 else if es.all (fun e => treeK e.kind) then layFromH (homeP es) none es else 1
/-- What the model's answers. -/
def treFault (es : List En) : Int := if 40 < es.length then 2 else if es.all (fun e => treeK e.kind) then layFrom es none es else 1
/-- A tree without faults. -/
structure RightT (es : List En) : Prop where
  len : es.length ≤ 40
  kind : ∀ e ∈ es, treeK e.kind = true
  ent : ∀ e ∈ es, entFault e = 0
  rise : Rise es
  home : ∀ e ∈ es, homeP es e.path = true
theorem rightT_nil : RightT [] := ⟨by simp, fun e he => by simp at he, fun e he => by simp at he, List.Pairwise.nil, fun e he => by simp at he⟩
theorem rightT_P {es : List En} : treFaultP es = 0 ↔ RightT es := by
  unfold treFaultP
  by_cases h : 40 < es.length
  · rw [if_pos h]
    exact ⟨fun x => (by cases x), fun x => (by have := x.len; omega)⟩
  · rw [if_neg h]
    cases hk : es.all (fun e => treeK e.kind)
    · refine ⟨fun x => (by simp at x), fun x => ?_⟩
      exfalso
      have := List.all_eq_true.2 x.kind
      rw [this] at hk; cases hk
    · rw [if_pos rfl, layFromH_zero]
      exact ⟨fun ⟨a, b, _⟩ => ⟨by omega, List.all_eq_true.1 hk, fun e he => (a e he).1, b, fun e he => (a e he).2⟩, fun x => ⟨fun e he => ⟨x.ent e he, x.home e he⟩, x.rise, fun q hq => by cases hq⟩⟩
/-- The program and the model tell the same fault of the entries, one by one. -/
def GoodH (es : List En) : Prop := layFromH (homeP es) none es = layFromH (homeE es) none es
theorem GoodH.tree {es : List En} (h : GoodH es) : treFaultP es = treFault es := by
  unfold treFaultP treFault
  rw [layFrom_H, h]
theorem GoodH.good {es : List En} (h : GoodH es) : Good es := by
  by_cases hl : 12 < es.length
  · exact good_many hl
  · exact good_of hl h
theorem goodH_rise {es : List En} (h : Rise es) : GoodH es := layFromH_congr (fun x hx _ => homeP_eq h x.path)
theorem rightT_E {es : List En} (h : GoodH es) : treFault es = 0 ↔ RightT es := by rw [← h.tree, rightT_P]
theorem goodH_snoc {es : List En} {e : En} (hr : Rise es) (hh : ∀ x ∈ es, homeP es x.path = true) : GoodH (es ++ [e]) := by
  refine layFromH_congr (fun x hx hxe => ?_)
  rcases List.mem_append.1 hx with hx | hx
  · have h1 := hh x hx
    have h2 : homeP (es ++ [e]) x.path = true := by
      rw [homeP_iff] at h1 ⊢
      rcases h1 with h1 | ⟨d, hd, h1⟩
      · exact .inl h1
      · exact .inr ⟨d, List.mem_append_left _ hd, h1⟩
    rw [h2]
    symm
    rw [homeP_eq hr] at h1
    unfold homeE at h1 ⊢
    by_cases h0 : parentP x.path = []
    · simp [h0]
    · rw [if_neg h0] at h1 ⊢
      cases hf : findE es (parentP x.path) with
      | none => rw [hf] at h1; simp at h1
      | some d =>
        rw [hf] at h1
        have : findE (es ++ [e]) (parentP x.path) = some d := by
          rw [findE, List.find?_append]
          have hf' : List.find? (fun y : En => decide (y.path = parentP x.path)) es = some d := hf
          rw [hf']
          rfl
        rw [this]
        exact h1
  · simp only [List.mem_singleton] at hx
    subst hx
    by_cases h0 : parentP x.path = []
    · simp [homeP, homeE, h0]
    · have hne := parent_ne (entFault_zero hxe) h0
      have e1 : homeP (es ++ [x]) x.path = homeP es x.path := by
        simp [homeP, h0, hasDir, hne.symm]
      have e2 : homeE (es ++ [x]) x.path = homeE es x.path := by
        have : findE (es ++ [x]) (parentP x.path) = findE es (parentP x.path) := by
          simp [findE, List.find?_append, hne.symm]
        simp only [homeE, this]
      rw [e1, e2, homeP_eq hr]
theorem goodH_set {r0 e : En} {tl : List En} (h : Right (r0 :: tl)) : GoodH (e :: tl) := by
  have hrt : Rise tl := (List.pairwise_cons.1 h.rise).2
  by_cases hr : Rise (e :: tl)
  · exact goodH_rise hr
  · have hb : entBadH (homeP (e :: tl)) none e = entBadH (homeE (e :: tl)) none e := by
      unfold entBadH
      by_cases he : entFault e = 0
      · have : homeP (e :: tl) e.path = homeE (e :: tl) e.path := by
          by_cases h0 : parentP e.path = []
          · simp [homeP, homeE, h0]
          · have hne := parent_ne (entFault_zero he) h0
            have e1 : homeP (e :: tl) e.path = homeP tl e.path := by simp [homeP, h0, hasDir, hne.symm]
            have e2 : homeE (e :: tl) e.path = homeE tl e.path := by
              have : findE (e :: tl) (parentP e.path) = findE tl (parentP e.path) := by simp [findE, hne.symm]
              simp only [homeE, this]
            rw [e1, e2, homeP_eq hrt]
        rw [this]
      · simp [he]
    unfold GoodH
    simp only [layFromH]
    rw [hb]
    by_cases hz : entBadH (homeE (e :: tl)) none e = 0
    · rw [if_pos hz, if_pos hz]
      cases tl with
      | nil => rfl
      | cons t1 r =>
        have ht : entFault t1 = 0 := h.ent t1 (by simp)
        have hlow : lowE (some e) t1 = true := by
          cases hlo : lowE (some e) t1
          · exfalso
            refine hr (List.pairwise_cons.2 ⟨fun y hy => ?_, hrt⟩)
            have h1 := lowE_some hlo
            rcases List.mem_cons.1 hy with rfl | hy
            · exact h1
            · exact bl_trans _ _ _ h1 ((List.pairwise_cons.1 hrt).1 y hy)
          · rfl
        simp only [layFromH]
        have b1 : ∀ H : Bs → Bool, entBadH H (some e) t1 = 1 := fun H => by simp [entBadH, ht, hlow]
        rw [b1, b1]
        rfl
    · rw [if_neg hz, if_neg hz]
/-- Where the first entry has a fault of its own. -/
theorem goodH_first {e : En} {tl : List En} (h : entFault e ≠ 0) : GoodH (e :: tl) := by
  have b1 : ∀ H : Bs → Bool, entBadH H none e = entFault e := fun H => by simp [entBadH, h]
  unfold GoodH
  simp only [layFromH, b1, if_neg h]

/-- The path above, of the names. -/
theorem parent_take {ns : List Bs} (h : 1 < ns.length) : (aboveN ns).getLastD [] = joinB (ns.take (ns.length - 1)) := by
  obtain ⟨m, hm⟩ : ∃ m, ns.length - 1 = m + 1 := ⟨ns.length - 2, by omega⟩
  unfold aboveN
  rw [hm, List.range_succ, List.map_append, List.getLastD_eq_getLast?]
  simp
/-- What is below a path has it as parent, or its parent is below it. -/
theorem below_step {x p : Bs} (hx : faultP x = 0) (hp : faultP p = 0) (h : belowB x p = true) : parentP x ≠ [] ∧ (parentP x = p ∨ belowB (parentP x) p = true) := by
  have hm := (above_iff hx).2 ⟨hp, h⟩
  have hne : aboveN (cutB x.tail) ≠ [] := fun e => by rw [e] at hm; simp at hm
  have h0 : parentP x ≠ [] := fun e => hne (parentP_nil.1 e)
  refine ⟨h0, ?_⟩
  obtain ⟨ns, hN, hxe, hc, -⟩ := faultP_zero hx
  rw [hc] at hm hne
  obtain ⟨k, hk0, hk1, hpk⟩ := mem_aboveN.1 hm
  have hpar : parentP x = joinB (ns.take (ns.length - 1)) := by unfold parentP; rw [hc]; exact parent_take (by omega)
  by_cases hk : k = ns.length - 1
  · exact .inl (by rw [hpar, hpk, hk])
  · refine .inr ?_
    have hT : Names (ns.take (ns.length - 1)) := names_take hN (by omega)
    have hf := faultP_of hT
    rw [hpar]
    refine ((above_iff hf).1 ?_).2
    rw [cut_of hT, mem_aboveN]
    refine ⟨k, hk0, by rw [List.length_take]; omega, ?_⟩
    rw [hpk, List.take_take, Nat.min_eq_left (by omega)]
theorem RightT.path {es : List En} (h : RightT es) {e : En} (he : e ∈ es) : faultP e.path = 0 := entFault_zero (h.ent e he)
theorem RightT.only {es : List En} (h : RightT es) {d e : En} (hd : d ∈ es) (he : e ∈ es) (hp : d.path = e.path) : d = e := by
  have h1 := rise_find h.rise hd
  have h2 := rise_find h.rise he
  rw [hp, h2] at h1
  exact (Option.some.inj h1).symm
theorem RightT.dir {es : List En} (h : RightT es) {e : En} (he : e ∈ es) : dirK e.kind = decide (e.kind = 2) := by
  have := h.kind e he
  simp only [treeK, decide_eq_true_eq] at this
  unfold dirK
  rcases this with hk | hk <;> rw [hk] <;> decide
theorem RightT.kinds {es : List En} (h : RightT es) {e : En} (he : e ∈ es) : e.kind = 1 ∨ e.kind = 2 := by
  have := h.kind e he
  simpa [treeK] using this
/-- A path that is no directory has nothing in it. -/
theorem RightT.file_bare {es : List En} (h : RightT es) {p : Bs} (hp : p ≠ []) (hf : ∀ d ∈ es, d.path = p → dirK d.kind = false) : ∀ x ∈ es, parentP x.path ≠ p := by
  intro x hx e
  rcases homeP_iff.1 (h.home x hx) with h0 | ⟨d, hd, hdp, hdk⟩
  · rw [e] at h0; exact hp h0
  · rw [hf d hd (hdp.trans e)] at hdk; cases hdk
/-- Where nothing has a path as its parent nothing is below it. -/
theorem RightT.none_below {es : List En} (h : RightT es) {p : Bs} (hp : faultP p = 0) (hk : ∀ x ∈ es, parentP x.path ≠ p) : ∀ x ∈ es, belowB x.path p = false := by
  have : ∀ n, ∀ x ∈ es, x.path.length ≤ n → belowB x.path p = false := by
    intro n
    induction n with
    | zero =>
      intro x hx hl
      cases hb : belowB x.path p
      · rfl
      · have := below_len hb; omega
    | succ n ih =>
      intro x hx hl
      cases hb : belowB x.path p
      · rfl
      · exfalso
        obtain ⟨h0, h1⟩ := below_step (h.path hx) hp hb
        rcases h1 with h1 | h1
        · exact hk x hx h1
        · rcases homeP_iff.1 (h.home x hx) with h2 | ⟨d, hd, hdp, -⟩
          · exact h0 h2
          · have h3 := below_len (parent_above (h.path hx) h0).2
            have := ih d hd (by rw [hdp]; omega)
            rw [hdp, h1] at this; cases this
  exact fun x hx => this _ x hx (Nat.le_refl _)
/-- A right entry is put into a right tree. -/
theorem rightT_put {es : List En} {e : En} (h : RightT es) (he : entFault e = 0) (hek : treeK e.kind = true) (hh : homeP es e.path = true) (hl : (putE es e).length ≤ 40) : RightT (putE es e) := by
  have hpe := entFault_zero he
  refine ⟨hl, fun x hx => ?_, fun x hx => ?_, rise_putE h.rise, fun x hx => ?_⟩
  · rcases mem_putE.1 hx with rfl | ⟨hx, _⟩
    · exact hek
    · exact h.kind x hx
  · rcases mem_putE.1 hx with rfl | ⟨hx, _⟩
    · exact he
    · exact h.ent x hx
  · rw [homeP_iff]
    rcases mem_putE.1 hx with rfl | ⟨hx, hk⟩
    · rcases homeP_iff.1 hh with h0 | ⟨d, hd, hdp, hdk⟩
      · exact .inl h0
      · by_cases h0 : parentP x.path = []
        · exact .inl h0
        · have hb := (parent_above hpe h0).2
          have hlen := below_len hb
          refine .inr ⟨d, mem_putE.2 (.inr ⟨hd, ?_⟩), hdp, hdk⟩
          have h1 : d.path ≠ x.path := fun e => by rw [hdp] at e; rw [e] at hlen; omega
          have h2 : belowB d.path x.path = false := by
            cases h3 : belowB d.path x.path
            · rfl
            · have := below_len h3; rw [hdp] at this; omega
          simp [keepE, h1, h2]
    · have hpx := h.path hx
      rcases homeP_iff.1 (h.home x hx) with h0 | ⟨d, hd, hdp, hdk⟩
      · exact .inl h0
      · by_cases h0 : parentP x.path = []
        · exact .inl h0
        · have hb := (parent_above hpx h0).2
          rw [← hdp] at hb
          simp only [keepE, Bool.and_eq_true, Bool.not_eq_true', decide_eq_false_iff_not, Bool.or_eq_true] at hk
          by_cases hde : d.path = e.path
          · rcases hk.2 with hk2 | hk2
            · exact .inr ⟨e, mem_putE.2 (.inl rfl), by rw [← hde]; exact hdp, hk2⟩
            · rw [hde] at hb; rw [hb] at hk2; cases hk2
          · refine .inr ⟨d, mem_putE.2 (.inr ⟨hd, ?_⟩), hdp, hdk⟩
            simp only [keepE, Bool.and_eq_true, Bool.not_eq_true', decide_eq_false_iff_not, Bool.or_eq_true]
            refine ⟨hde, hk.2.elim .inl (fun hk2 => .inr ?_)⟩
            cases h3 : belowB d.path e.path
            · rfl
            · rw [below_trans hb h3] at hk2; cases hk2
/-- All but what is of a path. -/
def offE (es : List En) (p : Bs) : List En := es.filter fun x => !decide (x.path = p)
theorem mem_offE {es : List En} {p : Bs} {x : En} : x ∈ offE es p ↔ x ∈ es ∧ x.path ≠ p := by simp [offE]
theorem offE_len (es : List En) (p : Bs) : (offE es p).length ≤ es.length := List.length_filter_le _ _
theorem offE_lt {es : List En} {p : Bs} {x : En} (hx : x ∈ es) (hp : x.path = p) : (offE es p).length < es.length := by
  unfold offE
  rw [List.length_filter_lt_length_iff_exists]
  exact ⟨x, hx, by simp [hp]⟩
theorem offE_same {es : List En} {p : Bs} (h : ∀ x ∈ es, x.path ≠ p) : offE es p = es := by
  unfold offE
  rw [List.filter_eq_self]
  intro x hx
  simp [h x hx]
theorem rightT_off {es : List En} {p : Bs} (h : RightT es) (hk : ∀ x ∈ es, parentP x.path ≠ p) : RightT (offE es p) := by
  refine ⟨Nat.le_trans (offE_len es p) h.len, fun x hx => h.kind x (mem_offE.1 hx).1, fun x hx => h.ent x (mem_offE.1 hx).1, h.rise.sublist List.filter_sublist, fun x hx => ?_⟩
  obtain ⟨hx, hn⟩ := mem_offE.1 hx
  rw [homeP_iff]
  rcases homeP_iff.1 (h.home x hx) with h0 | ⟨d, hd, hdp, hdk⟩
  · exact .inl h0
  · exact .inr ⟨d, mem_offE.2 ⟨hd, fun e => hk x hx (hdp ▸ e)⟩, hdp, hdk⟩
theorem rest_off {es : List En} {p : Bs} (h : ∀ x ∈ es, belowB x.path p = false) : restE es p true = offE es p := by
  unfold restE offE
  apply List.filter_congr
  intro x hx
  simp [goesE, h x hx]
theorem base_off {es : List En} {e : En} (h : dirK e.kind = true ∨ ∀ x ∈ es, belowB x.path e.path = false) : baseE es e = offE es e.path := by
  unfold baseE offE
  apply List.filter_congr
  intro x hx
  unfold keepE
  rcases h with h | h
  · simp [h]
  · simp [h x hx]
theorem findE_off {es : List En} {p q : Bs} (h : q ≠ p) : findE (offE es p) q = findE es q := by
  unfold findE offE
  rw [List.find?_filter]
  congr 1
  funext x
  by_cases e : x.path = q
  · simp [e, h]
  · simp [e]
theorem findE_gone (es : List En) (p : Bs) : findE (offE es p) p = none := find_none (fun e he => (mem_offE.1 he).2)

/-- The home. -/
def homeC (es : List En) (p : Bs) : Int :=
  if parentP p = [] then 0 else
    match findE es (parentP p) with
    | none => 4
    | some e => if e.kind = 1 then 9 else 0
theorem homeC_top {es : List En} {p : Bs} (h : parentP p = []) : homeC es p = 0 := by simp [homeC, h]
theorem homeC_none {es : List En} {p : Bs} (h : parentP p ≠ []) (hf : findE es (parentP p) = none) : homeC es p = 4 := by simp [homeC, h, hf]
theorem homeC_file {es : List En} {p : Bs} {e : En} (h : parentP p ≠ []) (hf : findE es (parentP p) = some e) (hk : e.kind = 1) : homeC es p = 9 := by simp [homeC, h, hf, hk]
theorem homeC_dir {es : List En} {p : Bs} {e : En} (h : parentP p ≠ []) (hf : findE es (parentP p) = some e) (hk : e.kind ≠ 1) : homeC es p = 0 := by simp [homeC, h, hf, hk]
theorem homeC_home {es : List En} {p : Bs} (h : RightT es) : homeC es p = 0 ↔ homeP es p = true := by
  rw [homeP_eq h.rise]
  unfold homeC homeE
  by_cases h0 : parentP p = []
  · simp [h0]
  · rw [if_neg h0, if_neg h0]
    cases hf : findE es (parentP p) with
    | none => simp
    | some e =>
      rcases h.kinds (find_mem hf).1 with hk | hk
      · simp [hk, dirK]
      · simp [hk, dirK]
/-- What WriteTree replies. -/
def writeC (es : List En) (p : Bs) : Int :=
  if homeC es p = 0 then
    (match findE es p with
    | some e => if e.kind = 2 then 9 else 0
    | none => if 40 ≤ es.length then 2 else 0)
  else homeC es p
def writeL (es : List En) (p : Bs) (ds : List Int) : List En := if writeC es p = 0 then putE es (fileE p ds) else es
/-- What MakeDir replies. -/
def makeC (es : List En) (p : Bs) : Int :=
  if homeC es p = 0 then
    (match findE es p with
    | some _ => 7
    | none => if 40 ≤ es.length then 2 else 0)
  else homeC es p
def dirE (p : Bs) : En := ⟨p, 2, 0, []⟩
def makeL (es : List En) (p : Bs) : List En := if makeC es p = 0 then putE es (dirE p) else es
/-- What has a path as its parent. -/
def kidsE (es : List En) (p : Bs) : List En := es.filter fun x => decide (parentP x.path = p)
theorem kids_none {es : List En} {p : Bs} : kidsE es p = [] ↔ ∀ x ∈ es, parentP x.path ≠ p := by
  unfold kidsE
  rw [List.filter_eq_nil_iff]
  simp
/-- What RemoveTree replies. -/
def removeC (es : List En) (p : Bs) : Int :=
  match findE es p with
  | none => 4
  | some _ => if kidsE es p = [] then 0 else 1
def removeL (es : List En) (p : Bs) : List En := if removeC es p = 0 then offE es p else es
theorem dirE_right {p : Bs} (hp : faultP p = 0) : entFault (dirE p) = 0 := by
  rw [entFault_digs (e := dirE p) hp (by simp [formE, dirE]) (by simp [sizeE, dirE]) (by simp [manyE, dirE])]
  rfl
theorem putE_len2 {es : List En} {e : En} : (putE es e).length = (baseE es e).length + 1 := by
  unfold putE putAt
  simp only [List.length_append, List.length_cons, List.length_take, List.length_drop]
  omega
theorem put_len_in {es : List En} {e x : En} (hx : x ∈ es) (hp : x.path = e.path) : (putE es e).length ≤ es.length := by
  rw [putE_len2]
  have : (baseE es e).length < es.length := by
    unfold baseE
    rw [List.length_filter_lt_length_iff_exists]
    exact ⟨x, hx, by simp [keepE, hp]⟩
  omega
theorem put_len_le (es : List En) (e : En) : (putE es e).length ≤ es.length + 1 := by
  rw [putE_len2]
  have := baseE_len es e
  omega
theorem write_ok {es : List En} {p : Bs} (h : writeC es p = 0) : homeC es p = 0 ∧ (∀ e, findE es p = some e → e.kind ≠ 2) ∧ (findE es p = none → es.length < 40) := by
  unfold writeC at h
  by_cases h0 : homeC es p = 0
  · rw [if_pos h0] at h
    refine ⟨h0, fun e he => ?_, fun he => ?_⟩
    · rw [he] at h
      intro hk
      simp [hk] at h
    · rw [he] at h
      by_cases hl : 40 ≤ es.length
      · simp [hl] at h
      · omega
  · rw [if_neg h0] at h; exact absurd h h0
theorem make_ok {es : List En} {p : Bs} (h : makeC es p = 0) : homeC es p = 0 ∧ findE es p = none ∧ es.length < 40 := by
  unfold makeC at h
  by_cases h0 : homeC es p = 0
  · rw [if_pos h0] at h
    cases hf : findE es p with
    | some e => rw [hf] at h; simp at h
    | none =>
      rw [hf] at h
      by_cases hl : 40 ≤ es.length
      · simp [hl] at h
      · exact ⟨h0, rfl, by omega⟩
  · rw [if_neg h0] at h; exact absurd h h0
theorem remove_ok {es : List En} {p : Bs} (h : removeC es p = 0) : (∃ e, findE es p = some e) ∧ kidsE es p = [] := by
  unfold removeC at h
  cases hf : findE es p with
  | none => rw [hf] at h; simp at h
  | some e =>
    rw [hf] at h
    by_cases hk : kidsE es p = []
    · exact ⟨⟨e, rfl⟩, hk⟩
    · simp [hk] at h
theorem write_bare {es : List En} {p : Bs} (hR : RightT es) (hp : faultP p = 0) (h : writeC es p = 0) : ∀ x ∈ es, belowB x.path p = false := by
  have h0 : p ≠ [] := fun e => by rw [e] at hp; exact faultP_nil hp
  refine hR.none_below hp (hR.file_bare h0 (fun d hd hdp => ?_))
  have hf := rise_find hR.rise hd
  rw [hdp] at hf
  have := (write_ok h).2.1 d hf
  rw [hR.dir hd]
  simpa using this
theorem right_write {es : List En} {p : Bs} {ds : List Int} (hR : RightT es) (hp : faultP p = 0) (hd : entFault (fileE p ds) = 0) (h : writeC es p = 0) : RightT (putE es (fileE p ds)) := by
  obtain ⟨h1, h2, h3⟩ := write_ok h
  refine rightT_put hR hd rfl ((homeC_home hR).1 h1) ?_
  cases hf : findE es p with
  | none => have := h3 hf; have := put_len_le es (fileE p ds); omega
  | some e => have := put_len_in (e := fileE p ds) (find_mem hf).1 (find_mem hf).2; have := hR.len; omega
theorem right_make {es : List En} {p : Bs} (hR : RightT es) (hp : faultP p = 0) (h : makeC es p = 0) : RightT (putE es (dirE p)) := by
  obtain ⟨h1, h2, h3⟩ := make_ok h
  refine rightT_put hR (dirE_right hp) rfl ((homeC_home hR).1 h1) ?_
  have := put_len_le es (dirE p)
  omega
theorem right_remove {es : List En} {p : Bs} (hR : RightT es) (h : removeC es p = 0) : RightT (offE es p) := rightT_off hR (kids_none.1 (remove_ok h).2)
theorem rightT_writeL {es : List En} {p : Bs} {ds : List Int} (hR : RightT es) (hp : faultP p = 0) (hd : entFault (fileE p ds) = 0) : RightT (writeL es p ds) := by
  unfold writeL
  by_cases h : writeC es p = 0
  · rw [if_pos h]; exact right_write hR hp hd h
  · rw [if_neg h]; exact hR
theorem rightT_makeL {es : List En} {p : Bs} (hR : RightT es) (hp : faultP p = 0) : RightT (makeL es p) := by
  unfold makeL
  by_cases h : makeC es p = 0
  · rw [if_pos h]; exact right_make hR hp h
  · rw [if_neg h]; exact hR
theorem rightT_removeL {es : List En} {p : Bs} (hR : RightT es) : RightT (removeL es p) := by
  unfold removeL
  by_cases h : removeC es p = 0
  · rw [if_pos h]; exact right_remove hR h
  · rw [if_neg h]; exact hR
end Go.Proofs.YtjkmbicedbdifaaGreat

namespace Go.Proofs.YtjkmbicedbdifaaGreat
set_option linter.unusedVariables false

/-- Entries without faults, rising, each with a home; no bound on how many. -/
structure Fit (es : List En) : Prop where
  ent : ∀ e ∈ es, entFault e = 0
  rise : Rise es
  home : ∀ e ∈ es, homeP es e.path = true
structure FitT (es : List En) : Prop where
  fit : Fit es
  kind : ∀ e ∈ es, treeK e.kind = true
theorem fit_nil : Fit [] := ⟨fun e he => by simp at he, List.Pairwise.nil, fun e he => by simp at he⟩
theorem fitT_nil : FitT [] := ⟨fit_nil, fun e he => by simp at he⟩
theorem right_fit {es : List En} : Right es ↔ Fit es ∧ es.length ≤ 12 := ⟨fun h => ⟨⟨h.ent, h.rise, h.home⟩, h.len⟩, fun h => ⟨h.2, h.1.ent, h.1.rise, h.1.home⟩⟩
theorem rightT_fit {es : List En} : RightT es ↔ FitT es ∧ es.length ≤ 40 := ⟨fun h => ⟨⟨⟨h.ent, h.rise, h.home⟩, h.kind⟩, h.len⟩, fun h => ⟨h.2, h.1.kind, h.1.fit.ent, h.1.fit.rise, h.1.fit.home⟩⟩
theorem Fit.path {es : List En} (h : Fit es) {e : En} (he : e ∈ es) : faultP e.path = 0 := entFault_zero (h.ent e he)

theorem bl_append : ∀ (p : Bs) (c : UInt8) (r : Bs), Op.bytesLess p (p ++ c :: r) = true
  | [], c, r => by simp [Op.bytesLess]
  | a :: p, c, r => by simp [Op.bytesLess, bl_append p c r]
theorem below_less {q p : Bs} (h : belowB q p = true) : Op.bytesLess p q = true := by
  obtain ⟨r, _, rfl⟩ := belowB_iff.1 h
  exact bl_append p 47 r
theorem not_below_of_less {q p : Bs} (h : Op.bytesLess q p = true) : belowB q p = false := by
  cases hb : belowB q p
  · rfl
  · have := bl_asymm (below_less hb); rw [h] at this; cases this

theorem find_filter (es : List En) (f : Bs → Bool) (q : Bs) : findE (es.filter fun e => f e.path) q = if f q then findE es q else none := by
  unfold findE
  rw [List.find?_filter]
  cases hq : f q
  · rw [if_neg (by simp), List.find?_eq_none]
    intro x hx
    by_cases e : x.path = q
    · simp [e, hq]
    · simp [e]
  · rw [if_pos rfl]
    congr 1
    funext x
    by_cases e : x.path = q
    · simp [e, hq]
    · simp [e]
theorem find_putAt {bs : List En} {e : En} (hn : ∀ x ∈ bs, x.path ≠ e.path) (q : Bs) : findE (putAt bs e) q = if q = e.path then some e else findE bs q := by
  unfold putAt
  by_cases h : q = e.path
  · rw [if_pos h, findE, List.find?_append]
    have h1 : List.find? (fun x : En => decide (x.path = q)) (bs.take (lowN bs e.path)) = none := by
      rw [List.find?_eq_none]
      intro x hx
      simpa [h] using hn x (List.mem_of_mem_take hx)
    rw [h1]
    simp [h]
  · rw [if_neg h]
    conv => rhs; rw [← List.take_append_drop (lowN bs e.path) bs]
    have h2 : decide (e.path = q) = false := by simpa using fun x : e.path = q => h x.symm
    simp only [findE, List.find?_append, List.find?_cons, h2]
theorem find_snoc {D : List En} {e : En} (hn : ∀ x ∈ D, x.path ≠ e.path) (q : Bs) : findE (D ++ [e]) q = if q = e.path then some e else findE D q := by
  by_cases h : q = e.path
  · rw [if_pos h, findE, List.find?_append]
    have h1 : List.find? (fun x : En => decide (x.path = q)) D = none := by
      rw [List.find?_eq_none]
      intro x hx
      simpa [h] using hn x hx
    rw [h1]
    simp [h]
  · rw [if_neg h]
    have h2 : decide (e.path = q) = false := by simpa using fun x : e.path = q => h x.symm
    simp only [findE, List.find?_append, List.find?_cons, h2, List.find?_nil, Option.or_none]
/-- Two rising lists of which each path tells the same are one. -/
theorem rise_ext : ∀ {es fs : List En}, Rise es → Rise fs → (∀ q, findE es q = findE fs q) → es = fs
  | [], [], _, _, _ => rfl
  | [], y :: fs, _, h2, h => by
    have := h y.path
    rw [rise_find h2 List.mem_cons_self] at this
    cases this
  | x :: es, [], h1, _, h => by
    have := h x.path
    rw [rise_find h1 List.mem_cons_self] at this
    cases this
  | x :: es, y :: fs, h1, h2, h => by
    have p1 := List.pairwise_cons.1 h1
    have p2 := List.pairwise_cons.1 h2
    have hx : x ∈ y :: fs := by
      have := h x.path
      rw [rise_find h1 List.mem_cons_self] at this
      exact (find_mem this.symm).1
    have hy : y ∈ x :: es := by
      have := h y.path
      rw [rise_find h2 List.mem_cons_self] at this
      exact (find_mem this).1
    have hxy : x = y := by
      rcases List.mem_cons.1 hx with e | hx
      · exact e
      · rcases List.mem_cons.1 hy with e | hy
        · exact e.symm
        · have a1 := p2.1 x hx
          have a2 := p1.1 y hy
          have := bl_asymm a1
          rw [a2] at this
          cases this
    subst hxy
    congr 1
    refine rise_ext p1.2 p2.2 (fun q => ?_)
    by_cases e : x.path = q
    · rw [find_none (fun y hy e2 => bl_ne (p1.1 y hy) (e.trans e2.symm)), find_none (fun y hy e2 => bl_ne (p2.1 y hy) (e.trans e2.symm))]
    · have := h q
      simpa [findE, e] using this

/-- Where no directory stands nothing is below. -/
theorem Fit.bare {es : List En} (h : Fit es) {p : Bs} (hp : faultP p = 0) (hf : ∀ d ∈ es, d.path = p → dirK d.kind = false) : ∀ x ∈ es, belowB x.path p = false := by
  have : ∀ n, ∀ x ∈ es, x.path.length ≤ n → belowB x.path p = false := by
    intro n
    induction n with
    | zero =>
      intro x hx hl
      cases hb : belowB x.path p
      · rfl
      · have := below_len hb; omega
    | succ n ih =>
      intro x hx hl
      cases hb : belowB x.path p
      · rfl
      · exfalso
        obtain ⟨h0, h1⟩ := below_step (h.path hx) hp hb
        rcases homeP_iff.1 (h.home x hx) with h2 | ⟨d, hd, hdp, hdk⟩
        · exact h0 h2
        · rcases h1 with h1 | h1
          · rw [hf d hd (hdp.trans h1)] at hdk; cases hdk
          · have h3 := below_len (parent_above (h.path hx) h0).2
            have := ih d hd (by rw [hdp]; omega)
            rw [hdp, h1] at this; cases this
  exact fun x hx => this _ x hx (Nat.le_refl _)
theorem Fit.bare_find {es : List En} (h : Fit es) {p q : Bs} (hp : faultP p = 0) (hf : ∀ d ∈ es, d.path = p → dirK d.kind = false) (hb : belowB q p = true) : findE es q = none := by
  refine find_none (fun x hx e => ?_)
  have := h.bare hp hf x hx
  rw [e, hb] at this
  cases this
theorem Fit.up {es : List En} (h : Fit es) {p : Bs} {x : En} (hp : faultP p = 0) (hx : x ∈ es) (hb : belowB x.path p = true) : ∃ d ∈ es, d.path = p ∧ dirK d.kind = true := by
  by_cases hd : ∃ d ∈ es, d.path = p ∧ dirK d.kind = true
  · exact hd
  · exfalso
    have := h.bare hp (fun d hd1 hd2 => by
      cases hk : dirK d.kind
      · rfl
      · exact absurd ⟨d, hd1, hd2, hk⟩ hd) x hx
    rw [hb] at this
    cases this
theorem dir_bare {e : En} (h : entFault e = 0) (hk : e.kind ≠ 1) : e.size = 0 ∧ e.chunks = [] := by
  have hp := entFault_zero h
  have hf : formE e = true := by
    cases hf : formE e
    · rw [entFault_form hp hf] at h; cases h
    · rfl
  simp only [formE, decide_eq_true_eq] at hf
  rcases hf.2 with h1 | ⟨h1, h2⟩
  · exact absurd h1 hk
  · exact ⟨h1, List.length_eq_zero_iff.1 h2⟩
theorem ent_kinds {e : En} (h : entFault e = 0) : e.kind = 1 ∨ e.kind = 2 ∨ e.kind = 3 ∨ e.kind = 4 := by
  have hp := entFault_zero h
  have hf : formE e = true := by
    cases hf : formE e
    · rw [entFault_form hp hf] at h; cases h
    · rfl
  simp only [formE, decide_eq_true_eq] at hf
  omega
/-- Two entries of one path and of one kind that is no file are one. -/
theorem dir_one {d e : En} (h1 : entFault d = 0) (h2 : entFault e = 0) (hp : d.path = e.path) (hk : d.kind = e.kind) (hn : e.kind ≠ 1) : d = e := by
  obtain ⟨a1, a2⟩ := dir_bare h1 (by rw [hk]; exact hn)
  obtain ⟨b1, b2⟩ := dir_bare h2 hn
  cases d; cases e; simp_all
/-- The same entry with another kind that is no file. -/
def kindE (e : En) (k : Int) : En := { e with kind := k }
theorem ent_kind {e : En} {k : Int} (h : entFault e = 0) (hk : e.kind ≠ 1 ∨ (e.size = 0 ∧ e.chunks = [])) (h1 : 1 ≤ k) (h2 : k ≤ 4) : entFault (kindE e k) = 0 := by
  have hp := entFault_zero h
  obtain ⟨a1, a2⟩ : e.size = 0 ∧ e.chunks = [] := hk.elim (fun x => dir_bare h x) id
  have b1 : formE (kindE e k) = true := by simp [formE, kindE, a1, a2, h1, h2]
  have b2 : sizeE (kindE e k) = true := by simp [sizeE, kindE, a1]
  have b3 : manyE (kindE e k) = true := by simp [manyE, kindE, a1, a2]
  have b4 : (kindE e k).chunks.all isDig = true := by simp [kindE, a2]
  have b5 : faultP (kindE e k).path = 0 := hp
  rw [entFault_digs b5 b1 b2 b3, if_pos b4]

theorem mem_rest {t : List En} {p : Bs} {x : En} : x ∈ restE t p true ↔ x ∈ t ∧ x.path ≠ p ∧ belowB x.path p = false := by
  simp only [restE, goesE, List.mem_filter, Bool.not_eq_true', Bool.or_eq_false_iff, Bool.true_and, decide_eq_false_iff_not]
  exact ⟨fun h => ⟨h.1, h.2.2, h.2.1⟩, fun h => ⟨h.1, h.2.2, h.2.1⟩⟩
theorem find_rest (t : List En) (p q : Bs) : findE (restE t p true) q = if q = p then none else if belowB q p then none else findE t q := by
  have := find_filter t (fun y => !(belowB y p || (true && decide (y = p)))) q
  have e1 : restE t p true = t.filter (fun e => (fun y => !(belowB y p || (true && decide (y = p)))) e.path) := rfl
  rw [e1, this]
  by_cases h1 : q = p
  · simp [h1]
  · cases h2 : belowB q p <;> simp [h1]
theorem rest_rise {t : List En} (h : Rise t) (p : Bs) : Rise (restE t p true) := h.sublist List.filter_sublist
/-- What is left with a path has its home among what is left. -/
theorem rest_home {t : List En} (h : Fit t) {p : Bs} (hp : faultP p = 0) : ∀ x ∈ restE t p true, homeP (restE t p true) x.path = true := by
  intro x hx
  obtain ⟨hx, hn, hb⟩ := mem_rest.1 hx
  rw [homeP_iff]
  rcases homeP_iff.1 (h.home x hx) with h0 | ⟨d, hd, hdp, hdk⟩
  · exact .inl h0
  · by_cases h0 : parentP x.path = []
    · exact .inl h0
    · have hbx := (parent_above (h.path hx) h0).2
      rw [← hdp] at hbx
      refine .inr ⟨d, mem_rest.2 ⟨hd, fun e => ?_, ?_⟩, hdp, hdk⟩
      · rw [e, hb] at hbx; cases hbx
      · cases h3 : belowB d.path p
        · rfl
        · rw [below_trans hbx h3] at hb; cases hb
theorem rest_fit {t : List En} (h : Fit t) {p : Bs} (hp : faultP p = 0) : Fit (restE t p true) :=
  ⟨fun e he => h.ent e (mem_rest.1 he).1, rest_rise h.rise p, rest_home h hp⟩
theorem home_rest {t : List En} {p : Bs} (hp : faultP p = 0) (hh : homeP t p = true) : homeP (restE t p true) p = true := by
  rw [homeP_iff] at hh ⊢
  rcases hh with h0 | ⟨d, hd, hdp, hdk⟩
  · exact .inl h0
  · by_cases h0 : parentP p = []
    · exact .inl h0
    · have hb := (parent_above hp h0).2
      have hl := below_len hb
      refine .inr ⟨d, mem_rest.2 ⟨hd, fun e => ?_, ?_⟩, hdp, hdk⟩
      · rw [← hdp, e] at hl; omega
      · cases h3 : belowB d.path p
        · rfl
        · have := below_len h3; rw [hdp] at this; omega
/-- A right entry put in its place. -/
theorem fit_place {t : List En} {e : En} (h : Fit t) (he : entFault e = 0) (hh : homeP t e.path = true) : Fit (putAt (restE t e.path true) e) := by
  have hp := entFault_zero he
  have hr := rest_fit h hp
  have hn : ∀ x ∈ restE t e.path true, x.path ≠ e.path := fun x hx => (mem_rest.1 hx).2.1
  have hmono : ∀ q, homeP (restE t e.path true) q = true → homeP (putAt (restE t e.path true) e) q = true := by
    intro q hq
    rw [homeP_iff] at hq ⊢
    rcases hq with h0 | ⟨d, hd, hd2⟩
    · exact .inl h0
    · exact .inr ⟨d, mem_putAt.2 (.inr hd), hd2⟩
  refine ⟨fun x hx => ?_, rise_putAt hr.rise hn, fun x hx => ?_⟩
  · rcases mem_putAt.1 hx with rfl | hx
    · exact he
    · exact hr.ent x hx
  · rcases mem_putAt.1 hx with rfl | hx
    · exact hmono _ (home_rest hp hh)
    · exact hmono _ (hr.home x hx)
theorem find_place (t : List En) (e : En) (q : Bs) : findE (putAt (restE t e.path true) e) q = if q = e.path then some e else if belowB q e.path then none else findE t q := by
  rw [find_putAt (fun x hx => (mem_rest.1 hx).2.1), find_rest]
  by_cases h : q = e.path
  · simp [h]
  · simp [h]

/-- How an entry of a layer stands in a tree. -/
def asT (e : En) : En := if e.kind = 4 then kindE e 2 else e
theorem asT_path (e : En) : (asT e).path = e.path := by unfold asT; split <;> rfl
theorem asT_ent {e : En} (h : entFault e = 0) : entFault (asT e) = 0 := by
  unfold asT
  split
  · rename_i h4
    exact ent_kind h (.inl (by omega)) (by decide) (by decide)
  · exact h
theorem asT_kind {e : En} (h : entFault e = 0) (h3 : e.kind ≠ 3) : treeK (asT e).kind = true := by
  unfold asT
  rcases ent_kinds h with h1 | h1 | h1 | h1
  · simp [h1, treeK]
  · simp [h1, treeK]
  · exact absurd h1 h3
  · simp [h1, treeK, kindE]
theorem asT_dir {e : En} (hk : dirK e.kind = true) : (asT e).kind = 2 := by
  simp only [dirK, decide_eq_true_eq] at hk
  unfold asT
  rcases hk with hk | hk <;> simp [hk, kindE]
/-- All directories of one path are one in a tree. -/
theorem asT_one {d e : En} (h1 : entFault d = 0) (h2 : entFault e = 0) (hp : d.path = e.path) (hd : dirK d.kind = true) (he : dirK e.kind = true) : asT d = asT e := by
  refine dir_one (asT_ent h1) (asT_ent h2) (by rw [asT_path, asT_path, hp]) (by rw [asT_dir hd, asT_dir he]) (by rw [asT_dir he]; decide)
/-- An entry of a layer laid over a tree. -/
def overE (t : List En) (e : En) : List En :=
  if e.kind = 3 then restE t e.path true else if e.kind = 2 ∧ hasDir t e.path = true then t else putAt (restE t e.path true) (asT e)
def mergeE (t L : List En) : List En := L.foldl overE t
theorem hasDir_iff {t : List En} {p : Bs} : hasDir t p = true ↔ ∃ d ∈ t, d.path = p ∧ dirK d.kind = true := by
  simp [hasDir]
theorem hasDir_not {t : List En} {p : Bs} (h : ¬ hasDir t p = true) : ∀ d ∈ t, d.path = p → dirK d.kind = false := by
  intro d hd hp
  cases hk : dirK d.kind
  · rfl
  · exact absurd (hasDir_iff.2 ⟨d, hd, hp, hk⟩) h
theorem FitT.dir {t : List En} (h : FitT t) {d : En} (hd : d ∈ t) (hk : dirK d.kind = true) : d.kind = 2 := by
  have h1 := h.kind d hd
  simp only [treeK, dirK, decide_eq_true_eq] at h1 hk
  omega
theorem place_asT (t : List En) (e : En) : putAt (restE t e.path true) (asT e) = putAt (restE t (asT e).path true) (asT e) := by rw [asT_path]
theorem find_over {t : List En} {e : En} (h : FitT t) (he : entFault e = 0) (q : Bs) :
    findE (overE t e) q = if q = e.path then (if e.kind = 3 then none else some (asT e)) else if (!decide (e.kind = 2)) && belowB q e.path then none else findE t q := by
  have hp := entFault_zero he
  unfold overE
  by_cases h3 : e.kind = 3
  · rw [if_pos h3, find_rest]
    have : (!decide (e.kind = 2)) = true := by simp [h3]
    rw [this, Bool.true_and, if_pos h3]
  · rw [if_neg h3, if_neg h3]
    by_cases hd : e.kind = 2 ∧ hasDir t e.path = true
    · rw [if_pos hd]
      have e1 : (!decide (e.kind = 2)) = false := by simp [hd.1]
      rw [e1, Bool.false_and, if_neg Bool.false_ne_true]
      by_cases hq : q = e.path
      · rw [if_pos hq]
        obtain ⟨d, hdm, hdp, hdk⟩ := hasDir_iff.1 hd.2
        have h2 := h.dir hdm hdk
        have e2 : asT e = e := by unfold asT; rw [if_neg (by omega)]
        rw [hq, ← hdp, rise_find h.fit.rise hdm, e2, dir_one (h.fit.ent d hdm) he hdp (by rw [h2, hd.1]) (by omega)]
      · rw [if_neg hq]
    · rw [if_neg hd, place_asT, find_place, asT_path]
      by_cases hq : q = e.path
      · rw [if_pos hq, if_pos hq]
      · rw [if_neg hq, if_neg hq]
        by_cases h2 : e.kind = 2
        · have e1 : (!decide (e.kind = 2)) = false := by simp [h2]
          rw [e1, Bool.false_and, if_neg Bool.false_ne_true]
          cases hb : belowB q e.path
          · simp
          · rw [if_pos rfl]
            exact (h.fit.bare_find hp (hasDir_not (fun x => hd ⟨h2, x⟩)) hb).symm
        · have e1 : (!decide (e.kind = 2)) = true := by simp [h2]
          rw [e1, Bool.true_and]
theorem fitT_over {t : List En} {e : En} (h : FitT t) (he : entFault e = 0) (hh : homeP t e.path = true) : FitT (overE t e) := by
  have hp := entFault_zero he
  unfold overE
  by_cases h3 : e.kind = 3
  · rw [if_pos h3]
    exact ⟨rest_fit h.fit hp, fun x hx => h.kind x (mem_rest.1 hx).1⟩
  · rw [if_neg h3]
    by_cases hd : e.kind = 2 ∧ hasDir t e.path = true
    · rw [if_pos hd]; exact h
    · rw [if_neg hd, place_asT]
      refine ⟨fit_place h.fit (asT_ent he) (by rw [asT_path]; exact hh), fun x hx => ?_⟩
      rcases mem_putAt.1 hx with rfl | hx
      · exact asT_kind he h3
      · exact h.kind x (mem_rest.1 hx).1
theorem putAt_length (bs : List En) (e : En) : (putAt bs e).length = bs.length + 1 := by
  unfold putAt
  simp only [List.length_append, List.length_cons, List.length_take, List.length_drop]
  omega
theorem over_len (t : List En) (e : En) : (overE t e).length ≤ t.length + 1 := by
  have := restE_len t e.path true
  unfold overE
  split
  · omega
  · split
    · omega
    · rw [putAt_length]; omega
theorem merge_len : ∀ (L t : List En), (mergeE t L).length ≤ t.length + L.length
  | [], t => by simp [mergeE]
  | e :: L, t => by
    have h1 := merge_len L (overE t e)
    have h2 := over_len t e
    have h3 : mergeE t (e :: L) = mergeE (overE t e) L := rfl
    rw [h3, List.length_cons]
    omega
/-- Is a path below an entry that hides what is below? -/
def hid (L : List En) (q : Bs) : Bool := L.any fun e => (!decide (e.kind = 2)) && belowB q e.path
theorem hid_snoc (D : List En) (e : En) (q : Bs) : hid (D ++ [e]) q = (hid D q || ((!decide (e.kind = 2)) && belowB q e.path)) := by
  simp [hid, List.any_append]
theorem hid_iff {L : List En} {q : Bs} : hid L q = true ↔ ∃ e ∈ L, e.kind ≠ 2 ∧ belowB q e.path = true := by
  simp [hid]
/-- What is seen at a path of a layer over a tree. -/
def seeT (t L : List En) (q : Bs) : Option En :=
  match findE L q with
  | some e => if e.kind = 3 then none else some (asT e)
  | none => if hid L q then none else findE t q
theorem seeT_some {t L : List En} {q : Bs} {e : En} (h : findE L q = some e) : seeT t L q = if e.kind = 3 then none else some (asT e) := by simp [seeT, h]
theorem seeT_none {t L : List En} {q : Bs} (h : findE L q = none) : seeT t L q = if hid L q then none else findE t q := by simp [seeT, h]
/-- The entry at place k of a layer: all ahead of it is lower, and its home is ahead of it. -/
theorem lay_step {L : List En} {k : Nat} {e : En} (hL : Fit L) (he : L[k]? = some e) :
    (∀ x ∈ L.take k, Op.bytesLess x.path e.path = true) ∧ (parentP e.path = [] ∨ ∃ d ∈ L.take k, d.path = parentP e.path ∧ dirK d.kind = true) := by
  have hem := List.mem_of_getElem? he
  obtain ⟨hk, hke⟩ := List.getElem?_eq_some_iff.1 he
  have hs : L = L.take k ++ e :: L.drop (k + 1) := by
    conv => lhs; rw [← List.take_append_drop k L, List.drop_eq_getElem_cons hk, hke]
  have hr := hL.rise
  unfold Rise at hr
  rw [hs, List.pairwise_append] at hr
  refine ⟨fun x hx => hr.2.2 x hx e List.mem_cons_self, ?_⟩
  rcases homeP_iff.1 (hL.home e hem) with h0 | ⟨d, hd, hdp, hdk⟩
  · exact .inl h0
  · by_cases h0 : parentP e.path = []
    · exact .inl h0
    · have hb := below_less (parent_above (hL.path hem) h0).2
      rw [← hdp] at hb
      rw [hs] at hd
      rcases List.mem_append.1 hd with hd | hd
      · exact .inr ⟨d, hd, hdp, hdk⟩
      · exfalso
        rcases List.mem_cons.1 hd with rfl | hd
        · rw [bl_irrefl] at hb; cases hb
        · have := bl_asymm ((List.pairwise_cons.1 hr.2.1).1 d hd)
          rw [hb] at this; cases this
theorem take_next {L : List En} {k : Nat} {e : En} (he : L[k]? = some e) : L.take (k + 1) = L.take k ++ [e] := by
  rw [List.take_add_one, he]; rfl
theorem merge_view {t L : List En} (ht : FitT t) (hL : Fit L) : ∀ k, k ≤ L.length → FitT (mergeE t (L.take k)) ∧ ∀ q, findE (mergeE t (L.take k)) q = seeT t (L.take k) q
  | 0, _ => by
    refine ⟨by simpa [mergeE] using ht, fun q => ?_⟩
    simp [mergeE, seeT, findE, hid]
  | k + 1, hk => by
    obtain ⟨e, he⟩ : ∃ e, L[k]? = some e := ⟨_, List.getElem?_eq_getElem (by omega)⟩
    obtain ⟨ih1, ih2⟩ := merge_view ht hL k (by omega)
    obtain ⟨hlt, hho⟩ := lay_step hL he
    have hee := hL.ent e (List.mem_of_getElem? he)
    have hrD : Rise (L.take k) := hL.rise.sublist (List.take_sublist _ _)
    have hne : ∀ x ∈ L.take k, x.path ≠ e.path := fun x hx => bl_ne (hlt x hx)
    have hm : mergeE t (L.take (k + 1)) = overE (mergeE t (L.take k)) e := by rw [take_next he]; simp [mergeE, List.foldl_append]
    rw [hm, take_next he]
    generalize L.take k = D at *
    have hhome : homeP (mergeE t D) e.path = true := by
      rw [homeP_iff]
      rcases hho with h0 | ⟨d, hd, hdp, hdk⟩
      · exact .inl h0
      · have h1 := ih2 d.path
        rw [seeT_some (rise_find hrD hd)] at h1
        have hd3 : d.kind ≠ 3 := by intro e3; rw [e3] at hdk; cases hdk
        rw [if_neg hd3] at h1
        exact .inr ⟨asT d, (find_mem h1).1, by rw [asT_path, hdp], by rw [asT_dir hdk]; rfl⟩
    refine ⟨fitT_over ih1 hee hhome, fun q => ?_⟩
    rw [find_over ih1 hee, ih2 q]
    by_cases hq : q = e.path
    · rw [if_pos hq, seeT_some (e := e) (by rw [find_snoc hne, if_pos hq])]
    · rw [if_neg hq]
      have hf : findE (D ++ [e]) q = findE D q := by rw [find_snoc hne, if_neg hq]
      cases hD : findE D q with
      | some x =>
        have hx := find_mem hD
        have hb := not_below_of_less (hlt x hx.1)
        rw [hx.2] at hb
        rw [hb, Bool.and_false, if_neg (by simp), seeT_some hD, seeT_some (hf.trans hD)]
      | none =>
        rw [seeT_none hD, seeT_none (hf.trans hD), hid_snoc]
        cases (!decide (e.kind = 2)) && belowB q e.path <;> cases hid D q <;> simp
theorem merge_fit {t L : List En} (ht : FitT t) (hL : Fit L) : FitT (mergeE t L) := by
  have := (merge_view ht hL L.length (Nat.le_refl _)).1
  rwa [List.take_length] at this
theorem merge_find {t L : List En} (ht : FitT t) (hL : Fit L) (q : Bs) : findE (mergeE t L) q = seeT t L q := by
  have := (merge_view ht hL L.length (Nat.le_refl _)).2 q
  rwa [List.take_length] at this

/-- What an entry of a higher layer comes to over what a lower one has at its path. -/
def squV (o : Option En) (e : En) : En :=
  if e.kind = 2 then
    (match o with
    | some d => if dirK d.kind then d else kindE e 4
    | none => e)
  else e
theorem squV_none (e : En) : squV none e = e := by unfold squV; split <;> rfl
theorem squV_not {o : Option En} {e : En} (h : e.kind ≠ 2) : squV o e = e := by simp [squV, h]
theorem squV_dir {d e : En} (h : e.kind = 2) (hd : dirK d.kind = true) : squV (some d) e = d := by simp [squV, h, hd]
theorem squV_file {d e : En} (h : e.kind = 2) (hd : dirK d.kind = false) : squV (some d) e = kindE e 4 := by simp [squV, h, hd]
/-- An entry of a higher layer laid over a lower one. -/
def squE (l : List En) (e : En) : List En := if e.kind = 2 ∧ hasDir l e.path = true then l else putAt (restE l e.path true) (squV (findE l e.path) e)
def squashE (l h : List En) : List En := h.foldl squE l
theorem squV_path {l : List En} (e : En) : (squV (findE l e.path) e).path = e.path := by
  unfold squV
  split
  · split
    · rename_i d hd
      split
      · exact (find_mem hd).2
      · rfl
    · rfl
  · rfl
theorem squV_ent {l : List En} {e : En} (h : Fit l) (he : entFault e = 0) : entFault (squV (findE l e.path) e) = 0 := by
  unfold squV
  split
  · rename_i h2
    split
    · rename_i d hd
      split
      · exact h.ent d (find_mem hd).1
      · exact ent_kind he (.inl (by omega)) (by decide) (by decide)
    · exact he
  · exact he
theorem squ_dir {l : List En} (h : Fit l) {e : En} (hd : hasDir l e.path = true) : ∃ d, findE l e.path = some d ∧ d ∈ l ∧ dirK d.kind = true := by
  obtain ⟨d, hdm, hdp, hdk⟩ := hasDir_iff.1 hd
  exact ⟨d, by rw [← hdp]; exact rise_find h.rise hdm, hdm, hdk⟩
theorem find_squ {l : List En} {e : En} (h : Fit l) (he : entFault e = 0) (q : Bs) :
    findE (squE l e) q = if q = e.path then some (squV (findE l e.path) e) else if (!decide (e.kind = 2)) && belowB q e.path then none else findE l q := by
  have hp := entFault_zero he
  unfold squE
  by_cases hd : e.kind = 2 ∧ hasDir l e.path = true
  · rw [if_pos hd]
    obtain ⟨d, hf, hdm, hdk⟩ := squ_dir h hd.2
    have e1 : (!decide (e.kind = 2)) = false := by simp [hd.1]
    rw [e1, Bool.false_and, if_neg Bool.false_ne_true]
    by_cases hq : q = e.path
    · rw [if_pos hq, hq, hf, squV_dir hd.1 hdk]
    · rw [if_neg hq]
  · have e0 := find_place l (squV (findE l e.path) e) q
    rw [squV_path] at e0
    rw [if_neg hd, e0]
    by_cases hq : q = e.path
    · rw [if_pos hq, if_pos hq]
    · rw [if_neg hq, if_neg hq]
      by_cases h2 : e.kind = 2
      · have e1 : (!decide (e.kind = 2)) = false := by simp [h2]
        rw [e1, Bool.false_and, if_neg Bool.false_ne_true]
        cases hb : belowB q e.path
        · simp
        · rw [if_pos rfl]
          exact (h.bare_find hp (hasDir_not (fun x => hd ⟨h2, x⟩)) hb).symm
      · have e1 : (!decide (e.kind = 2)) = true := by simp [h2]
        rw [e1, Bool.true_and]
theorem fit_squ {l : List En} {e : En} (h : Fit l) (he : entFault e = 0) (hh : homeP l e.path = true) : Fit (squE l e) := by
  unfold squE
  by_cases hd : e.kind = 2 ∧ hasDir l e.path = true
  · rw [if_pos hd]; exact h
  · rw [if_neg hd]
    have := fit_place h (squV_ent h he) (by rw [squV_path]; exact hh)
    rwa [squV_path] at this
/-- What a layer that is made of two has at a path. -/
def seeS (low high : List En) (q : Bs) : Option En :=
  match findE high q with
  | some e => some (squV (if hid high q then none else findE low q) e)
  | none => if hid high q then none else findE low q
theorem seeS_some {low high : List En} {q : Bs} {e : En} (h : findE high q = some e) : seeS low high q = some (squV (if hid high q then none else findE low q) e) := by simp [seeS, h]
theorem seeS_none {low high : List En} {q : Bs} (h : findE high q = none) : seeS low high q = if hid high q then none else findE low q := by simp [seeS, h]
theorem squV_dirK {o : Option En} {e : En} (h : dirK e.kind = true) : dirK (squV o e).kind = true := by
  unfold squV
  split
  · split
    · rename_i d
      by_cases hd : dirK d.kind = true
      · rw [if_pos hd]; exact hd
      · rw [if_neg hd]; rfl
    · exact h
  · exact h
theorem squash_view {low high : List En} (hl : Fit low) (hh : Fit high) : ∀ k, k ≤ high.length → Fit (squashE low (high.take k)) ∧ ∀ q, findE (squashE low (high.take k)) q = seeS low (high.take k) q
  | 0, _ => by
    refine ⟨by simpa [squashE] using hl, fun q => ?_⟩
    simp [squashE, seeS, findE, hid]
  | k + 1, hk => by
    obtain ⟨e, he⟩ : ∃ e, high[k]? = some e := ⟨_, List.getElem?_eq_getElem (by omega)⟩
    obtain ⟨ih1, ih2⟩ := squash_view hl hh k (by omega)
    obtain ⟨hlt, hho⟩ := lay_step hh he
    have hee := hh.ent e (List.mem_of_getElem? he)
    have hrD : Rise (high.take k) := hh.rise.sublist (List.take_sublist _ _)
    have hne : ∀ x ∈ high.take k, x.path ≠ e.path := fun x hx => bl_ne (hlt x hx)
    have hm : squashE low (high.take (k + 1)) = squE (squashE low (high.take k)) e := by rw [take_next he]; simp [squashE, List.foldl_append]
    rw [hm, take_next he]
    generalize high.take k = D at *
    have hhome : homeP (squashE low D) e.path = true := by
      rw [homeP_iff]
      rcases hho with h0 | ⟨d, hd, hdp, hdk⟩
      · exact .inl h0
      · have h1 := ih2 d.path
        rw [seeS_some (rise_find hrD hd)] at h1
        have h2 := find_mem h1
        exact .inr ⟨_, h2.1, h2.2.trans hdp, squV_dirK hdk⟩
    refine ⟨fit_squ ih1 hee hhome, fun q => ?_⟩
    rw [find_squ ih1 hee, ih2 q]
    by_cases hq : q = e.path
    · have hD : findE D e.path = none := find_none hne
      have hs : findE (D ++ [e]) q = some e := by rw [find_snoc hne, if_pos hq]
      rw [if_pos hq, seeS_some hs, hid_snoc, ih2 e.path, seeS_none hD, hq, below_irrefl, Bool.and_false, Bool.or_false]
    · rw [if_neg hq]
      have hf : findE (D ++ [e]) q = findE D q := by rw [find_snoc hne, if_neg hq]
      cases hD : findE D q with
      | some x =>
        have hx := find_mem hD
        have hb := not_below_of_less (hlt x hx.1)
        rw [hx.2] at hb
        rw [hb, Bool.and_false, if_neg (by simp), seeS_some hD, seeS_some (hf.trans hD), hid_snoc, hb, Bool.and_false, Bool.or_false]
      | none =>
        rw [seeS_none hD, seeS_none (hf.trans hD), hid_snoc]
        cases (!decide (e.kind = 2)) && belowB q e.path <;> cases hid D q <;> simp
theorem squash_fit {low high : List En} (hl : Fit low) (hh : Fit high) : Fit (squashE low high) := by
  have := (squash_view hl hh high.length (Nat.le_refl _)).1
  rwa [List.take_length] at this
theorem squash_find {low high : List En} (hl : Fit low) (hh : Fit high) (q : Bs) : findE (squashE low high) q = seeS low high q := by
  have := (squash_view hl hh high.length (Nat.le_refl _)).2 q
  rwa [List.take_length] at this
/-- A layer that is made of two hides below a path what both hide. -/
theorem squash_hid {low high : List En} (hl : Fit low) (hh : Fit high) {q : Bs} : hid (squashE low high) q = (hid high q || hid low q) := by
  have hS := squash_fit hl hh
  have hv := squash_find hl hh
  rw [Bool.eq_iff_iff, Bool.or_eq_true, hid_iff]
  constructor
  · rintro ⟨s, hs, hk, hb⟩
    by_cases hH : hid high q = true
    · exact .inl hH
    · refine .inr ?_
      have h1 := rise_find hS.rise hs
      rw [hv] at h1
      cases hf : findE high s.path with
      | none =>
        rw [seeS_none hf] at h1
        by_cases hx : hid high s.path = true
        · rw [if_pos hx] at h1; cases h1
        · rw [if_neg hx] at h1
          exact hid_iff.2 ⟨s, (find_mem h1).1, hk, hb⟩
      | some e =>
        obtain ⟨hem, hep⟩ := find_mem hf
        have he2 : e.kind = 2 := by
          by_cases h2 : e.kind = 2
          · exact h2
          · exact absurd (hid_iff.2 ⟨e, hem, h2, by rw [hep]; exact hb⟩) hH
        rw [seeS_some hf] at h1
        have h2 := Option.some.inj h1
        cases ho : (if hid high s.path then none else findE low s.path) with
        | none =>
          rw [ho, squV_none] at h2
          rw [← h2] at hk
          exact absurd he2 hk
        | some d =>
          rw [ho] at h2
          have hd : findE low s.path = some d := by
            by_cases hx : hid high s.path = true
            · rw [if_pos hx] at ho; cases ho
            · rwa [if_neg hx] at ho
          have hdm := find_mem hd
          refine hid_iff.2 ⟨d, hdm.1, ?_, by rw [hdm.2]; exact hb⟩
          cases hdk : dirK d.kind
          · intro e2; rw [e2] at hdk; cases hdk
          · rw [squV_dir he2 hdk] at h2
            rw [h2]; exact hk
  · rintro (h | h)
    · obtain ⟨e, hem, hk, hb⟩ := hid_iff.1 h
      have hf := rise_find hh.rise hem
      have h1 := hv e.path
      rw [seeS_some hf, squV_not hk] at h1
      exact ⟨e, (find_mem h1).1, hk, hb⟩
    · by_cases hH : hid high q = true
      · obtain ⟨e, hem, hk, hb⟩ := hid_iff.1 hH
        have hf := rise_find hh.rise hem
        have h1 := hv e.path
        rw [seeS_some hf, squV_not hk] at h1
        exact ⟨e, (find_mem h1).1, hk, hb⟩
      · obtain ⟨d, hdm, hk, hb⟩ := hid_iff.1 h
        have hfd := rise_find hl.rise hdm
        have hnd : hid high d.path = false := by
          cases hx : hid high d.path
          · rfl
          · obtain ⟨e, hem, hk2, hb2⟩ := hid_iff.1 hx
            exact absurd (hid_iff.2 ⟨e, hem, hk2, below_trans hb hb2⟩) hH
        have h1 := hv d.path
        cases hf : findE high d.path with
        | none =>
          rw [seeS_none hf, hnd, if_neg (by simp), hfd] at h1
          exact ⟨d, (find_mem h1).1, hk, hb⟩
        | some e =>
          obtain ⟨hem, hep⟩ := find_mem hf
          have he2 : e.kind = 2 := by
            by_cases h2 : e.kind = 2
            · exact h2
            · exact absurd (hid_iff.2 ⟨e, hem, h2, by rw [hep]; exact hb⟩) hH
          rw [seeS_some hf, hnd, if_neg (by simp), hfd] at h1
          cases hdk : dirK d.kind
          · rw [squV_file he2 hdk] at h1
            exact ⟨_, (find_mem h1).1, by show (4 : Int) ≠ 2; decide, by show belowB q e.path = true; rw [hep]; exact hb⟩
          · rw [squV_dir he2 hdk] at h1
            exact ⟨d, (find_mem h1).1, hk, hb⟩
/-- Two layers that are made one do what they do one behind the other. -/
theorem squash_merge {t low high : List En} (ht : FitT t) (hl : Fit low) (hh : Fit high) : mergeE t (squashE low high) = mergeE (mergeE t low) high := by
  have hS := squash_fit hl hh
  have hm := merge_fit ht hl
  refine rise_ext (merge_fit ht hS).fit.rise (merge_fit hm hh).fit.rise (fun q => ?_)
  rw [merge_find ht hS, merge_find hm hh]
  cases hf : findE high q with
  | some e =>
    obtain ⟨hem, hep⟩ := find_mem hf
    have hs := squash_find hl hh q
    rw [seeS_some hf] at hs
    rw [seeT_some hs, seeT_some hf]
    by_cases h2 : e.kind = 2
    · have hd2 : dirK e.kind = true := by rw [h2]; rfl
      have hk := squV_dirK (o := if hid high q then none else findE low q) hd2
      have hm2 := find_mem hs
      have h3 : (squV (if hid high q then none else findE low q) e).kind ≠ 3 := by intro e3; rw [e3] at hk; cases hk
      rw [if_neg h3, if_neg (show ¬ e.kind = 3 by omega)]
      rw [asT_one (hS.ent _ hm2.1) (hh.ent e hem) (hm2.2.trans hep.symm) hk hd2]
    · rw [squV_not h2]
  | none =>
    have hs := squash_find hl hh q
    rw [seeS_none hf] at hs
    rw [seeT_none hf]
    cases hH : hid high q
    · rw [hH, if_neg (by simp)] at hs
      rw [if_neg (by simp), merge_find ht hl]
      cases hlq : findE low q with
      | some d => rw [seeT_some (hs.trans hlq), seeT_some hlq]
      | none => rw [seeT_none (hs.trans hlq), seeT_none hlq, squash_hid hl hh, hH, Bool.false_or]
    · rw [hH, if_pos rfl] at hs
      rw [if_pos rfl, seeT_none hs, squash_hid hl hh, hH, Bool.true_or, if_pos rfl]
theorem squ_len (l : List En) (e : En) : (squE l e).length ≤ l.length + 1 := by
  have := restE_len l e.path true
  unfold squE
  split
  · omega
  · rw [putAt_length]; omega
theorem squash_len : ∀ (h l : List En), (squashE l h).length ≤ l.length + h.length
  | [], l => by simp [squashE]
  | e :: h, l => by
    have h1 := squash_len h (squE l e)
    have h2 := squ_len l e
    have h3 : squashE l (e :: h) = squashE (squE l e) h := rfl
    rw [h3, List.length_cons]
    omega
end Go.Proofs.YtjkmbicedbdifaaGreat

namespace Go.Proofs.YtjkmbicedbdifaaGreat
set_option linter.unusedVariables false

/-- Does the layer's entry of that path hide what is below it? -/
def hideAt (es : List En) (q : Bs) : Bool := (findE es q).any fun e => !decide (e.kind = 2)
def hideUp (es : List En) (p : Bs) : Bool := (above p).any (hideAt es)
def hidesE (es : List En) (p : Bs) : Bool := hideAt es p || hideUp es p
/-- What HidesBelow answers. -/
def hidB (es : List En) (p : Bs) : Bool := decide (askP es p = 0) && hidesE es p

/-- How the model counts an entry: 2, 1, 0. -/
def rankE (es : List En) (q : Bs) : Int :=
  match findE es q with
  | some e => if e.kind = 3 ∨ e.kind = 1 then 2 else if e.kind = 4 then 1 else 0
  | none => 0
def overN (es : List En) (ups : List Bs) : Int := if ups.any (fun u => decide (rankE es u = 2)) then 2 else if ups.any (fun u => decide (rankE es u = 1)) then 1 else 0
def hidN (es : List En) (p : Bs) : Int := if overN es (above p) = 2 ∨ rankE es p = 2 then 2 else if overN es (above p) = 1 ∨ rankE es p = 1 then 1 else 0

theorem rank_none {es : List En} {q : Bs} (h : findE es q = none) : rankE es q = 0 := by simp [rankE, h]
theorem rank_two {es : List En} {q : Bs} {e : En} (h : findE es q = some e) (hk : e.kind = 3 ∨ e.kind = 1) : rankE es q = 2 := by simp only [rankE, h]; rw [if_pos hk]
theorem rank_one {es : List En} {q : Bs} {e : En} (h : findE es q = some e) (hk : e.kind = 4) : rankE es q = 1 := by simp [rankE, h, hk]
theorem rank_dir {es : List En} {q : Bs} {e : En} (h : findE es q = some e) (h1 : e.kind ≠ 1) (h3 : e.kind ≠ 3) (h4 : e.kind ≠ 4) : rankE es q = 0 := by simp [rankE, h, h1, h3, h4]
theorem rank_hide {es : List En} (h : Right es) (q : Bs) : hideAt es q = decide (rankE es q ≠ 0) := by
  cases hf : findE es q with
  | none => simp [hideAt, rankE, hf]
  | some e =>
    have he := (find_mem hf).1
    rcases ent_kinds (h.ent e he) with hk | hk | hk | hk <;> simp [hideAt, rankE, hf, hk]
theorem rank_cases (es : List En) (q : Bs) : rankE es q = 0 ∨ rankE es q = 1 ∨ rankE es q = 2 := by
  unfold rankE
  split
  · split
    · exact Or.inr (Or.inr rfl)
    · split
      · exact Or.inr (Or.inl rfl)
      · exact Or.inl rfl
  · exact Or.inl rfl
theorem over_cases (es : List En) (ups : List Bs) : overN es ups = 0 ∨ overN es ups = 1 ∨ overN es ups = 2 := by
  unfold overN
  split
  · exact Or.inr (Or.inr rfl)
  · split
    · exact Or.inr (Or.inl rfl)
    · exact Or.inl rfl
theorem over_zero {es : List En} {ups : List Bs} : overN es ups ≠ 0 ↔ ∃ u ∈ ups, rankE es u ≠ 0 := by
  unfold overN
  constructor
  · intro h
    split at h
    · rename_i h2
      obtain ⟨u, hu, hr⟩ := List.any_eq_true.1 h2
      exact ⟨u, hu, by have := of_decide_eq_true hr; omega⟩
    · split at h
      · rename_i h2
        obtain ⟨u, hu, hr⟩ := List.any_eq_true.1 h2
        exact ⟨u, hu, by have := of_decide_eq_true hr; omega⟩
      · exact absurd rfl h
  · rintro ⟨u, hu, hr⟩
    rcases rank_cases es u with h | h | h
    · exact absurd h hr
    · split
      · omega
      · rw [if_pos (List.any_eq_true.2 ⟨u, hu, decide_eq_true h⟩)]; omega
    · rw [if_pos (List.any_eq_true.2 ⟨u, hu, decide_eq_true h⟩)]; omega
theorem hidN_pos {es : List En} (h : Right es) (p : Bs) : decide (0 < hidN es p) = hidesE es p := by
  have h1 : hideUp es p = decide (overN es (above p) ≠ 0) := by
    rw [Bool.eq_iff_iff, decide_eq_true_iff, over_zero]
    unfold hideUp
    rw [List.any_eq_true]
    constructor
    · rintro ⟨u, hu, hr⟩
      rw [rank_hide h] at hr
      exact ⟨u, hu, of_decide_eq_true hr⟩
    · rintro ⟨u, hu, hr⟩
      exact ⟨u, hu, by rw [rank_hide h]; exact decide_eq_true hr⟩
  unfold hidesE
  rw [h1, rank_hide h]
  unfold hidN
  rcases over_cases es (above p) with h2 | h2 | h2 <;> rcases rank_cases es p with h3 | h3 | h3 <;> simp [h2, h3]
/-- One step of the model's loop. -/
theorem over_take_two {es : List En} {ups : List Bs} {k : Nat} {u : Bs} (hu : ups[k]? = some u) (h : rankE es u = 2) : overN es ups = 2 := by
  unfold overN
  rw [if_pos (List.any_eq_true.2 ⟨u, List.mem_of_getElem? hu, decide_eq_true h⟩)]
theorem take_at {α : Type} {l : List α} {k : Nat} {x : α} (h : l[k]? = some x) : l.take (k + 1) = l.take k ++ [x] := by rw [List.take_add_one, h]; rfl
theorem over_take {es : List En} {ups : List Bs} {k : Nat} {u : Bs} (hu : ups[k]? = some u) (h2 : overN es (ups.take k) ≠ 2) (h : rankE es u ≠ 2) : overN es (ups.take (k + 1)) = if rankE es u = 1 then 1 else overN es (ups.take k) := by
  rw [take_at hu]
  unfold overN at h2 ⊢
  simp only [List.any_append, List.any_cons, List.any_nil, Bool.or_false, h, decide_false]
  split at h2
  · exact absurd rfl h2
  · rename_i h3
    simp only [h3, Bool.false_eq_true, if_false]
    by_cases h4 : rankE es u = 1
    · simp [h4]
    · simp [h4]
theorem over_take_ne {es : List En} {ups : List Bs} {k : Nat} {u : Bs} (hu : ups[k]? = some u) (h2 : overN es (ups.take k) ≠ 2) (h : rankE es u ≠ 2) : overN es (ups.take (k + 1)) ≠ 2 := by
  rw [over_take hu h2 h]
  split
  · omega
  · exact h2
theorem askP_right {es : List En} {p : Bs} (h : askP es p = 0) : Right es ∧ faultP p = 0 := by
  unfold askP at h
  split at h
  · rename_i h1; exact ⟨right_P.1 h1, h⟩
  · rename_i h1; exact absurd h h1
theorem askP_of {es : List En} {p : Bs} (h : Right es) (hp : faultP p = 0) : askP es p = 0 := by
  unfold askP
  rw [if_pos (right_P.2 h)]; exact hp
theorem hidB_good {es : List En} {p : Bs} (h : askP es p = 0) : hidB es p = hidesE es p := by simp [hidB, h]
theorem hidB_bad {es : List En} {p : Bs} (h : askP es p ≠ 0) : hidB es p = false := by simp [hidB, h]
/-- What a layer hides, said by 'hid'. -/
theorem hides_iff {es : List En} (h : Right es) {p : Bs} (hp : faultP p = 0) : hidesE es p = true ↔ ∃ e ∈ es, e.kind ≠ 2 ∧ (e.path = p ∨ belowB p e.path = true) := by
  have hat : ∀ q, hideAt es q = true ↔ ∃ e ∈ es, e.kind ≠ 2 ∧ e.path = q := fun q => by
    constructor
    · intro hq
      cases hf : findE es q with
      | none => simp [hideAt, hf] at hq
      | some e =>
        obtain ⟨he, hpq⟩ := find_mem hf
        simp [hideAt, hf] at hq
        exact ⟨e, he, hq, hpq⟩
    · rintro ⟨e, he, hk, rfl⟩
      simp [hideAt, rise_find h.rise he, hk]
  unfold hidesE hideUp
  rw [Bool.or_eq_true, hat, List.any_eq_true]
  constructor
  · rintro (⟨e, he, hk, hq⟩ | ⟨u, hu, hr⟩)
    · exact ⟨e, he, hk, Or.inl hq⟩
    · obtain ⟨e, he, hk, rfl⟩ := (hat u).1 hr
      have hb : isBelow p e.path = true := by simpa [isBelow] using hu
      rw [isBelow_good hp] at hb
      exact ⟨e, he, hk, Or.inr (of_decide_eq_true hb).2⟩
  · rintro ⟨e, he, hk, (hq | hq)⟩
    · exact Or.inl ⟨e, he, hk, hq⟩
    · refine Or.inr ⟨e.path, ?_, (hat _).2 ⟨e, he, hk, rfl⟩⟩
      have hb : isBelow p e.path = true := by rw [isBelow_good hp]; exact decide_eq_true ⟨entFault_zero (h.ent e he), hq⟩
      simpa [isBelow] using hb
end Go.Proofs.YtjkmbicedbdifaaGreat

namespace Go.Proofs.YtjkmbicedbdifaaGreat
open Go.RowKit Go.Maps
set_option linter.unusedVariables false

theorem En.same {e f : En} (h0 : e.path = f.path) (h1 : e.kind = f.kind) (h2 : e.size = f.size) (h3 : e.chunks = f.chunks) : e = f := by
  cases e; cases f; simp_all
theorem ne_at {es fs : List En} {j : Nat} {e f : En} (he : es[j]? = some e) (hf : fs[j]? = some f) (h : e ≠ f) : decide (es = fs) = false := by
  apply decide_eq_false
  intro e1
  rw [e1, hf] at he
  exact h (Option.some.inj he).symm
theorem take_both {α : Type} {es fs : List α} {j : Nat} {e f : α} (he : es[j]? = some e) (hf : fs[j]? = some f) (h : es.take j = fs.take j) (hx : e = f) : es.take (j + 1) = fs.take (j + 1) := by
  rw [take_snoc_at he, take_snoc_at hf, h, hx]
theorem take_whole {α : Type} {es fs : List α} {j : Nat} (h : es.take j = fs.take j) (h1 : es.length ≤ j) (h2 : fs.length ≤ j) : es = fs := by
  rwa [List.take_of_length_le h1, List.take_of_length_le h2] at h
theorem getD_at {zs : List Int} {k : Nat} (h : k < zs.length) : zs[k]? = some (zs.getD k 0) := by rw [List.getD_eq_getElem?_getD, List.getElem?_eq_getElem h]; rfl



end Go.Proofs.YtjkmbicedbdifaaGreat

namespace Go.Proofs.YtjkmbicedbdifaaGreat
open Go.ChangeShapes Go.WideShapes Go.ChangeAt Go.RowKit
set_option linter.unusedVariables false

/-- A block of four cells that may be written. -/
def Box4 (w : World) (b : Nat) (u0 u1 u2 u3 : Value) : Prop := Four w b u0 u1 u2 u3 ∧ ∀ i, w.frozen? ⟨b, i, none⟩ = false
theorem Box4.new (w : World) (u0 u1 u2 u3 : Value) (t : TypeId) : Box4 (w.alloc (.cells #[u0, u1, u2, u3] t)) w.heap.size u0 u1 u2 u3 := ⟨Four.new w u0 u1 u2 u3 t, fun i => by simp⟩
theorem Box4.below {w w' : World} {b : Nat} {u0 u1 u2 u3 : Value} (h : Box4 w b u0 u1 u2 u3) (hk : Below w.heap.size w w') : Box4 w' b u0 u1 u2 u3 :=
  ⟨h.1.below hk, fun i => (hk.frozen (p := ⟨b, i, none⟩) h.1.lt).trans (h.2 i)⟩






end Go.Proofs.YtjkmbicedbdifaaGreat

namespace Go.Proofs.YtjkmbicedbdifaaGreat
open Go.RowKit Go.Maps
set_option linter.unusedVariables false
attribute [local go_sem ↓] Go.wp_at_zero Go.wp_at_succ

set_option maxRecDepth 100000 in
set_option maxHeartbeats 3200000 in
theorem treeOf_any (a : Option Addr) (c n : Nat) (es : List En) (w : World) (h : RdE w a es) (hn : n = es.length) (hl : es.length ≤ 1048576) :
    Calls Tryz.prog 44 #[.slice a n c] w fun r w' => ∃ av cv, r = .returned (.slice av n cv) ∧ LI w w' (.slice av n cv) es ∧ Below w.heap.size w w' := by
  subst hn
  obtain ⟨i1, ki, kz0, kz1, kz2⟩ := info_parts Tryz.infoIt
  have HR := hide h
  clear h
  go_enter Tryz.func44, Tryz.ntmps44
  go_wp2_with fail
  go_loopw [3, 8] (fun v i wr => ∃ k : Nat, k ≤ es.length ∧ i = .int .i64 k ∧ Hid (LI w wr v (es.take k)) ∧ Hid (Below w.heap.size w wr)) (fun _ i _ => es.length - (intOf i).toNat)
  case atStart => exact ⟨0, Nat.zero_le _, rfl, hide (LI.nil _ _), hide (Below.refl _ _)⟩
  case round =>
    obtain ⟨k, hk, rfl, HL, HW⟩ := hrel
    have hsz := HW.out.size
    obtain ⟨lv, lc, hv⟩ := HL.out.shape
    rw [take_len hk] at hv
    subst hv
    by_cases hlt : k < es.length
    · obtain ⟨b, off, e, x, cc, rfl, hb, he, c0, c1, c2, c3, hr⟩ := (HR.out.below HW.out).at hlt
      obtain ⟨b', off', e', x', cc', hbb, hb', he', d0, d1, d2, d3, hr'⟩ := HR.out.at hlt
      simp only [Option.some.injEq, Addr.mk.injEq, and_true] at hbb
      obtain ⟨rfl, rfl⟩ := hbb
      have : e' = e := Option.some.inj (he'.symm.trans he)
      subst this
      have d3' := (HW.out.cell (p := ⟨b, off + k * 4 + 3, none⟩) hb').trans d3
      rw [c3] at d3'
      simp only [Option.some.injEq, Value.slice.injEq, true_and] at d3'
      obtain ⟨rfl, rfl⟩ := d3'
      have HX := hide he
      have HRc := hide hr'
      clear he hr hr' he' d0 d1 d2 d3
      have BA := hide (below_alloc wr (.cells #[.string (str e'.path), .int .i64 e'.kind, .int .i64 e'.size, .slice x e'.chunks.length cc] 40))
      go_wp2_with fail
      refine (itemOf_any _ _ _ _ _ _ _).mono ?_
      rintro r w3 ⟨rfl, hb3⟩
      have BB5 := hide (below_next BA.out hb3)
      clear hb3 c0 c1 c2 c3 BA
      obtain ⟨rs, g1, g2, g3⟩ := HL.out
      rw [take_len hk] at g2
      have G1 := hide g1
      have G2 := hide (ownsRow_below g2 BB5.out)
      have G3 := hide g3
      have HK := hide (take_len hk)
      clear g1 g2 g3
      have hm1 : k + 1 ≤ maxLen := by unfold maxLen; omega
      have hm1' : (k + 1) * 56 ≤ 140737488355328 := by omega
      have hsz5 := BB5.out.size
      go_wp2_with (at_builtin; refine wpList_append_put rfl (.tmp 12) (.tmp 15) 55 rfl w.heap.size 64 i1 (.agg #[.int .i64 0, .slice none 0 0, .string ⟨#[]⟩, .int .i64 0]) 4 56 Tryz.underlying55 ki kz0 kz1 kz2 rfl (by decide) _ _ _ rfl G2.out _ rfl rfl rfl (by intro u hu; simp at hu; rcases hu with rfl | rfl | rfl | rfl <;> rfl) hm1 hm1' (by omega) ?_; intro av6 cv6 w6 hown6 hk6; have O6 := hide hown6; have K6 := hide hk6; clear hown6 hk6)
      go_roundw
      case rel =>
        refine ⟨k + 1, by omega, by go_num, hide ?_, hide ?_⟩
        · rw [take_snoc_at HX.out]
          exact LI.push (e := e') (a := x) (c := cc) G1.out HK.out.symm G3.out HRc.out O6.out
        · exact (below_next HW.out BB5.out).trans (K6.out.below (by omega) (fun q hq hS => by have := (G2.out.lt q hS).1; omega))
      case measure => simp [intOf]; omega
    · have hke : k = es.length := by omega
      have HE := hide (show es.take k = es from List.take_of_length_le (by omega))
      have HL2 : Hid (LI w wr (.slice lv k lc) es) := by have := HL.out; rw [HE.out] at this; exact this
      clear HL HE
      subst hke
      go_wp2_with fail
      go_ret
      exact ⟨lv, lc, rfl, HL2.out, HW.out⟩

/-- A closure that answers f, in worlds that came of W0. -/
def Asks (W0 : World) (fn : FuncId) (cap : Array Value) (f : En → Bool) : Prop :=
  (∀ args w, (callFunc fn args).run Tryz.prog w = .ok (.enter fn args) w) ∧ ∀ (e : En) (a : Option Addr) (c : Nat) (w : World), e.path.length ≤ 1048576 → e.chunks.length ≤ 1048576 → Reads .i64 w a e.chunks → Below W0.heap.size W0 w →
    Calls Tryz.prog fn (#[.agg #[.int .i64 e.size, .slice a e.chunks.length c, .string (str e.path), .int .i64 e.kind]] ++ cap) w fun r w' => r = .returned (.bool (f e)) ∧ Below w.heap.size w w'
theorem Asks.next {W0 W : World} {fn : FuncId} {cap : Array Value} {f : En → Bool} (h : Asks W0 fn cap f) (hb : Below W0.heap.size W0 W) : Asks W fn cap f :=
  ⟨h.1, fun e a c w he hc hr hw => h.2 e a c w he hc hr (below_next hb hw)⟩
theorem find_step {es : List En} {f : En → Bool} {k : Nat} {e : En} (he : es[k]? = some e) (h : es.find? f = (es.drop k).find? f) (hf : f e = false) : es.find? f = (es.drop (k + 1)).find? f := by
  rw [h, drop_at he, List.find?_cons, hf]
theorem find_hit {es : List En} {f : En → Bool} {k : Nat} {e : En} (he : es[k]? = some e) (h : es.find? f = (es.drop k).find? f) (hf : f e = true) : es.find? f = some e := by
  rw [h, drop_at he, List.find?_cons, hf]
theorem find_stop {es : List En} {f : En → Bool} {k : Nat} (hk : es.length ≤ k) (h : es.find? f = (es.drop k).find? f) : es.find? f = none := by
  rw [h, List.drop_eq_nil_of_le hk]; rfl

/-- What 'first' answers. -/
def FirstI (o : Option En) (w : World) (r : Ending) : Prop :=
  (∃ e x cc, o = some e ∧ r = .returned (.tuple #[.agg #[.int .i64 e.size, .slice x e.chunks.length cc, .string (str e.path), .int .i64 e.kind], .bool true]) ∧ Reads .i64 w x e.chunks) ∨
    (o = none ∧ r = .returned (.tuple #[.agg #[.int .i64 0, .slice none 0 0, .string ⟨#[]⟩, .int .i64 0], .bool false]))
set_option maxRecDepth 100000 in
set_option maxHeartbeats 3200000 in
theorem first_any (a : Option Addr) (c n : Nat) (es : List En) (fn : FuncId) (cap : Array Value) (f : En → Bool) (w : World) (h : RdI w a es) (hn : n = es.length) (hl : es.length ≤ 1048576) (hs : SmallE es) (hf : Asks w fn cap f) :
    Calls Tryz.prog 45 #[.slice a n c, .func (.func fn) #[] cap] w fun r w' => FirstI (es.find? f) w r ∧ Below w.heap.size w w' := by
  subst hn
  have eg := hf.1
  have HF := hide hf
  have HR := hide h
  have HS := hide hs
  have X0 := hide (Box4.new w (.int .i64 0) (.slice none 0 0) (.string ⟨#[]⟩) (.int .i64 0) 64)
  have B0 := hide (below_alloc w (.cells #[.int .i64 0, .slice none 0 0, .string ⟨#[]⟩, .int .i64 0] 64))
  clear h hf hs
  go_enter Tryz.func45, Tryz.ntmps45
  go_wp2_with fail
  generalize w.alloc (.cells #[.int .i64 0, .slice none 0 0, .string ⟨#[]⟩, .int .i64 0] 64) = W0 at *
  go_loopw [11] (fun i wr => ∃ k : Nat, k ≤ es.length ∧ i = .int .i64 k ∧ Hid (es.find? f = (es.drop k).find? f) ∧ Hid (Below W0.heap.size W0 wr)) (fun i _ => es.length - (intOf i).toNat)
  case atStart => exact ⟨0, Nat.zero_le _, rfl, hide (by simp), hide (Below.refl _ _)⟩
  case round =>
    obtain ⟨k, hk, rfl, HFi, HW0⟩ := hrel
    have HW := hide (below_next B0.out HW0.out)
    have hsz := HW.out.size
    by_cases hlt : k < es.length
    · obtain ⟨b, off, e, x, cc, rfl, hb, he, c0, c1, c2, c3, hr⟩ := (HR.out.below HW.out).at hlt
      obtain ⟨b', off', e', x', cc', hbb, hb', he', d0, d1, d2, d3, hr'⟩ := HR.out.at hlt
      simp only [Option.some.injEq, Addr.mk.injEq, and_true] at hbb
      obtain ⟨rfl, rfl⟩ := hbb
      have : e' = e := Option.some.inj (he'.symm.trans he)
      subst this
      have d1' := (HW.out.cell (p := ⟨b, off + k * 4 + 1, none⟩) hb').trans d1
      rw [c1] at d1'
      simp only [Option.some.injEq, Value.slice.injEq, true_and] at d1'
      obtain ⟨rfl, rfl⟩ := d1'
      have hsm := HS.out e' (List.mem_of_getElem? he)
      have HX := hide he
      have HRc := hide hr'
      clear he hr hr' he' d0 d1 d2 d3
      have BA := hide (below_alloc wr (.cells #[.int .i64 e'.size, .slice x e'.chunks.length cc, .string (str e'.path), .int .i64 e'.kind] 64))
      have F4 := hide (Four.new wr (.int .i64 e'.size) (.slice x e'.chunks.length cc) (.string (str e'.path)) (.int .i64 e'.kind) 64)
      go_wp2_with fail
      refine (HF.out.2 e' x cc _ hsm.1 hsm.2 (HRc.out.below (below_next HW.out BA.out)) (below_next HW.out BA.out)).mono ?_
      rintro r w3 ⟨rfl, hb3⟩
      have BB3 := hide (below_next HW0.out (below_next BA.out hb3))
      obtain ⟨f0, f1, f2, f3⟩ := F4.out.below hb3
      clear hb3 c0 c1 c2 c3
      cases hq : f e'
      · have HN := hide (find_step HX.out HFi.out hq)
        clear hq
        go_wp2_with fail
        go_roundw
        case rel => exact ⟨k + 1, by omega, by go_num, HN, BB3⟩
        case measure => simp [intOf]; omega
      · have HN := hide (find_hit HX.out HFi.out hq)
        clear hq
        obtain ⟨⟨t0, t1, t2, t3⟩, tf⟩ := X0.out.below BB3.out
        have tf0 := tf 0
        have tf1 := tf 1
        have tf2 := tf 2
        have tf3 := tf 3
        clear tf
        go_wp2_with fail
        refine bodyPost_ret (v := .tuple #[.agg #[.int .i64 e'.size, .slice x e'.chunks.length cc, .string (str e'.path), .int .i64 e'.kind], .bool true]) (by simp [results, Tryz.results45, go_sem, t0, t1, t2, t3]) rfl ?_
        exact ⟨.inl ⟨e', x, cc, HN.out, rfl, HRc.out⟩, ((((below_next B0.out BB3.out).setCell (p := ⟨w.heap.size, 0, none⟩) (Nat.le_refl _) _).setCell (p := ⟨w.heap.size, 1, none⟩) (Nat.le_refl _) _).setCell (p := ⟨w.heap.size, 2, none⟩) (Nat.le_refl _) _).setCell (p := ⟨w.heap.size, 3, none⟩) (Nat.le_refl _) _⟩
    · have HN := hide (find_stop (by omega) HFi.out)
      have BA := hide (below_alloc wr (.cells #[.int .i64 0, .slice none 0 0, .string ⟨#[]⟩, .int .i64 0] 64))
      obtain ⟨⟨t0, t1, t2, t3⟩, tf⟩ := X0.out.below (below_next HW0.out BA.out)
      have tf0 := tf 0
      have tf1 := tf 1
      have tf2 := tf 2
      have tf3 := tf 3
      clear tf
      go_wp2_with fail
      refine bodyPost_ret (v := .tuple #[.agg #[.int .i64 0, .slice none 0 0, .string ⟨#[]⟩, .int .i64 0], .bool false]) (by simp [results, Tryz.results45, go_sem, t0, t1, t2, t3]) rfl ?_
      exact ⟨.inr ⟨HN.out, rfl⟩, ((((below_next HW.out BA.out).setCell (p := ⟨w.heap.size, 0, none⟩) (Nat.le_refl _) _).setCell (p := ⟨w.heap.size, 1, none⟩) (Nat.le_refl _) _).setCell (p := ⟨w.heap.size, 2, none⟩) (Nat.le_refl _) _).setCell (p := ⟨w.heap.size, 3, none⟩) (Nat.le_refl _) _⟩
end Go.Proofs.YtjkmbicedbdifaaGreat

namespace Go.Proofs.YtjkmbicedbdifaaGreat
open Go.RowKit Go.Maps
set_option linter.unusedVariables false
attribute [local go_sem ↓] Go.wp_at_zero Go.wp_at_succ

theorem seeLaidOut : laidOutB Tryz.prog = true := by kernel_rfl
theorem spotLaw : Keyed Tryz.prog 73 := Keyed.of_law (deep_law_gate seeLaidOut (by decide +kernel) (by decide +kernel) (by kernel_rfl) (by kernel_rfl))
/-- A spot as a value, and as a key. -/
def spotV (i : Nat) (p : Bs) : Value := .agg #[.int .i64 i, .string (str p)]
def spotK (i : Nat) (p : Bs) : Lit := .string (keyBytes [.int .i64 i, .string (str p).data.toList])
theorem spotType : Tryz.prog.keyType 73 = true := by kernel_rfl
theorem spotCells : Tryz.prog.cellsOf 73 = 2 := by kernel_rfl
theorem intCells : Tryz.prog.cellsOf 3 = 1 := by kernel_rfl
theorem strCells : Tryz.prog.cellsOf 9 = 1 := by kernel_rfl
theorem nTypes : ∃ m, Tryz.prog.types.size + 1 = m + 1 + 1 := ⟨Tryz.prog.types.size - 1, by have : 1 ≤ Tryz.prog.types.size := (by decide +kernel); omega⟩
theorem i64_nat {i : Nat} (h : i ≤ 100) : (Lit.int .i64 (i : Int)).wf = true := by
  simp [Lit.wf, IntKind.min, IntKind.max, IntKind.signed, IntKind.bits]; omega
theorem spot_key {i : Nat} {p : Bs} (hi : i ≤ 100) (hp : p.length ≤ 1048576) : keyOf Tryz.prog 73 (spotV i p) = some (spotK i p) := by
  have hs : (str p).size ≤ maxLen := by rw [str_size]; unfold maxLen; omega
  have hw := i64_nat hi
  obtain ⟨m, hm⟩ := nTypes
  unfold keyOf spotV spotK
  rw [Tryz.underlying73]
  simp only [spotType, Value.formed, Tryz.underlying73, spotCells, Value.cells]
  rw [hm]
  simp [Program.keyLits, Tryz.underlying73, spotCells, Tryz.underlying3, Tryz.underlying9, intCells, strCells, hs, hw]
theorem spotV_inj {i j : Nat} {p q : Bs} (h : spotV i p = spotV j q) : i = j ∧ p = q := by
  unfold spotV at h
  simp only [Value.agg.injEq, Array.mk.injEq, List.cons.injEq, Value.int.injEq, Value.string.injEq, true_and, and_true] at h
  refine ⟨by omega, ?_⟩
  have := congrArg (fun s : ByteArray => s.data.toList) h.2
  simpa [str_data] using this
theorem spotK_inj {i j : Nat} {p q : Bs} (hi : i ≤ 100) (hj : j ≤ 100) (hp : p.length ≤ 1048576) (hq : q.length ≤ 1048576) (h : spotK i p = spotK j q) : i = j ∧ p = q := by
  have h1 := spot_key hi hp
  have h2 := spot_key hj hq
  rw [← h] at h2
  exact spotV_inj (spotLaw.inj h1 h2)

/-- How an element of the map reads: as it is. -/
def RVs (v : Value) : Option (DataW Value × List MemPlace) := some (.held v, [])
/-- An item as a value. -/
def itV (e : En) (a : Option Addr) (c : Nat) : Value := .agg #[.int .i64 e.size, .slice a e.chunks.length c, .string (str e.path), .int .i64 e.kind]
theorem zeroIt (w : World) : (zeroValue 64).run Tryz.prog w = .ok (.agg #[.int .i64 0, .slice none 0 0, .string ⟨#[]⟩, .int .i64 0]) w := by kernel_rfl

/-- Block b is a map that has the items S tells, each at its spot; their digests are read in w0. -/
def SeeM (w0 w : World) (b N : Nat) (S : Nat → Bs → Option En) : Prop :=
  ∃ (Dt : DataW Value) (A : Nat → Bs → Option Addr) (C : Nat → Bs → Nat), w.ownsMap Tryz.prog 73 RVs b N Dt ∧
    (∀ i p, i ≤ 100 → p.length ≤ 1048576 → has Dt (spotK i p) = (S i p).isSome) ∧
    (∀ i p e, i ≤ 100 → p.length ≤ 1048576 → S i p = some e → (∀ z, Dt.atKey (spotK i p) z = .held (itV e (A i p) (C i p))) ∧ Reads .i64 w0 (A i p) e.chunks) ∧
    (∀ kl, has Dt kl = true → ∃ i p, i ≤ 100 ∧ p.length ≤ 1048576 ∧ kl = spotK i p)
theorem SeeM.lt {w0 w : World} {b N : Nat} {S : Nat → Bs → Option En} (h : SeeM w0 w b N S) : b < w.heap.size := by
  obtain ⟨Dt, A, C, h1, _⟩ := h
  exact h1.lt
theorem SeeM.kept {Q : Nat → Prop} {w0 w w' : World} {b N : Nat} {S : Nat → Bs → Option En} (h : SeeM w0 w b N S) (hk : Kept Q w w') (hb : ¬ Q b) : SeeM w0 w' b N S := by
  obtain ⟨Dt, A, C, h1, h2⟩ := h
  have hlt := h1.lt
  obtain ⟨es, clock, hh, r⟩ := h1
  exact ⟨Dt, A, C, ⟨es, clock, (hk.block b hlt hb).trans hh, r⟩, h2⟩
theorem SeeM.below {w0 w w' : World} {b N : Nat} {S : Nat → Bs → Option En} (h : SeeM w0 w b N S) (hk : Below w.heap.size w w') : SeeM w0 w' b N S :=
  h.kept (Q := fun _ => False) (Kept.of_below hk) id
theorem SeeM.congr {w0 w : World} {b N : Nat} {S S' : Nat → Bs → Option En} (h : SeeM w0 w b N S) (hS : ∀ i p, S i p = S' i p) : SeeM w0 w b N S' := by
  have : S = S' := funext fun i => funext fun p => hS i p
  rw [← this]; exact h
theorem SeeM.made (w0 w : World) : SeeM w0 (w.alloc (.map #[] 0)) w.heap.size 0 (fun _ _ => none) := by
  refine ⟨.map [], fun _ _ => none, fun _ _ => 0, World.ownsMap_made _ _ _ _, ?_, ?_, ?_⟩
  · intro i p _ _
    simp [has]
  · intro i p e _ _ h
    simp at h
  · intro kl h
    simp [has] at h
theorem see_grown {w w' : World} {b : Nat} (h : w.grownBy w' (some b)) : Kept (fun x => x = b) w w' :=
  ⟨h.os, h.tape, h.output, h.size, fun k hk hn => h.block k hk (fun e => hn (by simpa using e))⟩
theorem spot_isKey {i : Nat} {p : Bs} (hi : i ≤ 100) (hp : p.length ≤ 1048576) : WideAt.IsKeyLit (spotK i p) := spotLaw.key (spot_key hi hp)

/-- An item is stored. -/
theorem SeeM.put {w0 w : World} {b N i : Nat} {p : Bs} {S : Nat → Bs → Option En} {e : En} {a : Option Addr} {c : Nat} (h : SeeM w0 w b N S) (hi : i ≤ 100) (hp : p.length ≤ 1048576) (hr : Reads .i64 w0 a e.chunks) :
    ∃ Dt, w.ownsMap Tryz.prog 73 RVs b N Dt ∧ ∀ w', w'.ownsMap Tryz.prog 73 RVs b (N + 1) (Dt.put (spotK i p) (.held (itV e a c))) → SeeM w0 w' b (N + 1) (fun j q => if j = i ∧ q = p then some e else S j q) := by
  obtain ⟨Dt, A, C, h1, h2, h3, h4⟩ := h
  refine ⟨Dt, h1, fun w' ho => ?_⟩
  refine ⟨_, fun j q => if j = i ∧ q = p then a else A j q, fun j q => if j = i ∧ q = p then c else C j q, ho, fun j q hj hq => ?_, fun j q x hj hq hx => ?_, fun kl hkl => ?_⟩
  · by_cases e1 : j = i ∧ q = p
    · obtain ⟨rfl, rfl⟩ := e1
      rw [has_put_same h1.isMap (spot_isKey hj hq)]
      simp
    · have hne : spotK j q ≠ spotK i p := fun hk => e1 (spotK_inj hj hi hq hp hk)
      rw [has_put_other (by simpa using hne), h2 j q hj hq]
      simp [e1]
  · by_cases e1 : j = i ∧ q = p
    · simp only [if_pos e1] at hx ⊢
      cases hx
      obtain ⟨rfl, rfl⟩ := e1
      exact ⟨fun z => atKey_put_same h1.isMap (spot_isKey hj hq) _ _, hr⟩
    · have hne : spotK j q ≠ spotK i p := fun hk => e1 (spotK_inj hj hi hq hp hk)
      simp only [if_neg e1] at hx ⊢
      exact ⟨fun z => by rw [atKey_put_other (by simpa using hne)]; exact (h3 j q x hj hq hx).1 z, (h3 j q x hj hq hx).2⟩
  · by_cases e1 : kl = spotK i p
    · exact ⟨i, p, hi, hp, e1⟩
    · rw [has_put_other (by simpa using e1)] at hkl
      exact h4 kl hkl

theorem SeeM.yes {w0 w : World} {b N i : Nat} {p : Bs} {S : Nat → Bs → Option En} {e : En} (h : SeeM w0 w b N S) (hi : i ≤ 100) (hp : p.length ≤ 1048576) (he : S i p = some e) :
    ∃ a c, (Instr.lookup 57 (.map (some b)) (spotV i p) true).run Tryz.prog w = .ok (.tuple #[itV e a c, .bool true]) w ∧ (Instr.lookup 57 (.map (some b)) (spotV i p) false).run Tryz.prog w = .ok (itV e a c) w ∧ Reads .i64 w0 a e.chunks := by
  obtain ⟨Dt, A, C, h1, h2, h3, h4⟩ := h
  refine ⟨A i p, C i p, ?_, ?_, (h3 i p e hi hp he).2⟩
  · obtain ⟨v, ps, hrun, hv⟩ := h1.look_ok spotLaw Tryz.underlying57 (zeroIt w) (zd := .held (.agg #[.int .i64 0, .slice none 0 0, .string ⟨#[]⟩, .int .i64 0])) (zp := []) rfl (spot_key hi hp)
    simp only [RVs, Option.some.injEq, Prod.mk.injEq, (h3 i p e hi hp he).1] at hv
    have e1 := hv.1
    simp only [DataW.held.injEq] at e1
    rw [hrun, h2 i p hi hp, he]
    simp [e1]
  · obtain ⟨v, ps, hrun, hv⟩ := h1.lookup spotLaw Tryz.underlying57 (zeroIt w) (zd := .held (.agg #[.int .i64 0, .slice none 0 0, .string ⟨#[]⟩, .int .i64 0])) (zp := []) rfl (spot_key hi hp)
    simp only [RVs, Option.some.injEq, Prod.mk.injEq, (h3 i p e hi hp he).1] at hv
    have e1 := hv.1
    simp only [DataW.held.injEq] at e1
    rw [hrun]
    simp [e1]
theorem SeeM.no {w0 w : World} {b N i : Nat} {p : Bs} {S : Nat → Bs → Option En} (h : SeeM w0 w b N S) (hi : i ≤ 100) (hp : p.length ≤ 1048576) (he : S i p = none) :
    (Instr.lookup 57 (.map (some b)) (spotV i p) true).run Tryz.prog w = .ok (.tuple #[.agg #[.int .i64 0, .slice none 0 0, .string ⟨#[]⟩, .int .i64 0], .bool false]) w := by
  obtain ⟨Dt, A, C, h1, h2, h3, h4⟩ := h
  obtain ⟨v, ps, hrun, hv⟩ := h1.look_ok spotLaw Tryz.underlying57 (zeroIt w) (zd := .held (.agg #[.int .i64 0, .slice none 0 0, .string ⟨#[]⟩, .int .i64 0])) (zp := []) rfl (spot_key hi hp)
  have hh : has Dt (spotK i p) = false := by rw [h2 i p hi hp, he]; rfl
  rw [atKey_of_not_has hh] at hv
  simp only [RVs, Option.some.injEq, Prod.mk.injEq] at hv
  have e1 := hv.1
  simp only [DataW.held.injEq] at e1
  rw [hrun, hh, e1]
/-- A look-up at the operation, its run known. -/
theorem wpList_lookS {P : Program} {w : World} {ops : Array Oper} {rest : List Oper} {o : Oper} {a : Act} {Q : Exit → Act → World → Prop} (hg : o.guard = none) (m x : Operand) (t : TypeId) (c : Bool) (hop : o.op = Op.lookup t m x c)
    (vm vx v : Value) (hm : a.eval m = vm) (hx : a.eval x = vx) (hrun : (Instr.lookup t vm vx c).run P w = .ok v w) (h : wpList P ops Q rest (a.put o.dst v) w) : wpList P ops Q (o :: rest) a w := by
  refine wpList_plain hg fun K' hK' => ?_
  unfold Oper.wp
  simp [execOp, hop, hm, hx, hrun, Result.andThen]
  exact hK' _ _ h
end Go.Proofs.YtjkmbicedbdifaaGreat

namespace Go.Proofs.YtjkmbicedbdifaaGreat
open Go.RowKit Go.Maps
set_option linter.unusedVariables false
attribute [local go_sem ↓] Go.wp_at_zero Go.wp_at_succ

/-- A list of layers in memory. -/
def RdL (w : World) (a : Option Addr) (ls : List (List En)) : Prop :=
  ls ≠ [] → ∃ (b off : Nat) (A : Nat → Option Addr) (C : Nat → Nat), a = some ⟨b, off, none⟩ ∧ b < w.heap.size ∧ ∀ i es, ls[i]? = some es → w.cell? ⟨b, off + i, none⟩ = some (.slice (A i) es.length (C i)) ∧ RdE w (A i) es
theorem RdL.below {w w' : World} {a : Option Addr} {ls : List (List En)} (h : RdL w a ls) (hk : Below w.heap.size w w') : RdL w' a ls := by
  intro hz
  obtain ⟨b, off, A, C, e, hb, hc⟩ := h hz
  refine ⟨b, off, A, C, e, Nat.lt_of_lt_of_le hb hk.size, fun i es hx => ?_⟩
  obtain ⟨c0, r⟩ := hc i es hx
  exact ⟨(hk.cell (p := ⟨b, off + i, none⟩) hb).trans c0, r.below hk⟩
theorem RdL.at {w : World} {a : Option Addr} {ls : List (List En)} (h : RdL w a ls) {k : Nat} (hk : k < ls.length) :
    ∃ b off es x c, a = some ⟨b, off, none⟩ ∧ b < w.heap.size ∧ ls[k]? = some es ∧ w.cell? ⟨b, off + k, none⟩ = some (.slice x es.length c) ∧ RdE w x es := by
  obtain ⟨b, off, A, C, e, hb, hc⟩ := h (by intro e; simp [e] at hk)
  have hx : ls[k]? = some ls[k] := List.getElem?_eq_getElem hk
  obtain ⟨c0, r⟩ := hc k _ hx
  exact ⟨b, off, ls[k], A k, C k, e, hb, hx, c0, r⟩
theorem RdL.one {w : World} {a : Option Addr} {c : Nat} {es : List En} (h : RdE w a es) (t : TypeId) : RdL (w.alloc (.cells #[.slice a es.length c] t)) (some ⟨w.heap.size, 0, none⟩) [es] := by
  intro _
  refine ⟨w.heap.size, 0, fun _ => a, fun _ => c, rfl, by simp, fun i x hx => ?_⟩
  cases i with
  | zero =>
    simp at hx
    subst hx
    exact ⟨by simp, h.below (below_alloc _ _)⟩
  | succ i => simp at hx

/-- What the map has, of a list of layers. -/
def seeL (ls : List (List En)) (i : Nat) (p : Bs) : Option En := (ls[i]?).bind fun es => findE es p
theorem seeL_nil (i : Nat) (p : Bs) : seeL [] i p = none := by simp [seeL]
theorem seeL_snoc_nil (D : List (List En)) (i : Nat) (p : Bs) : seeL (D ++ [[]]) i p = seeL D i p := by
  unfold seeL
  rcases Nat.lt_trichotomy i D.length with h | h | h
  · rw [List.getElem?_append_left h]
  · subst h; simp [findE]
  · rw [List.getElem?_eq_none (by simp; omega), List.getElem?_eq_none (by omega)]
theorem seeL_step {D : List (List En)} {es : List En} {j : Nat} {e : En} (he : es[j]? = some e) (hn : ∀ x ∈ es.take j, x.path ≠ e.path) (i : Nat) (p : Bs) :
    (if i = D.length ∧ p = e.path then some e else seeL (D ++ [es.take j]) i p) = seeL (D ++ [es.take (j + 1)]) i p := by
  unfold seeL
  rcases Nat.lt_trichotomy i D.length with h | h | h
  · rw [List.getElem?_append_left h, List.getElem?_append_left h, if_neg (fun hh => by omega)]
  · subst h
    simp only [List.getElem?_append_right (Nat.le_refl _), Nat.sub_self, List.getElem?_cons_zero, Option.bind_some, true_and]
    rw [take_at he, find_snoc hn]
  · rw [List.getElem?_eq_none (by simp; omega), List.getElem?_eq_none (by simp; omega), if_neg (fun hh => by omega)]
theorem rise_new {es : List En} (h : Rise es) {j : Nat} {e : En} (he : es[j]? = some e) : ∀ x ∈ es.take j, x.path ≠ e.path := by
  intro x hx
  have h2 : Rise (es.take (j + 1)) := h.sublist (List.take_sublist _ _)
  rw [take_at he] at h2
  unfold Rise at h2
  rw [List.pairwise_append] at h2
  exact bl_ne (h2.2.2 x hx e (by simp))

set_option maxRecDepth 100000 in
set_option maxHeartbeats 6400000 in
theorem sightOf_any (a : Option Addr) (c n : Nat) (ls : List (List En)) (w : World) (h : RdL w a ls) (hn : n = ls.length) (hl : ls.length ≤ 4) (hF : ∀ es ∈ ls, Rise es ∧ es.length ≤ 12 ∧ SmallE es) :
    Calls Tryz.prog 24 #[.slice a n c] w fun r w' => ∃ b N, r = .returned (.map (some b)) ∧ w.heap.size ≤ b ∧ N ≤ 48 ∧ SeeM w w' b N (seeL ls) ∧ Below w.heap.size w w' := by
  subst hn
  have HR := hide h
  have HFt := hide hF
  clear h hF
  have hmm : ∀ u : World, (Instr.makeMap 57 none).run Tryz.prog u = .ok (.map (some u.heap.size)) (u.alloc (.map #[] 0)) := fun u => by simp [Instr.makeMap, Result.andThen]
  go_enter Tryz.func24, Tryz.ntmps24
  go_wp2_with fail
  go_loopw [11] (fun i wr => ∃ k N : Nat, k ≤ ls.length ∧ i = .int .i64 k ∧ N ≤ 12 * k ∧ Hid (SeeM w wr w.heap.size N (seeL (ls.take k))) ∧ Hid (Below w.heap.size w wr)) (fun i _ => ls.length - (intOf i).toNat)
  case atStart => exact ⟨0, 0, Nat.zero_le _, rfl, Nat.le_refl _, hide ((SeeM.made w w).congr (fun i p => (seeL_nil i p).symm)), hide (below_alloc _ _)⟩
  case round =>
    obtain ⟨k, N, hk, rfl, hN, HM, HW⟩ := hrel
    by_cases hlt : k < ls.length
    · obtain ⟨b0, o0, es, x0, c0, rfl, hb0, hes, cc0, hre⟩ := HR.out.at hlt
      have cw := (HW.out.cell (p := ⟨b0, o0 + k, none⟩) hb0).trans cc0
      have HE := hide hre
      have HES := hide hes
      obtain ⟨hri, hle, hsm⟩ := HFt.out es (List.mem_of_getElem? hes)
      have HRi := hide hri
      have HSm := hide hsm
      clear hes cc0 hre hri hsm
      have hkl : (ls.take k).length = k := by rw [List.length_take]; omega
      go_wp2_with fail
      go_loopw [18] (fun i w2 => ∃ j N2 : Nat, j ≤ es.length ∧ i = .int .i64 j ∧ N2 ≤ 12 * k + j ∧ Hid (SeeM w w2 w.heap.size N2 (seeL (ls.take k ++ [es.take j]))) ∧ Hid (Below w.heap.size w w2)) (fun i _ => es.length - (intOf i).toNat)
      case atStart => exact ⟨0, N, Nat.zero_le _, rfl, by omega, hide (HM.out.congr (fun i p => (seeL_snoc_nil _ i p).symm)), HW⟩
      case round =>
        obtain ⟨j, N2, hj, rfl, hN2, HM2, HW2⟩ := hrel
        by_cases hjl : j < es.length
        · obtain ⟨b, off, e, x, cc, rfl, hb, he, c0, c1, c2, c3, hr⟩ := HE.out.at hjl
          have c0 := (HW2.out.cell (p := ⟨b, off + j * 4, none⟩) hb).trans c0
          have c1 := (HW2.out.cell (p := ⟨b, off + j * 4 + 1, none⟩) hb).trans c1
          have c2 := (HW2.out.cell (p := ⟨b, off + j * 4 + 2, none⟩) hb).trans c2
          have c3 := (HW2.out.cell (p := ⟨b, off + j * 4 + 3, none⟩) hb).trans c3
          have HX := hide he
          have HRc := hide hr
          have hsm := (HSm.out e (List.mem_of_getElem? he)).1
          have HNew := hide (rise_new HRi.out he)
          clear he hr
          have BA := hide ((below_alloc wr (.cells #[.string (str e.path), .int .i64 e.kind, .int .i64 e.size, .slice x e.chunks.length cc] 40)).drew)
          have F4 : Hid (Four (wr.alloc (.cells #[.string (str e.path), .int .i64 e.kind, .int .i64 e.size, .slice x e.chunks.length cc] 40)).drew wr.heap.size _ _ _ _) := hide (Four.new wr (.string (str e.path)) (.int .i64 e.kind) (.int .i64 e.size) (.slice x e.chunks.length cc) 40)
          go_wp2_with fail
          go_region_law
            (go_simp; go_wp2_with (go_at_call 41; refine (itemOf_any _ _ _ _ _ _ _).mono ?_; rintro r w3 ⟨rfl, hb3⟩; have BB3 := hide (below_next BA.out hb3); obtain ⟨f0, f1, f2, f3⟩ := F4.out.below hb3; obtain ⟨Dt, hown, hput⟩ := (HM2.out.below BB3.out).put (i := k) (p := e.path) (e := e) (c := cc) (by omega) hsm HRc.out; obtain ⟨w4, hrun, r1, r2⟩ := hown.update spotLaw Tryz.underlying57 (by unfold maxLen; omega) (spot_key (i := k) (p := e.path) (by omega) hsm) (val := itV e x cc) rfl; have HP4 := hide (hput w4 r1); have HG4 := hide r2; clear hb3 hown hput r1 r2; unfold spotV itV at hrun))
          all_goals
            have HN4 : Hid (SeeM w w4 w.heap.size (N2 + 1) (seeL (ls.take k ++ [es.take (j + 1)]))) := hide (HP4.out.congr (fun i p => by have := seeL_step (D := ls.take k) HX.out HNew.out i p; rw [hkl] at this; exact this))
            have B4 := hide ((below_next HW2.out BB3.out).trans ((see_grown HG4.out).below (Nat.le_trans HW2.out.size BB3.out.size) (fun q hq e => by omega)))
            go_wp2_with fail
            go_roundw
            case rel => exact ⟨j + 1, N2 + 1, by omega, by go_num, by omega, HN4, B4⟩
            case measure => simp [intOf]; omega
        · have HE2 := hide (show es.take j = es from List.take_of_length_le (by omega))
          go_wp2_with fail
          go_roundw
          case rel => exact ⟨k + 1, N2, by omega, by go_num, by omega, hide (HM2.out.congr (fun i p => by rw [HE2.out, take_at HES.out])), HW2⟩
          case measure => simp [intOf]; omega
    · have HE := hide (show ls.take k = ls from List.take_of_length_le (by omega))
      go_wp2_with fail
      go_ret
      exact ⟨_, N, rfl, Nat.le_refl _, by omega, by have := HM.out; rw [HE.out] at this; exact this, HW.out⟩

end Go.Proofs.YtjkmbicedbdifaaGreat
