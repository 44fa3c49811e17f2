/-
  Texts put together: EntC EntA Digest Parts IntsR Digests EntI LayP LibP Pieces PathP.
-/
import Derived.Test.YtejipahfodhmjaaGreatKLater3
import Derived.Test.YtejipahfodhmjaaGreatKLater1
import Derived.Shelf.Strings.OnBuilder
import Derived.Shelf.Strconv.Clone
import Derived.Shelf.Slices.Turned
import Derived.Shelf.Strings.Search2
import Derived.Shelf.Small.Wraps
import Derived.Test.YtejipahfodhmjaaGreatProg
import Derived.Lib.IndexLaws
import Derived.RangeFuncNested
import Derived.RangeFuncBound
import Derived.RangeFuncCalls
import Derived.RangeFuncLeaves
import Derived.RangeFuncBox
import Derived.Shelf.Abstract
import Derived.Shelf.RegionOpen
import Derived.OwnWalkIn
import Derived.TacticsInMore
import Derived.LoopNIn
import Derived.LoopIn
import Derived.Maps.AppendAt
import Derived.Test.YtejipahfodhmjaaGreatKLater2
import Derived.Scope
namespace Go.Proofs.YtejipahfodhmjaaGreat
open Go.RowKit Go.Maps
set_option linter.unusedVariables false
attribute [local go_sem ↓] Go.wp_at_zero Go.wp_at_succ

theorem wpList_append_take {P : Program} {wr : World} {ops : Array Oper} {rest : List Oper} {o : Oper} {a : Act} {Q : Exit → Act → World → Prop} (hgd : o.guard = none) (s x : Operand) (t : TypeId)
    (ho : o.op = .call { callee := .builtin .append, args := #[s, x], argTypes := #[t, t] })
    (base : Nat) (e : TypeId) (i : TypeInfo) (k : IntKind) (bytes : Nat) (hu : P.underlying t = some (.slice e)) (hi : P.info? e = some i) (hz : i.zero = some (.int k 0))
    (hsize : i.size = 1) (hby : i.bytes = bytes) (g c n : Nat) (ys : List Int) (hs : a.eval s = .slice (some ⟨g, 0, none⟩) n c) (hown : wr.ownsRow base e 1 (.slice (some ⟨g, 0, none⟩) n c) n (ys.map (Value.int k)))
    (xa : Option Addr) (m cap : Nat) (zs : List Int) (hx : a.eval x = .slice xa m cap) (hm : m = zs.length) (hr : Reads k wr xa zs)
    (N : Nat) (hN : n + m = N) (h63 : n + m ≤ maxLen) (hbytes : (n + m) * bytes ≤ 140737488355328) (hbase : base ≤ wr.heap.size)
    (h : ∀ av cv w', w'.ownsRow base e 1 (.slice av N cv) N ((ys ++ zs).map (Value.int k)) → Kept (fun b => b = g) wr w' → wpList P ops Q rest (a.put o.dst (.slice av N cv)) w') :
    wpList P ops Q (o :: rest) a wr := by
  subst hN
  cases xa with
  | some ad =>
    refine wpList_append_own _ hgd s x t ho base e i (.int k 0) 1 bytes hu hi hz hsize hby rfl (by decide) _ n _ hs hown ad m cap (zs.map (Value.int k)) hx (by simp [hm]) (fun j u hj => ?_) (ints_one _ _) h63 hbytes hbase ?_
    · have h0 : zs ≠ [] := fun e => by subst e; simp at hj
      obtain ⟨b, off, e1, hb, hc⟩ := hr h0
      simp only [Option.some.injEq] at e1
      subst e1
      exact reads_news hc j u hj
    · intro v' w' ho' hg _
      rw [← List.map_append] at ho'
      obtain ⟨av, cv, rfl⟩ := ownsRow_shape ho'
      exact h av cv w' ho' ⟨hg.os, hg.tape, hg.output, hg.size, fun q hq hn => hg.block q hq (fun e => hn (by simp [Value.ownBlock] at e; exact e))⟩
  | none =>
    have h0 : zs = [] := by
      by_cases h0 : zs = []
      · exact h0
      · obtain ⟨b, off, e1, _⟩ := hr h0; cases e1
    subst h0
    simp only [List.length_nil] at hm
    subst hm
    have hc : n ≤ c := ownsRow_cap hown
    have hrun : (Builtin.append_ #[t, t] o.type #[.slice (some ⟨g, 0, none⟩) n c, .slice none 0 cap]).run P wr = .ok (.slice (some ⟨g, 0, none⟩) (n + 0) c) wr := by
      simp [Builtin.append_, run_underlying hu, sizeOf, typeInfo, hi, Builtin.lenOf, Builtin.firstCells, storeCells, hc]
    refine wpList_plain hgd fun K hK => ?_
    unfold Oper.wp execOp
    simp only [ho, resolve, invoke, builtin, Sem.run_bind, Sem.run_pure, Result.andThen_ok, List.map_toArray, List.map_cons, List.map_nil, hs, hx, hrun]
    exact hK _ _ (h _ _ wr (by simpa using hown) (Kept.refl _ _))

theorem wpList_append_put {P : Program} {wr : World} {news : Array Value} {ops : Array Oper} {rest : List Oper} {o : Oper} {a : Act} {Q : Exit → Act → World → Prop} (hgd : o.guard = none) (s x : Operand) (t : TypeId)
    (ho : o.op = .call { callee := .builtin .append, args := #[s, x], argTypes := #[t, t] })
    (base : Nat) (e : TypeId) (i : TypeInfo) (z : Value) (size bytes : Nat) (ht : P.underlying t = some (.slice e)) (hi : P.info? e = some i) (hz : i.zero = some z)
    (hsize : i.size = size) (hby : i.bytes = bytes) (hzs : z.cells.size = size) (hsz : 0 < size)
    (v : Value) (n : Nat) (xs : List Value) (hs : a.eval s = v) (hown : wr.ownsRow base e size v n xs)
    (H : Nat) (hH : wr.heap.size = H) (hx : a.eval x = .slice (some ⟨H, 0, none⟩) 1 1) (hl : news.size = size) (h1 : ∀ u ∈ news.toList, u.oneCell' = true)
    (h63 : n + 1 ≤ maxLen) (hbytes : (n + 1) * bytes ≤ 140737488355328) (hbase : base ≤ wr.heap.size)
    (h : ∀ av cv w', w'.ownsRow base e size (.slice av (n + 1) cv) (n + 1) (xs ++ news.toList) → Kept (fun b => v.ownBlock = some b) wr w' → wpList P ops Q rest (a.put o.dst (.slice av (n + 1) cv)) w') :
    wpList P ops Q (o :: rest) a (wr.alloc (.cells news e)) := by
  subst hH
  refine wpList_append_one hgd s x t ho base e i z size bytes ht hi hz hsize hby hzs hsz v n xs hs hown hx hl h1 h63 hbytes hbase fun v' w' h2 h3 => ?_
  obtain ⟨av, cv, rfl⟩ := ownsRow_shape h2
  exact h av cv w' h2 h3

theorem row_addr {w : World} {B : Nat} {e : TypeId} {size n : Nat} {a : Option Addr} {c : Nat} {xs : List Value} (h : w.ownsRow B e size (.slice a n c) n xs) (hn : 0 < n ∨ ∃ g, (Value.slice a n c).ownBlock = some g) : ∃ g, a = some ⟨g, 0, none⟩ ∧ n ≤ c := by
  rcases h.2 with ⟨h', h0⟩ | ⟨g, cap, cur, h', _, _, hnc, _⟩
  · simp only [Value.slice.injEq] at h'
    rcases hn with hn | ⟨g, hg⟩
    · omega
    · rw [h'.1] at hg; simp [Value.ownBlock] at hg
  · simp only [Value.slice.injEq, true_and] at h'
    exact ⟨g, h'.1, by rw [h'.2]; exact hnc⟩
theorem GE.addr {B T : Nat} {w : World} {a : Option Addr} {n c : Nat} {es : List En} (h : GE B T w (.slice a n c) es) (hn : n = es.length) (ho : 0 < n ∨ ∃ g, (Value.slice a n c).ownBlock = some g) : ∃ g, a = some ⟨g, 0, none⟩ ∧ n ≤ c := by
  subst hn
  obtain ⟨rs, _, h1, _⟩ := h
  exact row_addr h1 ho
theorem GE.made (w : World) : GE w.heap.size (w.alloc (.cells #[] 40)).heap.size (w.alloc (.cells #[] 40)) (.slice (some ⟨w.heap.size, 0, none⟩) 0 0) [] :=
  ⟨[], rfl, World.ownsRow_made w #[] 0 (Nat.le_refl _) (Nat.zero_le _) rfl, fun r hr => by simp at hr, List.Pairwise.nil, fun r hr => by simp at hr, fun x hx => by simp [Value.ownBlock] at hx; subst hx; simp⟩
theorem GE.shape {B T : Nat} {w : World} {v : Value} {es : List En} (h : GE B T w v es) : ∃ a c, v = .slice a es.length c := h.se.shape
theorem take_len {α : Type} {es : List α} {k : Nat} (h : k ≤ es.length) : (es.take k).length = k := by rw [List.length_take]; omega

theorem copy_step {wr w1 : World} {e : En} {x av : Option Addr} {cc cv : Nat} (hown : w1.ownsRow (wr.heap.size + 1) 2 1 (.slice av e.chunks.length cv) e.chunks.length (e.chunks.map (Value.int .i64)))
    (hk : Kept (fun b => b = wr.heap.size + 1) ((wr.alloc (.cells #[.string (str e.path), .int .i64 e.kind, .int .i64 e.size, .slice x e.chunks.length cc] 40)).alloc (.cells #[] 2)) w1) :
    (w1.cell? ⟨wr.heap.size, 0, none⟩ = some (.string (str e.path)) ∧ w1.cell? ⟨wr.heap.size, 1, none⟩ = some (.int .i64 e.kind) ∧ w1.cell? ⟨wr.heap.size, 2, none⟩ = some (.int .i64 e.size) ∧ w1.cell? ⟨wr.heap.size, 3, none⟩ = some (.slice x e.chunks.length cc) ∧ w1.frozen? ⟨wr.heap.size, 3, none⟩ = false) ∧
    Below wr.heap.size wr (w1.setCell ⟨wr.heap.size, 3, none⟩ (.slice av e.chunks.length cv)) ∧
    (w1.setCell ⟨wr.heap.size, 3, none⟩ (.slice av e.chunks.length cv)).ownsRow wr.heap.size 2 1 (.slice av e.chunks.length cv) e.chunks.length (e.chunks.map (Value.int .i64)) := by
  have hF := (Four.new wr (.string (str e.path)) (.int .i64 e.kind) (.int .i64 e.size) (.slice x e.chunks.length cc) 40).below (below_alloc _ (.cells #[] 2))
  have hfz : ((wr.alloc (.cells #[.string (str e.path), .int .i64 e.kind, .int .i64 e.size, .slice x e.chunks.length cc] 40)).alloc (.cells #[] 2)).frozen? ⟨wr.heap.size, 3, none⟩ = false := by
    rw [(below_alloc _ (.cells #[] 2)).frozen (p := ⟨wr.heap.size, 3, none⟩) (by simp)]
    simp
  have hBB : Below wr.heap.size wr ((wr.alloc (.cells #[.string (str e.path), .int .i64 e.kind, .int .i64 e.size, .slice x e.chunks.length cc] 40)).alloc (.cells #[] 2)) := below_next (below_alloc _ _) (below_alloc _ _)
  have hlt := hF.lt
  generalize (wr.alloc (.cells #[.string (str e.path), .int .i64 e.kind, .int .i64 e.size, .slice x e.chunks.length cc] 40)).alloc (.cells #[] 2) = W at *
  obtain ⟨f0, f1, f2, f3⟩ := hF
  have hne : ¬ (wr.heap.size = wr.heap.size + 1) := by omega
  refine ⟨⟨(hk.cell (p := ⟨wr.heap.size, 0, none⟩) hlt hne).trans f0, (hk.cell (p := ⟨wr.heap.size, 1, none⟩) hlt hne).trans f1, (hk.cell (p := ⟨wr.heap.size, 2, none⟩) hlt hne).trans f2, (hk.cell (p := ⟨wr.heap.size, 3, none⟩) hlt hne).trans f3, (hk.frozen (p := ⟨wr.heap.size, 3, none⟩) hlt hne).trans hfz⟩, ?_, ?_⟩
  · exact (hBB.trans (hk.below hBB.size (fun k hk h => by omega))).setCell (p := ⟨wr.heap.size, 3, none⟩) (Nat.le_refl _) _
  · refine ownsRow_mono (base := wr.heap.size + 1) ?_ (by omega)
    exact ownsRow_kept (S := fun b => b = wr.heap.size) hown (Kept.setCell (S := fun b => b = wr.heap.size) (p := ⟨wr.heap.size, 3, none⟩) (Kept.refl _ w1) (fun _ => rfl) _) (fun b hb hS => by have := (hown.lt b hb).1; omega)

set_option maxRecDepth 100000 in
set_option maxHeartbeats 3200000 in
theorem l4Copy_any (a : Option Addr) (c n : Nat) (es : List En) (w : World) (h : RdE w a es) (hn : n = es.length) (hl : es.length ≤ 1048576) (hs : SmallE es) :
    Calls Tryz.prog 204 #[.slice a n c] w fun r w' => ∃ g cv, r = .returned (.slice (some ⟨g, 0, none⟩) n cv) ∧ n ≤ cv ∧ GE w.heap.size w'.heap.size w' (.slice (some ⟨g, 0, none⟩) n cv) es ∧ Below w.heap.size w w' := by
  subst hn
  obtain ⟨i1, ki, kz0, kz1, kz2⟩ := info_parts Tryz.infoEn
  obtain ⟨i0, hi0, hz0, hz1, hz2⟩ := info_parts Tryz.infoI64
  have HA := hide h
  have HS := hide hs
  clear h hs
  go_enter Tryz.func204, Tryz.ntmps204
  go_wp2_with fail
  go_loopw [3, 4] (fun v i wr => ∃ j : Nat, j ≤ es.length ∧ i = .int .i64 j ∧ Hid (GE w.heap.size wr.heap.size wr v (es.take j)) ∧ Hid (∃ g, v.ownBlock = some g) ∧ Hid (Below w.heap.size w wr)) (fun _ i _ => es.length - (intOf i).toNat)
  case atStart => exact ⟨0, Nat.zero_le _, rfl, hide (GE.made w), hide ⟨_, rfl⟩, hide (below_alloc _ _)⟩
  case round =>
    obtain ⟨j, hj, rfl, HG, HOb, HW⟩ := hrel
    obtain ⟨lv, lc, hv⟩ := HG.out.shape
    rw [take_len hj] at hv
    subst hv
    have HA1 := hide (HA.out.below HW.out)
    have hsz := HW.out.size
    by_cases hlt : j < es.length
    · obtain ⟨b, off, e, x, cc, rfl, hb, he, c0, c1, c2, c3, hr⟩ := HA1.out.at hlt
      have HX := hide he
      have HRc := hide hr
      have hsm := HS.out e (List.mem_of_getElem? he)
      clear he hr
      obtain ⟨rs, g1, g2, g3, g4, g5, g6⟩ := HG.out
      have G1 := hide g1
      have G2 := hide g2
      have G3 := hide g3
      have G4 := hide g4
      clear g1 g2 g3 g4 g5 g6 HG
      have hj1 : (es.take j).length = j := take_len hj
      have OWN0 : Hid (((wr.alloc (.cells #[.string (str e.path), .int .i64 e.kind, .int .i64 e.size, .slice x e.chunks.length cc] 40)).alloc (.cells #[] 2)).ownsRow (wr.heap.size + 1) 2 1 (.slice (some ⟨wr.heap.size + 1, 0, none⟩) 0 0) 0 (([] : List Int).map (Value.int .i64))) := hide (by
        have := World.ownsRow_made (base := wr.heap.size + 1) (e := 2) (size := 1) (wr.alloc (.cells #[.string (str e.path), .int .i64 e.kind, .int .i64 e.size, .slice x e.chunks.length cc] 40)) #[] 0 (by simp) (Nat.zero_le _) rfl
        simpa using this)
      have RD0 : Hid (Reads .i64 ((wr.alloc (.cells #[.string (str e.path), .int .i64 e.kind, .int .i64 e.size, .slice x e.chunks.length cc] 40)).alloc (.cells #[] 2)) x e.chunks) := HRc.out.below (below_next (below_alloc _ _) (below_alloc _ _))
      have hm0 : 0 + e.chunks.length ≤ maxLen := by unfold maxLen; omega
      have hm0' : (0 + e.chunks.length) * 8 ≤ 140737488355328 := by omega
      have hm1 : j + 1 ≤ maxLen := by unfold maxLen; omega
      have hm1' : (j + 1) * 56 ≤ 140737488355328 := by omega
      have G2' : Hid (wr.ownsRow w.heap.size 40 4 (.slice lv j lc) j (rowR rs)) := by have := G2.out; rw [hj1] at this; exact this
      have HJ := hide hj1
      clear hj1
      go_wp2_with (first
        | (at_builtin; refine wpList_append_take rfl (.tmp 17) (.tmp 19) 31 rfl (wr.heap.size + 1) 2 i0 .i64 8 Tryz.underlying31 hi0 hz0 hz1 hz2 (wr.heap.size + 1) 0 0 [] rfl OWN0.out x e.chunks.length cc e.chunks rfl rfl RD0.out e.chunks.length (by simp) hm0 hm0' (by simp) ?_; intro av cv w1 hown1 hk1; obtain ⟨⟨f0, f1, f2, f3, f4⟩, hB1, hO1⟩ := copy_step hown1 hk1; have B1 := hide hB1; have O1 := hide hO1; have O2 := hide (ownsRow_below G2'.out hB1); have hs1 := hB1.size; have hH1 : (w1.setCell ⟨wr.heap.size, 3, none⟩ (.slice av e.chunks.length cv)).heap.size = w1.heap.size := (by simp [World.setCell]); clear hown1 hk1 hB1 hO1)
        | (at_builtin; refine wpList_append_put rfl (.tmp 22) (.tmp 24) 35 rfl w.heap.size 40 i1 (.agg #[.string ⟨#[]⟩, .int .i64 0, .int .i64 0, .slice none 0 0]) 4 56 Tryz.underlying35 ki kz0 kz1 kz2 rfl (by decide) _ _ _ rfl O2.out _ hH1 rfl rfl (by intro u hu; simp at hu; rcases hu with rfl | rfl | rfl | rfl <;> rfl) hm1 hm1' (by omega) ?_; intro av3 cv3 w3 hown2 hkept; have O3 := hide hown2; have K3 := hide hkept; clear hown2 hkept))
      go_roundw
      case rel =>
        refine ⟨j + 1, by omega, by go_num, hide ?_, hide ?_, hide ?_⟩
        · rw [take_snoc_at HX.out]
          exact GE.push G1.out G2.out G3.out G4.out hsz B1.out O1.out (by rw [HJ.out]; exact O3.out) K3.out
        · obtain ⟨g5, h5, _⟩ := row_addr O3.out (.inl (by omega))
          exact ⟨g5, by rw [h5]; rfl⟩
        · exact (below_next HW.out B1.out).trans (K3.out.below (by omega) (fun k hk hx => by have := (G2'.out.lt k hx).1; omega))
      case measure => simp [intOf]; omega
    · have hje : j = es.length := by omega
      have HE := hide (show es.take j = es from List.take_of_length_le (by omega))
      obtain ⟨g5, h5, h6⟩ := HG.out.addr (take_len hj).symm (.inr HOb.out)
      subst h5
      have HG2 : Hid (GE w.heap.size wr.heap.size wr (.slice (some ⟨g5, 0, none⟩) j lc) es) := by have := HG.out; rw [HE.out] at this; exact this
      clear HG HE
      subst hje
      go_wp2_with fail
      go_ret
      exact ⟨_, _, rfl, h6, HG2.out, HW.out⟩

end Go.Proofs.YtejipahfodhmjaaGreat

namespace Go.Proofs.YtejipahfodhmjaaGreat
open Go.RowKit Go.Maps
set_option linter.unusedVariables false
attribute [local go_sem ↓] Go.wp_at_zero Go.wp_at_succ

def ResE (q : Int) (es : List En) (w : World) (r : Ending) (w' : World) : Prop :=
  ∃ av cv, r = .returned (.agg #[.int .i64 q, .slice av es.length cv]) ∧ GE w.heap.size w'.heap.size w' (.slice av es.length cv) es ∧ Below w.heap.size w w'
theorem ResE.of {q : Int} {es : List En} {w w2 w3 : World} {B b n : Nat} {av : Option Addr} {cv : Nat} {u v : Value} (hB : b < B) (hw : w.heap.size ≤ b) (hn : n = es.length) (hG : GE B w3.heap.size w3 (.slice av n cv) es) (hb : Below w.heap.size w w3) :
    ResE q es w (.returned (.agg #[.int .i64 q, .slice av n cv])) ((w3.setCell ⟨b, 0, none⟩ u).setCell ⟨b, 1, none⟩ v) := by
  subst hn
  refine ⟨av, cv, rfl, ?_, (hb.setCell hw _).setCell hw _⟩
  have hs : ((w3.setCell ⟨b, 0, none⟩ u).setCell ⟨b, 1, none⟩ v).heap.size = w3.heap.size := by simp [World.setCell]
  rw [hs]
  exact (hG.kept (Kept.two w3 b 0 1 u v) (fun x h1 _ h2 => by omega)).mono (by omega)
theorem ResE.bad {q : Int} {w w3 : World} {b : Nat} {u v : Value} (hw : w.heap.size ≤ b) (hb : Below w.heap.size w w3) :
    ResE q [] w (.returned (.agg #[.int .i64 q, .slice none 0 0])) ((w3.setCell ⟨b, 0, none⟩ u).setCell ⟨b, 1, none⟩ v) :=
  ⟨none, 0, rfl, GE.nil _ _ _, (hb.setCell hw _).setCell hw _⟩


end Go.Proofs.YtejipahfodhmjaaGreat

namespace Go.Proofs.YtejipahfodhmjaaGreat
open Go.RowKit
set_option linter.unusedVariables false

def fnvStep (h z : Int) : Int := bits BinOp.xor IntKind.u32 h z * 16777619 % 4294967296
def fnv (zs : List Int) : Int := zs.foldl fnvStep 2166136261
def digest (zs : List Int) : Int := wrap64 (bits BinOp.xor IntKind.u32 (fnv zs) ((zs.length : Int) * 65536 % 4294967296))
theorem fnv_step {zs : List Int} {k : Nat} {z : Int} (hk : k < zs.length) (hz : zs.getD k 0 = z) : fnv (zs.take (k + 1)) = fnvStep (fnv (zs.take k)) z := by
  unfold fnv
  rw [List.take_succ_eq_append_getElem hk, List.foldl_append]
  simp [List.getD_eq_getElem?_getD, hk] at hz
  simp [hz]

set_option maxHeartbeats 400000 in
theorem specDigestOf_any (a : Option Addr) (cap : Nat) (zs : List Int) (w : World) (h : Reads .u8 w a zs) (hu : U8 zs) (hl : zs.length ≤ 1048576) :
    Calls Tryz.prog 122 #[.slice a zs.length cap] w fun e w' => e = .returned (.int .i64 (digest zs)) ∧ w' = w := by
  go_enter Tryz.func122, Tryz.ntmps122
  go_wp2
  go_loop [3, 4] (fun h i => ∃ k : Nat, k ≤ zs.length ∧ i = .int .i64 k ∧ h = .int .u32 (fnv (zs.take k))) (fun _ i => zs.length - (intOf i).toNat)
  case atStart => exact ⟨0, Nat.zero_le _, rfl, rfl⟩
  case round =>
    obtain ⟨k, hk, rfl, rfl⟩ := hrel
    generalize hx : fnv (zs.take k) = x
    have HX := hide hx
    clear hx
    by_cases hlt : k < zs.length
    · obtain ⟨b, off, rfl, hb, hc⟩ := h (by intro e; simp [e] at hlt)
      have hz01 := hu.get k
      have hc1 := hc k hlt
      generalize hz : zs.getD k 0 = z at hz01 hc1
      have HZ := hide hz
      have HC := hide hc
      clear hc h hz
      go_wp2
      go_round
      case rel => exact ⟨k + 1, by omega, by go_num, by rw [fnv_step hlt HZ.out, HX.out]; rfl⟩
      case measure => simp [intOf]; omega
    · go_wp2
      go_ret
      exact ⟨ret_int (by unfold digest; rw [← HX.out, List.take_of_length_le (by omega)]), rfl⟩

set_option maxHeartbeats 400000 in
theorem implDigestOf_any (a : Option Addr) (cap : Nat) (zs : List Int) (w : World) (h : Reads .u8 w a zs) (hu : U8 zs) (hl : zs.length ≤ 1048576) :
    Calls Tryz.prog 52 #[.slice a zs.length cap] w fun e w' => e = .returned (.int .i64 (digest zs)) ∧ w' = w := by
  go_enter Tryz.func52, Tryz.ntmps52
  go_wp2
  go_loop [3, 5, 8] (fun h _ i => ∃ k : Nat, k ≤ zs.length ∧ i = .int .i64 k ∧ h = .int .u32 (fnv (zs.take k))) (fun _ _ i => zs.length - (intOf i).toNat)
  case atStart => exact ⟨0, Nat.zero_le _, rfl, rfl⟩
  case round =>
    obtain ⟨k, hk, rfl, rfl⟩ := hrel
    generalize hx : fnv (zs.take k) = x
    have HX := hide hx
    clear hx
    by_cases hlt : k < zs.length
    · obtain ⟨b, off, rfl, hb, hc⟩ := h (by intro e; simp [e] at hlt)
      have hz01 := hu.get k
      have hc1 := hc k hlt
      generalize hz : zs.getD k 0 = z at hz01 hc1
      have HZ := hide hz
      have HC := hide hc
      clear hc h hz
      go_wp2
      go_round
      case rel => exact ⟨k + 1, by omega, by go_num, by rw [fnv_step hlt HZ.out, HX.out]; rfl⟩
      case measure => simp [intOf]; omega
    · go_wp2
      go_ret
      exact ⟨ret_int (by unfold digest; rw [← HX.out, List.take_of_length_le (by omega)]), rfl⟩

theorem bits_u32 (op : BinOp) (x y : Int) : 0 ≤ bits op .u32 x y ∧ bits op .u32 x y < 4294967296 := by
  unfold bits
  simp only [IntKind.wrap_u32]
  omega
theorem digest_range (zs : List Int) : 0 ≤ digest zs ∧ digest zs ≤ 4294967295 := by
  have h := bits_u32 .xor (fnv zs) ((zs.length : Int) * 65536 % 4294967296)
  unfold digest wrap64
  omega

end Go.Proofs.YtejipahfodhmjaaGreat

namespace Go.Proofs.YtejipahfodhmjaaGreat
open Go.RowKit
set_option linter.unusedVariables false

theorem reads_of_ownsRow {w : World} {B : Nat} {e : TypeId} {k : IntKind} {g n c : Nat} {zs : List Int} (h : w.ownsRow B e 1 (.slice (some ⟨g, 0, none⟩) n c) n (zs.map (Value.int k))) (hn : n = zs.length) : Own k w (some ⟨g, 0, none⟩) zs := by
  intro hz
  have h0 : 0 < n := by rw [hn]; exact List.length_pos_iff.2 hz
  refine ⟨g, 0, rfl, (h.lt g rfl).2, fun i hi => ⟨?_, h.frozenAt _⟩⟩
  rw [Nat.zero_add, h.cellAt i (by omega)]
  simp [List.getD_eq_getElem?_getD, hi]

theorem Grow2.shape {B : Nat} {w : World} {v : Value} {P : Nat → List Int} {j : Nat} (h : Grow2 B w v P j) : ∃ a c, v = .slice a j c := by
  obtain ⟨A, C, h1, h2, h3⟩ := h
  exact ownsRow_shape h1

def G2 (B T : Nat) (w : World) (v : Value) (P : Nat → List Int) (n : Nat) : Prop :=
  ∃ A C : Nat → Nat, w.ownsRow B 22 1 v n ((List.range n).map fun i => .slice (some ⟨A i, 0, none⟩) (P i).length (C i)) ∧
    (∀ i, i < n → w.ownsRow B 5 1 (.slice (some ⟨A i, 0, none⟩) (P i).length (C i)) (P i).length ((P i).map (Value.int .u8))) ∧
    (∀ i i', i < n → i' < n → A i = A i' → i = i') ∧ (∀ i, i < n → A i < T) ∧ ∀ b, v.ownBlock = some b → b < T
theorem U8.piece {zs : List Int} (h : U8 zs) (i : Nat) : U8 (piece zs i) := fun z hz => h z (List.mem_of_mem_drop (List.mem_of_mem_take hz))

theorem Grow2.at {B : Nat} {w : World} {a : Option Addr} {c : Nat} {P : Nat → List Int} {n j : Nat} (h : Grow2 B w (.slice a n c) P n) (hj : j < n) :
    ∃ g x d, a = some ⟨g, 0, none⟩ ∧ w.cell? ⟨g, j, none⟩ = some (.slice x (P j).length d) ∧ Reads .u8 w x (P j) := by
  obtain ⟨A, C, h1, h2, h3⟩ := h
  rcases h1.2 with ⟨_, h0⟩ | ⟨g, cap, cur, h', hb, hh, _⟩
  · omega
  · simp only [Value.slice.injEq, true_and] at h'
    obtain ⟨rfl, rfl⟩ := h'
    refine ⟨g, _, C j, rfl, ?_, (reads_of_ownsRow (h2 j hj) rfl).reads⟩
    rw [h1.cellAt j (by omega)]
    simp [hj]

end Go.Proofs.YtejipahfodhmjaaGreat

namespace Go.Proofs.YtejipahfodhmjaaGreat
open Go.RowKit
set_option linter.unusedVariables false

def G1 (B T : Nat) (w : World) (v : Value) (ds : List Int) : Prop :=
  w.ownsRow B 2 1 v ds.length (ds.map (Value.int .i64)) ∧ ∀ b, v.ownBlock = some b → b < T
end Go.Proofs.YtejipahfodhmjaaGreat

namespace Go.Proofs.YtejipahfodhmjaaGreat
open Go.RowKit
set_option linter.unusedVariables false

def digs (zs : List Int) (j : Nat) : List Int := (List.range j).map fun i => digest (piece zs i)
theorem digs_length (zs : List Int) (j : Nat) : (digs zs j).length = j := by simp [digs]
theorem digs_succ (zs : List Int) (j : Nat) : (digs zs (j + 1)).map (Value.int .i64) = (digs zs j).map (Value.int .i64) ++ [.int .i64 (digest (piece zs j))] := by
  simp [digs, List.range_succ]
theorem Grow2.kept_own {B B' : Nat} {w w' : World} {v v' : Value} {P : Nat → List Int} {n n' size : Nat} {e : TypeId} {xs : List Value} (h : Grow2 B w v P n) (ho : w.ownsRow B' e size v' n' xs) (h1 : e ≠ 22) (h2 : e ≠ 5) (hk : Kept (fun b => v'.ownBlock = some b) w w') : Grow2 B w' v P n := by
  obtain ⟨A, C, k1, k2, k3⟩ := h
  exact ⟨A, C, ownsRow_kept k1 hk (fun b hb hS => ownsRow_apart ho k1 h1 hS hb), fun i hi => ownsRow_kept (k2 i hi) hk (fun b hb hS => ownsRow_apart ho (k2 i hi) h2 hS hb), k3⟩

set_option maxHeartbeats 800000 in
theorem l1Digests_any (a : Option Addr) (cap : Nat) (zs : List Int) (w : World) (h : Reads .u8 w a zs) (hu : U8 zs) (hcap : zs.length ≤ cap) (hl : zs.length ≤ 24) :
    Calls Tryz.prog 118 #[.slice a zs.length cap] w fun e w' => ∃ v, e = .returned v ∧ w'.ownsRow w.heap.size 2 1 v (cut zs).length ((digs zs (cut zs).length).map (Value.int .i64)) ∧ Below w.heap.size w w' := by
  obtain ⟨i1, ki, kz0, kz1, kz2⟩ := info_parts Tryz.infoI64
  have HR := hide h
  have HU := hide hu
  clear h hu
  have hcl : (cut zs).length ≤ 3 := by rw [cut_length]; omega
  go_enter Tryz.func118, Tryz.ntmps118
  go_wp2_with fail
  refine (l1Cut_any a cap zs _ (HR.out.below (below_alloc _ _)) hcap (by omega)).mono ?_
  rintro e w1 ⟨pv, rfl, hG, hb1⟩
  obtain ⟨pa, pc, rfl⟩ := hG.shape
  generalize hN : (cut zs).length = N at *
  have HN := hide hN
  clear hN
  have O1 := hide (ownsRow_below (World.ownsRow_made (base := w.heap.size) (e := 2) (size := 1) w #[] 0 (Nat.le_refl _) (Nat.zero_le _) rfl) hb1)
  have HG := hide (hG.mono (B' := w.heap.size) (by simp))
  have HB := hide (below_next (below_alloc w (.cells #[] 2)) hb1)
  clear hG hb1
  go_wp2_with fail
  go_loopw [3, 5] (fun v i wr => ∃ j : Nat, j ≤ N ∧ i = .int .i64 j ∧ wr.ownsRow w.heap.size 2 1 v j ((digs zs j).map (Value.int .i64)) ∧ Grow2 w.heap.size wr (.slice pa N pc) (piece zs) N ∧ Below w.heap.size w wr) (fun _ i _ => N - (intOf i).toNat)
  case atStart => exact ⟨0, Nat.zero_le _, rfl, O1.out, HG.out, HB.out⟩
  case round =>
    obtain ⟨j, hj, rfl, hown, hG, hbel⟩ := hrel
    by_cases hlt : j < N
    · obtain ⟨g, x, d, rfl, hc0, hr0⟩ := hG.at hlt
      have hpl : (piece zs j).length ≤ 1048576 := by rw [piece_length]; omega
      have hm1 : j + 1 ≤ maxLen := by unfold maxLen; omega
      have hm2 : (j + 1) * 8 ≤ 140737488355328 := by omega
      have hsz := hbel.size
      have HR0 := hide hr0
      have HO := hide hown
      have HGj := hide hG
      have HBj := hide hbel
      clear hr0 hown hG hbel
      go_wp2_with (first | (go_at_call 122; refine (specDigestOf_any _ _ (piece zs j) _ HR0.out (HU.out.piece j) hpl).mono ?_; rintro e w1' ⟨rfl, rfl⟩) | (at_builtin; refine wpList_append_one rfl (.tmp 15) (.tmp 21) 31 rfl w.heap.size 2 i1 (.int .i64 0) 1 8 Tryz.underlying31 ki kz0 kz1 kz2 rfl (by decide) _ _ _ rfl HO.out rfl rfl (by intro u hu; simp at hu; subst hu; rfl) hm1 hm2 hsz ?_; intro v' w2 hown2 hkept; have O2 := hide hown2; have K2 := hide hkept; clear hown2 hkept))
      go_roundw
      case rel => exact ⟨j + 1, by omega, by go_num, by rw [digs_succ]; exact O2.out, HGj.out.kept_own HO.out (by decide) (by decide) K2.out, Kept.below_own HBj.out hsz HO.out K2.out⟩
      case measure => simp [intOf]; omega
    · have hje : j = N := by omega
      subst hje
      go_wp2
      go_ret
      exact ⟨_, rfl, by rw [HN.out]; exact hown, hbel⟩





end Go.Proofs.YtejipahfodhmjaaGreat

namespace Go.Proofs.YtejipahfodhmjaaGreat
open Go.RowKit Go.Maps
set_option linter.unusedVariables false

theorem Kept.four (w : World) (b : Nat) (u0 u1 u2 u3 : Value) : Kept (fun x => x = b) w ((((w.setCell ⟨b, 0, none⟩ u0).setCell ⟨b, 1, none⟩ u1).setCell ⟨b, 2, none⟩ u2).setCell ⟨b, 3, none⟩ u3) :=
  Kept.setCell (S := fun x => x = b) (p := ⟨b, 3, none⟩) (Kept.setCell (S := fun x => x = b) (p := ⟨b, 2, none⟩) (Kept.two w b 0 1 u0 u1) (fun _ => rfl) u2) (fun _ => rfl) u3
theorem digs_len (zs : List Int) : (digs zs (cut zs).length).length = (cut zs).length := by simp [digs]
def fileE (p : Bs) (zs : List Int) : En := ⟨p, 1, zs.length, digs zs (cut zs).length⟩

set_option maxRecDepth 100000 in
set_option maxHeartbeats 1600000 in
theorem l4File_any (p : Bs) (a : Option Addr) (cap : Nat) (zs : List Int) (w : World) (h : Reads .u8 w a zs) (hu : U8 zs) (hcap : zs.length ≤ cap) (hl : zs.length ≤ 24) :
    Calls Tryz.prog 79 #[.string (str p), .slice a zs.length cap] w fun r w' => ∃ av cv, r = .returned (.agg #[.string (str p), .int .i64 1, .int .i64 zs.length, .slice av (cut zs).length cv]) ∧ w'.ownsRow w.heap.size 2 1 (.slice av (cut zs).length cv) (cut zs).length ((digs zs (cut zs).length).map (Value.int .i64)) ∧ Below w.heap.size w w' := by
  have HD := hide (fun u hb => l1Digests_any a cap zs u (h.below hb) hu hcap hl)
  clear h hu
  go_enter Tryz.func79, Tryz.ntmps79
  have B0 := hide (below_alloc w (.cells #[.string ⟨#[]⟩, .int .i64 0, .int .i64 0, .slice none 0 0] 40))
  have F0 := hide (Four.new w (.string ⟨#[]⟩) (.int .i64 0) (.int .i64 0) (.slice none 0 0) 40)
  have Z0 := hide (show ∀ i, i < 4 → (w.alloc (.cells #[.string ⟨#[]⟩, .int .i64 0, .int .i64 0, .slice none 0 0] 40)).frozen? ⟨w.heap.size, i, none⟩ = false from fun i hi => by simp)
  go_wp2_with fail
  refine (HD.out _ B0.out).mono ?_
  rintro r w1 ⟨v, rfl, hG, hb1⟩
  obtain ⟨av, cv, rfl⟩ := ownsRow_shape hG
  have hlt0 := F0.out.lt
  have B1 := hide (below_next B0.out hb1)
  obtain ⟨f0, f1, f2, f3⟩ := F0.out.below hb1
  have z0 := (hb1.frozen (p := ⟨w.heap.size, 0, none⟩) hlt0).trans (Z0.out 0 (by omega))
  have z1 := (hb1.frozen (p := ⟨w.heap.size, 1, none⟩) hlt0).trans (Z0.out 1 (by omega))
  have z2 := (hb1.frozen (p := ⟨w.heap.size, 2, none⟩) hlt0).trans (Z0.out 2 (by omega))
  have z3 := (hb1.frozen (p := ⟨w.heap.size, 3, none⟩) hlt0).trans (Z0.out 3 (by omega))
  have GG := hide hG
  clear hG hb1 B0 F0 Z0
  go_wp2_with fail
  refine bodyPost_ret (v := .agg #[.string (str p), .int .i64 1, .int .i64 zs.length, .slice av (cut zs).length cv]) (by simp [results, Tryz.results79, go_sem, f0, f1, f2, f3]) rfl ⟨av, cv, rfl, ?_, (((B1.out.setCell (Nat.le_refl _) _).setCell (Nat.le_refl _) _).setCell (Nat.le_refl _) _).setCell (Nat.le_refl _) _⟩
  exact ownsRow_mono (ownsRow_kept (S := fun b => b = w.heap.size) GG.out (Kept.four _ _ _ _ _ _) (fun b hb e => by have := (GG.out.lt b hb).1; omega)) (by omega)

end Go.Proofs.YtejipahfodhmjaaGreat

namespace Go.Proofs.YtejipahfodhmjaaGreat
open Go.RowKit Go.Shelf
set_option linter.unusedVariables false
def Tryz.cloneA_ren : Go.Shelf.Ren := ⟨fun | 316 => 105 | n => n, fun | 9 => 9 | 3 => 3 | 4 => 4 | 37 => 22 | 0 => 0 | 127 => 196 | 5 => 5 | n => n, fun | n => n⟩
theorem Tryz.cloneA : Go.Proofs.LaysM.n316 Tryz.prog Tryz.cloneA_ren := {
  mixed := by kernel_rfl
  f316 := Tryz.func105.trans (congrArg some (by kernel_rfl))
  t0 := Tryz.underlying0
  a0 := Tryz.isAgg0
  z0 := Tryz.sizeOf0
  v0 := Tryz.zeroValue0
  t3 := Tryz.underlying3
  a3 := Tryz.isAgg3
  z3 := Tryz.sizeOf3
  v3 := Tryz.zeroValue3
  t4 := Tryz.underlying4
  a4 := Tryz.isAgg4
  z4 := Tryz.sizeOf4
  v4 := Tryz.zeroValue4
  t9 := Tryz.underlying9
  a9 := Tryz.isAgg9
  z9 := Tryz.sizeOf9
  v9 := Tryz.zeroValue9
  t37 := Tryz.underlying22
  a37 := Tryz.isAgg22
  z37 := Tryz.sizeOf22
  v37 := Tryz.zeroValue22
  t127 := Tryz.underlying196
  a127 := Tryz.isAgg196
  z127 := Tryz.sizeOf196
  v127 := Tryz.zeroValue196
  t5 := Tryz.underlying5
  a5 := Tryz.isAgg5
  z5 := Tryz.sizeOf5
  v5 := Tryz.zeroValue5
  i0 := by kernel_rfl
  i3 := by kernel_rfl
  i4 := by kernel_rfl
  i5 := by kernel_rfl
  i9 := by kernel_rfl
  i37 := by kernel_rfl
  i127 := by kernel_rfl }
def Tryz.indexA_ren : Go.Shelf.Ren := ⟨fun | 219 => 205 | 217 => 215 | 225 => 216 | 224 => 217 | 267 => 218 | 266 => 221 | 314 => 222 | n => n, fun | 9 => 9 | 3 => 3 | 4 => 4 | 5 => 5 | 46 => 152 | 146 => 258 | 51 => 151 | n => n, fun | 1 => 0 | n => n⟩
theorem Tryz.indexA : Go.Proofs.Lays.n219 Tryz.prog Tryz.indexA_ren := {
  mixed := by kernel_rfl
  f217 := Tryz.func215.trans (congrArg some (by kernel_rfl))
  f219 := Tryz.func205.trans (congrArg some (by kernel_rfl))
  f224 := Tryz.func217.trans (congrArg some (by kernel_rfl))
  f225 := Tryz.func216.trans (congrArg some (by kernel_rfl))
  f266 := Tryz.func221.trans (congrArg some (by kernel_rfl))
  f267 := Tryz.func218.trans (congrArg some (by kernel_rfl))
  f314 := Tryz.func222.trans (congrArg some (by kernel_rfl))
  t3 := Tryz.underlying3
  a3 := Tryz.isAgg3
  z3 := Tryz.sizeOf3
  v3 := Tryz.zeroValue3
  t4 := Tryz.underlying4
  a4 := Tryz.isAgg4
  z4 := Tryz.sizeOf4
  v4 := Tryz.zeroValue4
  t5 := Tryz.underlying5
  a5 := Tryz.isAgg5
  z5 := Tryz.sizeOf5
  v5 := Tryz.zeroValue5
  t9 := Tryz.underlying9
  a9 := Tryz.isAgg9
  z9 := Tryz.sizeOf9
  v9 := Tryz.zeroValue9
  t46 := Tryz.underlying152
  a46 := Tryz.isAgg152
  z46 := Tryz.sizeOf152
  v46 := Tryz.zeroValue152
  t51 := Tryz.underlying151
  a51 := Tryz.isAgg151
  z51 := Tryz.sizeOf151
  v51 := Tryz.zeroValue151
  t146 := Tryz.underlying258
  a146 := Tryz.isAgg258
  z146 := Tryz.sizeOf258
  v146 := Tryz.zeroValue258
  g1 := by kernel_rfl }
def Tryz.prefixA_ren : Go.Shelf.Ren := ⟨fun | 103 => 127 | 210 => 156 | 206 => 178 | n => n, fun | 9 => 9 | 4 => 4 | 24 => 182 | 3 => 3 | n => n, fun | n => n⟩
theorem Tryz.prefixA : Go.Proofs.Lays.n103 Tryz.prog Tryz.prefixA_ren := {
  mixed := by kernel_rfl
  f103 := Tryz.func127.trans (congrArg some (by kernel_rfl))
  f206 := Tryz.func178.trans (congrArg some (by kernel_rfl))
  f210 := Tryz.func156.trans (congrArg some (by kernel_rfl))
  t3 := Tryz.underlying3
  a3 := Tryz.isAgg3
  z3 := Tryz.sizeOf3
  v3 := Tryz.zeroValue3
  t4 := Tryz.underlying4
  a4 := Tryz.isAgg4
  z4 := Tryz.sizeOf4
  v4 := Tryz.zeroValue4
  t9 := Tryz.underlying9
  a9 := Tryz.isAgg9
  z9 := Tryz.sizeOf9
  v9 := Tryz.zeroValue9
  t24 := Tryz.underlying182
  a24 := Tryz.isAgg182
  z24 := Tryz.sizeOf182
  v24 := Tryz.zeroValue182 }
end Go.Proofs.YtejipahfodhmjaaGreat

namespace Go.Proofs.YtejipahfodhmjaaGreat
open Go.RowKit
set_option linter.unusedVariables false

theorem indexOne_any (s : ByteArray) (w : World) :
    Calls Tryz.prog 205 #[.string s, .string ⟨#[47]⟩] w fun e w' => e = .returned (.int .i64 (Lib.indexByte s.data.toList 47)) ∧ w' = w :=
  Any.stringslite_Index_one Tryz.indexA s 47 w

theorem index_miss {l : Bs} (h : (47 : UInt8) ∉ l) : Lib.indexByte l 47 = -1 := by
  induction l with
  | nil => rfl
  | cons c l ih =>
    have h1 : ¬ c = 47 := fun e => h (by simp [e])
    have h2 : (47 : UInt8) ∉ l := fun e => h (by simp [e])
    simp [Lib.indexByte, h1, ih h2]
theorem index_hit {a : Bs} (b : Bs) (h : (47 : UInt8) ∉ a) : Lib.indexByte (a ++ 47 :: b) 47 = a.length := by
  induction a with
  | nil => simp [Lib.indexByte]
  | cons c a ih =>
    have h1 : ¬ c = 47 := fun e => h (by simp [e])
    have h2 : (47 : UInt8) ∉ a := fun e => h (by simp [e])
    have ih := ih h2
    simp only [List.cons_append, Lib.indexByte, ih]
    have : ((a.length : Int) == -1) = false := by simp
    simp [h1, this]

set_option maxRecDepth 100000 in
set_option maxHeartbeats 800000 in
theorem cutLite_miss (l : Bs) (w : World) (h : (47 : UInt8) ∉ l) :
    Calls Tryz.prog 179 #[.string (str l), .string ⟨#[47]⟩] w fun e w' => e = .returned (.tuple #[.string (str l), .string ⟨#[]⟩, .bool false]) ∧ ∃ n, w' = w.drewN n := by
  have HI := hide (index_miss h)
  go_enter Tryz.func179, Tryz.ntmps179
  go_wp2_with (go_at_call 205; refine (indexOne_any _ _).mono ?_; rintro e w' ⟨rfl, rfl⟩; rw [str_data, HI.out])
  go_ret3
  exact ⟨rfl, 0, rfl⟩
theorem cut_miss (l : Bs) (w : World) (h : (47 : UInt8) ∉ l) :
    Calls Tryz.prog 158 #[.string (str l), .string ⟨#[47]⟩] w fun e w' => e = .returned (.tuple #[.string (str l), .string ⟨#[]⟩, .bool false]) ∧ ∃ n, w' = w.drewN n := by
  go_enter Tryz.func158, Tryz.ntmps158
  go_wp2_with (go_at_call 179; refine (cutLite_miss _ _ h).mono ?_; rintro e w' ⟨rfl, n, rfl⟩)
  go_ret3
  exact ⟨rfl, n, rfl⟩
set_option maxRecDepth 100000 in
set_option maxHeartbeats 800000 in
theorem cutLite_hit (a b : Bs) (w : World) (h : (47 : UInt8) ∉ a) (hl : a.length ≤ 9223372036854775806) :
    Calls Tryz.prog 179 #[.string (str (a ++ 47 :: b)), .string ⟨#[47]⟩] w fun e w' => e = .returned (.tuple #[.string (str a), .string (str b), .bool true]) ∧ ∃ n, w' = w.drewN n := by
  have HI := hide (index_hit b h)
  have c0 : (0 : Int) ≤ a.length := by omega
  have c1 : (a.length : Int) ≤ ((str (a ++ 47 :: b)).size : Int) := by rw [str_size]; simp; omega
  have c2 : (a.length : Int) + 1 ≤ ((str (a ++ 47 :: b)).size : Int) := by rw [str_size]; simp; omega
  have HA := hide (show (str (a ++ 47 :: b)).extract 0 a.length = str a by rw [Lib.extract_eq, str_data]; simp [str])
  have HB := hide (show (str (a ++ 47 :: b)).extract (a.length + 1) (str (a ++ 47 :: b)).size = str b by rw [Lib.extract_eq, str_data, str_size, show (a ++ 47 :: b).drop (a.length + 1) = b by simp, List.take_of_length_le (by simp; omega)]; rfl)
  have hm : (a.length : Int) ≤ 9223372036854775806 := by omega
  generalize hx : str (a ++ 47 :: b) = x at *
  have HX := hide hx
  clear hx
  go_enter Tryz.func179, Tryz.ntmps179
  go_wp2_with (go_at_call 205; refine (indexOne_any _ _).mono ?_; rintro e w' ⟨rfl, rfl⟩; rw [← HX.out, str_data, HI.out, HX.out])
  go_region
  go_wp2
  go_ret3
  exact ⟨by rw [HA.out, HB.out]; rfl, 1, rfl⟩
theorem cut_hit (a b : Bs) (w : World) (h : (47 : UInt8) ∉ a) (hl : a.length ≤ 9223372036854775806) :
    Calls Tryz.prog 158 #[.string (str (a ++ 47 :: b)), .string ⟨#[47]⟩] w fun e w' => e = .returned (.tuple #[.string (str a), .string (str b), .bool true]) ∧ ∃ n, w' = w.drewN n := by
  go_enter Tryz.func158, Tryz.ntmps158
  go_wp2_with (go_at_call 179; refine (cutLite_hit _ _ _ h hl).mono ?_; rintro e w' ⟨rfl, n, rfl⟩)
  go_ret3
  exact ⟨rfl, n, rfl⟩

theorem prefix_yes {l r : Bs} (h : l = 47 :: r) : Lib.hasPrefix l [47] = true ∧ Lib.trimPrefix l [47] = r := by
  subst h
  have e : Lib.hasPrefix (47 :: r) [47] = true := by simp [Lib.hasPrefix]
  exact ⟨e, by simp [Lib.trimPrefix, e]⟩
theorem prefix_no {l : Bs} (h : ∀ r, l ≠ 47 :: r) : Lib.hasPrefix l [47] = false := by
  cases l with
  | nil => rfl
  | cons c r =>
    have hc : c ≠ 47 := fun e => h r (by rw [e])
    have : ((47 : UInt8) == c) = false := by simpa using Ne.symm hc
    simp only [Lib.hasPrefix, List.isPrefixOf, this, Bool.false_and]

theorem cutPrefix_yes (s : ByteArray) (r : Bs) (w : World) (h : s.data.toList = 47 :: r) :
    Calls Tryz.prog 127 #[.string s, .string ⟨#[47]⟩] w fun e w' => e = .returned (.tuple #[.string (str r), .bool true]) ∧ w' = w := by
  have := Any.strings_CutPrefix Tryz.prefixA s ⟨#[47]⟩ w
  have e1 := (prefix_yes h).1
  have e2 := (prefix_yes h).2
  simp only [e1, e2] at this
  exact this
theorem cutPrefix_no (s : ByteArray) (w : World) (h : ∀ r, s.data.toList ≠ 47 :: r) :
    Calls Tryz.prog 127 #[.string s, .string ⟨#[47]⟩] w fun e w' => (∃ x, e = .returned (.tuple #[.string x, .bool false])) ∧ w' = w := by
  have := Any.strings_CutPrefix Tryz.prefixA s ⟨#[47]⟩ w
  have e1 := prefix_no h
  simp only [e1] at this
  exact this.mono fun e w' ⟨h1, h2⟩ => ⟨⟨_, h1⟩, h2⟩

theorem clone_str (s : ByteArray) (w : World) (hl : s.size ≤ 281474976710656) :
    Calls Tryz.prog 61 #[.string s] w fun e w' => e = .returned (.string s) ∧ Below w.heap.size w w' := by
  have H := hide (fun w => Any.stringslite_Clone Tryz.cloneA s w hl)
  go_enter Tryz.func61, Tryz.ntmps61
  go_wp2_with fail
  refine (H.out _).mono ?_
  rintro e w1 ⟨rfl, hb1⟩
  go_wp2_with fail
  go_ret
  exact ⟨rfl, hb1⟩


end Go.Proofs.YtejipahfodhmjaaGreat

namespace Go.Proofs.YtejipahfodhmjaaGreat
open Go.RowKit Go.Shelf
set_option linter.unusedVariables false
attribute [local go_sem] Oper.semAt_some

abbrev Pc := { p : Bs // p.length ≤ 2097152 }
def pcs (ps : List Pc) : List Bs := ps.map Subtype.val
theorem pcs_snoc (ps : List Pc) (x : Pc) : pcs (ps ++ [x]) = pcs ps ++ [x.1] := by simp [pcs]
theorem pcs_length (ps : List Pc) : (pcs ps).length = ps.length := by simp [pcs]

def szOf : Value → Nat
  | .string s => s.size
  | _ => 0
def bitOf : Value → Nat
  | .bool true => 1
  | _ => 0
theorem grown_drewN (w : World) (n : Nat) : w.grownBy (w.drewN n) none := ⟨rfl, rfl, rfl, Nat.le_refl _, fun _ _ _ => rfl⟩

theorem cut_cases (r : Bs) : (47 : UInt8) ∉ r ∨ ∃ a b, r = a ++ 47 :: b ∧ (47 : UInt8) ∉ a := by
  induction r with
  | nil => exact .inl (by simp)
  | cons c r ih =>
    by_cases hc : c = 47
    · exact .inr ⟨[], r, by simp [hc], by simp⟩
    · rcases ih with h | ⟨a, b, h, ha⟩
      · exact .inl (by simp [h, Ne.symm hc])
      · exact .inr ⟨c :: a, b, by simp [h], by simp [ha, Ne.symm hc]⟩

set_option maxRecDepth 100000 in
set_option maxHeartbeats 2000000 in
theorem pieces1_in (n : Nat) (l Bn n₀ : Nat) (t : Bs) (ht : t.length ≤ 2097152) (J Jx : List Pc → World → Prop) (B : Nat) (hJ : AbidesFrom B J)
    (hY : ∀ (pre : List Pc) (x : Pc) W, J pre W → pre.length < (cutB t).length → YieldAt Fence.wide (n - 1) Tryz.prog l #[.string (str x.1)] W fun e W' =>
      (e = .returned (.bool true) ∧ J (pre ++ [x]) W' ∧ Below n₀ W W') ∨ (e = .returned (.bool false) ∧ Jx (pre ++ [x]) W'))
    (W : World) (hBn : W.cell? ⟨Bn, 0, none⟩ = some (.string (str t))) (h0 : J [] W) :
    CallsIn Fence.wide n Tryz.prog 157 #[.func (.yield l) #[] #[], .pointer (some ⟨Bn, 0, none⟩)] W fun e W' => (∃ v, e = .returned v) ∧
      ((∃ ys, pcs ys = cutB t ∧ J ys W') ∨ (∃ pre, pcs pre <+: cutB t ∧ Jx pre W')) := by
  refine callsIn_of_wp Tryz.func157 rfl trivial ?_ rfl
  simp only [Tryz.ntmps157, List.size_toArray, List.length_cons, List.length_nil, Nat.reduceAdd, Nat.reduceSub, Array.replicate_succ, Array.replicate_zero, List.push_toArray, List.append_toArray, List.nil_append, List.cons_append]
  gi_wp2
  gi_loopw [3, 4] (fun r m wr => ∃ (pre : List Pc) (q : Bs) (more : Bool), r = .string (str q) ∧ m = .bool more ∧ q.length ≤ 2097152 ∧ Hid (cutB t = pcs pre ++ (if more then cutB q else [])) ∧ Hid (J pre wr)) (fun r m _ => bitOf m * (szOf r + 1))
  case atStart => exact ⟨[], t, true, rfl, rfl, ht, hide rfl, hide h0⟩
  case round =>
    obtain ⟨pre, q, more, rfl, rfl, hq, HC, HJ⟩ := hrel
    cases more with
    | false =>
      gi_wp2
      go_end0
      exact ⟨⟨_, rfl⟩, .inl ⟨pre, by have := HC.out; simpa using this.symm, HJ.out⟩⟩
    | true =>
      have HC' := hide (show cutB t = pcs pre ++ cutB q from HC.out)
      rcases cut_cases q with hm | ⟨a, b, hqe, ha⟩
      · have HE := hide (cutB_miss hm)
        have hlen : pre.length < (cutB t).length := by rw [HC'.out, HE.out]; simp [pcs]
        gi_wp2_with fail
        refine ⟨trivial, fun h => (by cases h), ?_⟩
        refine (callsIn_wide.2 (cut_miss q _ hm)).mono ?_
        rintro e w' ⟨rfl, k, rfl⟩
        obtain ⟨fn, tmps, assign, body, hy, hR⟩ := hY pre ⟨q, hq⟩ (wr.drewN k) (hJ _ _ _ none HJ.out (grown_drewN _ _) (fun r e => by cases e)) hlen
        dsimp only at hy
        gi_wp2_with fail
        refine ⟨fun h => (by cases h), hR.mono ?_⟩
        clear hR hy
        rintro e W3 (⟨rfl, hJ3, hk3⟩ | ⟨rfl, hJx3⟩)
        · have H3 := hide hJ3
          clear hJ3 hk3
          gi_wp2_with fail
          go_roundw
          case rel => exact ⟨pre ++ [⟨q, hq⟩], [], false, rfl, rfl, by simp, hide (by rw [HC'.out, HE.out, pcs_snoc]; simp), H3⟩
          case measure => simp [bitOf]
        · have H3 := hide hJx3
          clear hJx3
          gi_wp2_with fail
          refine bodyPost_ret (results_none rfl _ _ _) rfl ?_
          exact ⟨⟨_, rfl⟩, .inr ⟨pre ++ [⟨q, hq⟩], ⟨[], by rw [HC'.out, HE.out, pcs_snoc]; simp⟩, H3.out⟩⟩
      · have hql : q.length = a.length + (b.length + 1) := by rw [hqe]; simp
        have hal : a.length ≤ 2097152 := by omega
        have HE := hide (show cutB q = a :: cutB b by rw [hqe]; exact cutB_hit b ha)
        have hlen : pre.length < (cutB t).length := by rw [HC'.out, HE.out]; simp [pcs]
        have HQ := hide (cut_hit a b wr ha (by omega))
        rw [← hqe] at HQ
        have hbl : b.length < q.length := by omega
        clear hqe hql
        gi_wp2_with fail
        refine ⟨trivial, fun h => (by cases h), ?_⟩
        refine (callsIn_wide.2 HQ.out).mono ?_
        rintro e w' ⟨rfl, k, rfl⟩
        obtain ⟨fn, tmps, assign, body, hy, hR⟩ := hY pre ⟨a, hal⟩ (wr.drewN k) (hJ _ _ _ none HJ.out (grown_drewN _ _) (fun r e => by cases e)) hlen
        dsimp only at hy
        gi_wp2_with fail
        refine ⟨fun h => (by cases h), hR.mono ?_⟩
        clear hR hy
        rintro e W3 (⟨rfl, hJ3, hk3⟩ | ⟨rfl, hJx3⟩)
        · have H3 := hide hJ3
          clear hJ3 hk3
          gi_wp2_with fail
          go_roundw
          case rel => exact ⟨pre ++ [⟨a, hal⟩], b, true, rfl, rfl, by omega, hide (by rw [HC'.out, HE.out, pcs_snoc]; simp), H3⟩
          case measure => simp [bitOf, szOf, str_size]; omega
        · have H3 := hide hJx3
          clear hJx3
          gi_wp2_with fail
          refine bodyPost_ret (results_none rfl _ _ _) rfl ?_
          exact ⟨⟨_, rfl⟩, .inr ⟨pre ++ [⟨a, hal⟩], ⟨cutB b, by rw [HC'.out, HE.out, pcs_snoc]; simp⟩, H3.out⟩⟩

set_option maxHeartbeats 1000000 in
theorem piecesOf_in (s : ByteArray) (w : World) :
    Calls Tryz.prog 128 #[.string s] w fun e w' => e = .returned (.func (.func 157) #[] #[.pointer (some ⟨w.heap.size, 0, none⟩)]) ∧ w' = w.alloc (.cells #[.string s] 9) := by
  go_enter Tryz.func128, Tryz.ntmps128
  go_wp2
  go_ret
  exact ⟨rfl, rfl⟩

theorem pieces_stops (n : Nat) (Bn n₀ : Nat) (t : Bs) (ht : t.length ≤ 2097152) (w : World) (hBn : Bn < w.heap.size) (hc : w.cell? ⟨Bn, 0, none⟩ = some (.string (str t))) :
    SeqStopsK Fence.wide n Tryz.prog 157 #[.pointer (some ⟨Bn, 0, none⟩)] (fun x : Pc => #[Value.string (str x.1)]) (Below n₀) (fun ys => pcs ys = cutB t) (fun pre => pcs pre <+: cutB t) (cutB t).length w := fun l J Jx W hW hJ _ hY h0 =>
  pieces1_in n l Bn n₀ t ht J Jx _ hJ hY W ((hW.cell (p := ⟨Bn, 0, none⟩) hBn).trans hc) h0

end Go.Proofs.YtejipahfodhmjaaGreat

namespace Go.Proofs.YtejipahfodhmjaaGreat
open Go.RowKit Go.Shelf
set_option linter.unusedVariables false
attribute [local go_sem] Oper.semAt_some

theorem wpIn_scope_wide {n : Nat} {P : Program} {c : Code} {Q : Exit → Act → World → Prop} {a : Act} {w : World} (h : c.wpIn Fence.wide n P (Exit.noGoto Q) a w) : (Code.scope c).wpIn Fence.wide n P Q a w :=
  wpIn_wide.2 (wp_scope_straight (wpIn_wide.1 h))

theorem faultP_not {l : Bs} (h : ∀ r, l ≠ 47 :: r) : faultP l = 5 := by
  cases l with
  | nil => rfl
  | cons c r =>
    have hc : c ≠ 47 := fun e => h r (by rw [e])
    simp [faultP, hc]
theorem stroke_cases (l : Bs) : (∃ r, l = 47 :: r) ∨ ∀ r, l ≠ 47 :: r := by
  by_cases h : ∃ r, l = 47 :: r
  · exact .inl h
  · exact .inr fun r e => h ⟨r, e⟩

def cd (ps : List Bs) : Int := if ps.all (fun n => decide (n.length ≤ 4)) && decide (ps.length ≤ 3) then 0 else 2
theorem cd_bad (ps : List Bs) (x : Bs) (h : 4 < x.length ∨ 3 < ps.length + 1) : cd (ps ++ [x]) = 2 := by
  have : ((ps ++ [x]).all (fun n => decide (n.length ≤ 4)) && decide ((ps ++ [x]).length ≤ 3)) = false := by
    rw [Bool.and_eq_false_iff]
    rcases h with h | h
    · left; simp; intro _; omega
    · right; simp; omega
  simp only [cd, this]; rfl
theorem cd_good (ps : List Bs) (x : Bs) (h : ¬ 4 < x.length) (h2 : ¬ 3 < ps.length + 1) : cd (ps ++ [x]) = cd ps := by
  have e1 : decide (x.length ≤ 4) = true := by simp; omega
  have e2 : decide ((ps ++ [x]).length ≤ 3) = true := by simp; omega
  have e3 : decide (ps.length ≤ 3) = true := by simp; omega
  simp only [cd, List.all_append, List.all_cons, List.all_nil, e1, e2, e3, Bool.and_true]
theorem cd_fault {ns : List Bs} (h : ns.all plain = true) : faultN ns = cd ns := by simp only [faultN, h, if_true, cd]
theorem fault_of_prefix {ns ps : List Bs} (h : ps <+: ns) (hp : ps.all plain = false) : faultN ns = 5 := by
  obtain ⟨q, rfl⟩ := h
  simp [faultN, hp]

set_option maxRecDepth 100000 in
set_option maxHeartbeats 2000000 in
theorem implPathFault_no (s : ByteArray) (w : World) (h : ∀ r, s.data.toList ≠ 47 :: r) :
    Calls Tryz.prog 90 #[.string s] w fun e w' => e = .returned (.int .i64 5) ∧ Below w.heap.size w w' := by
  refine (callsIn_wide (n := 4)).1 ?_
  refine callsIn_of_wp_marks Tryz.func90 rfl trivial ?_ rfl
  simp only [Tryz.ntmps90, List.size_toArray, List.length_cons, List.length_nil, Nat.reduceAdd, Nat.reduceSub, Array.replicate_succ, Array.replicate_zero, List.push_toArray, List.append_toArray, List.nil_append, List.cons_append]
  gi_wp2_with fail
  refine wpIn_scope_wide ?_
  gi_wp2_with fail
  refine ⟨trivial, ?_⟩
  refine (callsIn_wide.2 (cutPrefix_no s _ h)).mono ?_
  rintro e w' ⟨⟨x, rfl⟩, rfl⟩
  gi_wp2_with fail
  exact ⟨_, results_tmp rfl _ _ _, rfl, Below.refl _ _⟩

set_option maxRecDepth 100000 in
set_option maxHeartbeats 2000000 in
theorem implPathFault_yes (s : ByteArray) (r : Bs) (w : World) (h : s.data.toList = 47 :: r) (hs : s.size ≤ 2097152) :
    Calls Tryz.prog 90 #[.string s] w fun e w' => e = .returned (.int .i64 (faultN (cutB r))) ∧ Below w.heap.size w w' := by
  refine (callsIn_wide (n := 4)).1 ?_
  refine callsIn_of_wp_marks Tryz.func90 rfl trivial ?_ rfl
  simp only [Tryz.ntmps90, List.size_toArray, List.length_cons, List.length_nil, Nat.reduceAdd, Nat.reduceSub, Array.replicate_succ, Array.replicate_zero, List.push_toArray, List.append_toArray, List.nil_append, List.cons_append]
  gi_wp2_with fail
  refine wpIn_scope_wide ?_
  gi_wp2_with fail
  refine ⟨trivial, ?_⟩
  refine (callsIn_wide.2 (cutPrefix_yes s r _ h)).mono ?_
  rintro e w' ⟨rfl, rfl⟩
  gi_wp2_with fail
  refine wpIn_label ?_
  gi_wp2_with fail
  refine ⟨trivial, ?_⟩
  refine (callsIn_wide.2 (piecesOf_in _ _)).mono ?_
  rintro e w1 ⟨rfl, rfl⟩
  gi_wp2_with fail
  have hrl : r.length ≤ 2097152 := by have := congrArg List.length h; rw [← Lib.size_eq] at this; simp at this; omega
  have hcl := cutB_length r
  have bC := Boxed.new w' 2 (.int .i64 0)
  have bN := Boxed.new (w'.alloc (.cells #[.int .i64 0] 2)) 3 (.int .i64 0)
  have bT := Boxed.new ((w'.alloc (.cells #[.int .i64 0] 2)).alloc (.cells #[.int .i64 0] 3)) 9 (.string (str r))
  simp only [World.size_alloc] at bN bT
  have hB0 : Below w'.heap.size w' (((w'.alloc (.cells #[.int .i64 0] 2)).alloc (.cells #[.int .i64 0] 3)).alloc (.cells #[.string (str r)] 9)) := (((Below.refl _ w').alloc (Nat.le_refl _) _).alloc (by simp) _).alloc (by simp; omega) _
  refine wpIn_rangeFunc_ownF rfl (by decide) (gf := 157) (lb := #[.pointer (some ⟨w'.heap.size + 1 + 1, 0, none⟩)]) rfl trivial (enters_of Tryz.func157 (by kernel_rfl) rfl)
    (pieces_stops _ (w'.heap.size + 1 + 1) w'.heap.size r hrl _ (by simp) bT.cell) belowK_t (belowK_b (by simp; omega)) (Below.refl _ _) (fun _ => rfl)
    (fun (pre : List Pc) W => (Boxed W w'.heap.size 2 (.int .i64 (cd (pcs pre))) ∧ Boxed W (w'.heap.size + 1) 3 (.int .i64 pre.length) ∧ (pcs pre).all plain = true) ∧ Below w'.heap.size w' W)
    (fun c (pre : List Pc) W => (c = .exit 0 ∧ (pcs pre).all plain = false ∧ Boxed W w'.heap.size 2 (.int .i64 5)) ∧ Below w'.heap.size w' W)
    (OwnFrom.and (OwnFrom.and (Own.from (boxed_own _ _ (fun pre => .int .i64 (cd (pcs pre)))) _) (OwnFrom.and (Own.from (boxed_own _ _ (fun (pre : List Pc) => .int .i64 pre.length)) _) (ownFrom_pure _ _))) (ownFrom_below (Nat.le_refl _) (by simp; omega)))
    (fun c => OwnFrom.and (OwnFrom.and (ownFrom_pure _ _) (OwnFrom.and (ownFrom_pure _ _) (Own.from (boxed_own _ _ (fun _ => .int .i64 5)) _))) (ownFrom_below (Nat.le_refl _) (by simp; omega)))
    ⟨⟨(bC.alloc _).alloc _, bN.alloc _, rfl⟩, hB0⟩
    (fun x => { tmps := #[.string s, undef, .int .i64 0, .string (str r), .bool true, .pointer (some ⟨w'.heap.size, 0, none⟩), .pointer (some ⟨w'.heap.size + 1, 0, none⟩), .string (str x.1), .tuple #[.string (str r), .bool true], .string s, .tuple #[.string (str r), .bool true], .string (str r), .bool true, .bool true, .bool false, .string (str r), .func (.func 157) #[] #[.pointer (some ⟨w'.heap.size + 1 + 1, 0, none⟩)], .string (str x.1), undef, undef, undef, undef, undef, undef, undef, undef, undef, undef, undef, undef, undef, undef, undef], defers := [] }) ?assign ?body ?done ?stop
  case assign =>
    intro l x W K hK
    gi_wp2_with fail
    exact hK
  case body =>
    rintro l pre ⟨x, hx⟩ W ⟨⟨hc, hn, hp⟩, hB⟩ hlt
    have hc0 := hc.cell
    have hf0 := hc.frozen
    have hn0 := hn.cell
    have hnf := hn.frozen
    have hpl : (pre.length : Int) ≤ 4194304 := by omega
    have HP := hide hp
    have HB := hide hB
    have HC := hide (hc.other (B' := w'.heap.size + 1) (by omega) (.int .i64 (pre.length + 1)))
    have HN := hide (hn.set (.int .i64 (pre.length + 1)))
    clear hp hB hc hn
    have hn1 := HN.out.cell
    have hc1 := HC.out.cell
    have hf1 := HC.out.frozen
    gi_wp2_with fail
    refine ⟨trivial, ?_⟩
    refine (CallsIn.inRound l (callsIn_wide.2 (isLetters_any _ _ (by rw [str_size]; omega)))).mono ?_
    rintro e w2 ⟨rfl, rfl⟩
    rw [str_data]
    cases hpx : plain x
    · have HX := hide hpx
      clear hpx
      gi_wp2_with fail
      exact ⟨(KeepsOthers.setCell _ _ _).trans (KeepsOthers.setCell _ _ _), ⟨rfl, by rw [pcs_snoc]; simp [HX.out], HC.out.set _⟩, (HB.out.setCell (p := ⟨w'.heap.size + 1, 0, none⟩) (by simp) _).setCell (p := ⟨w'.heap.size, 0, none⟩) (Nat.le_refl _) _⟩
    · have HX := hide hpx
      clear hpx
      have HPn := hide (show (pcs (pre ++ [⟨x, hx⟩])).all plain = true by rw [pcs_snoc]; simp [HP.out, HX.out])
      by_cases h4 : 4 < x.length
      · have h4' : (4 : Int) < ((str x).size : Int) := by rw [str_size]; omega
        have HE := hide (cd_bad (pcs pre) x (.inl h4))
        gi_wp2_with fail
        exact ⟨(KeepsOthers.setCell _ _ _).trans (KeepsOthers.setCell _ _ _), ((Below.refl w'.heap.size W).setCell (p := ⟨w'.heap.size + 1, 0, none⟩) (by simp) _).setCell (p := ⟨w'.heap.size, 0, none⟩) (Nat.le_refl _) _, ⟨by rw [pcs_snoc, HE.out]; exact HC.out.set _, by simpa using HN.out.other (by omega) _, HPn.out⟩, (HB.out.setCell (p := ⟨w'.heap.size + 1, 0, none⟩) (by simp) _).setCell (p := ⟨w'.heap.size, 0, none⟩) (Nat.le_refl _) _⟩
      · have h4' : ¬ (4 : Int) < ((str x).size : Int) := by rw [str_size]; omega
        by_cases h3 : 3 < pre.length + 1
        · have h3' : (3 : Int) < (pre.length : Int) + 1 := by omega
          have HE := hide (cd_bad (pcs pre) x (.inr (by rw [pcs_length]; exact h3)))
          gi_wp2_with fail
          exact ⟨(KeepsOthers.setCell _ _ _).trans (KeepsOthers.setCell _ _ _), ((Below.refl w'.heap.size W).setCell (p := ⟨w'.heap.size + 1, 0, none⟩) (by simp) _).setCell (p := ⟨w'.heap.size, 0, none⟩) (Nat.le_refl _) _, ⟨by rw [pcs_snoc, HE.out]; exact HC.out.set _, by simpa using HN.out.other (by omega) _, HPn.out⟩, (HB.out.setCell (p := ⟨w'.heap.size + 1, 0, none⟩) (by simp) _).setCell (p := ⟨w'.heap.size, 0, none⟩) (Nat.le_refl _) _⟩
        · have h3' : ¬ (3 : Int) < (pre.length : Int) + 1 := by omega
          have HE := hide (cd_good (pcs pre) x h4 (by rw [pcs_length]; exact h3))
          gi_wp2_with fail
          exact ⟨KeepsOthers.setCell _ _ _, (Below.refl w'.heap.size W).setCell (p := ⟨w'.heap.size + 1, 0, none⟩) (by simp) _, ⟨by rw [pcs_snoc, HE.out]; exact HC.out, by simpa using HN.out, HPn.out⟩, HB.out.setCell (p := ⟨w'.heap.size + 1, 0, none⟩) (by simp) _⟩
  case done =>
    rintro D ys W hD hys ⟨⟨hc, hn, hp⟩, hB⟩ hK
    have hc0 := hc.cell
    have HE := hide (show faultN (cutB r) = cd (pcs ys) by rw [← hys]; exact cd_fault hp)
    clear hp hys
    gi_wp2_with fail
    refine ⟨by simp, .inl ⟨_, _, rfl, run_takeDeferred hK, ?_⟩⟩
    exact ⟨_, results_tmp rfl _ _ _, by rw [HE.out]; rfl, hB.trans (belowK_b (w := w') (Nat.le_refl _) W D _ _ (by simp at hD; omega) hK rfl rfl)⟩
  case stop =>
    rintro D c pre W hD hpre ⟨⟨rfl, hp, hc⟩, hB⟩ hK
    have hc0 := hc.cell
    have HE := hide (fault_of_prefix hpre hp)
    clear hp hpre
    gi_wp2_with fail
    refine ⟨by simp, .inl ⟨_, _, rfl, run_takeDeferred hK, ?_⟩⟩
    exact ⟨_, results_tmp rfl _ _ _, by rw [HE.out]; rfl, hB.trans (belowK_b (w := w') (Nat.le_refl _) W D _ _ (by simp at hD; omega) hK rfl rfl)⟩

theorem implPathFault_any (s : ByteArray) (w : World) (hs : s.size ≤ 2097152) :
    Calls Tryz.prog 90 #[.string s] w fun e w' => e = .returned (.int .i64 (faultP s.data.toList)) ∧ Below w.heap.size w w' := by
  rcases stroke_cases s.data.toList with ⟨r, h⟩ | h
  · have e : faultP s.data.toList = faultN (cutB r) := by rw [h]; simp [faultP]
    rw [e]
    exact implPathFault_yes s r w h hs
  · rw [faultP_not h]
    exact implPathFault_no s w h

theorem box_own {β : Type} (b : Nat) (u v : Value) : Go.Own (fun (_ : β) W => Box W b u v) := fun s A B row hs hg hr =>
  ⟨⟨cell_kept hs.1.1 hg hr, cell_kept hs.1.2 hg hr⟩, (frozen_kept hs.1.1 hg hr).trans hs.2.1, (frozen_kept hs.1.2 hg hr).trans hs.2.2⟩
theorem Two.set {W : World} {b : Nat} {u v : Value} (h : Two W b u v) (u' v' : Value) : Two ((W.setCell ⟨b, 0, none⟩ u').setCell ⟨b, 1, none⟩ v') b u' v' := by
  have h1 : (W.setCell ⟨b, 0, none⟩ u').cell? ⟨b, 0, none⟩ = some u' := cell_set_same h.1
  have h2 : (W.setCell ⟨b, 0, none⟩ u').cell? ⟨b, 1, none⟩ = some v := (cell_set_other (by simp)).trans h.2
  exact ⟨(cell_set_other (by simp)).trans h1, cell_set_same h2⟩
theorem end_box {W : World} {b D : Nat} {u v : Value} (h : Two W b u v) (hK : W.heap[D]? = some (.deferred (some []))) (u' v' : Value) :
    ((W.setCell ⟨b, 0, none⟩ u').setCell ⟨b, 1, none⟩ v').heap[D]? = some (.deferred (some [])) ∧
    (((W.setCell ⟨b, 0, none⟩ u').setCell ⟨b, 1, none⟩ v').putObj D (.deferred none)).cell? ⟨b, 0, none⟩ = some u' ∧
    (((W.setCell ⟨b, 0, none⟩ u').setCell ⟨b, 1, none⟩ v').putObj D (.deferred none)).cell? ⟨b, 1, none⟩ = some v' := by
  have hK2 := ((KeepsOthers.setCell W ⟨b, 0, none⟩ u').trans (KeepsOthers.setCell _ ⟨b, 1, none⟩ v')).same D _ hK rfl
  have h2 := h.set u' v'
  exact ⟨hK2, cell_kept h2.1 (grownBy_putObj' _ D (.deferred none)) (fun r e => by cases e; exact ⟨_, hK2, rfl⟩), cell_kept h2.2 (grownBy_putObj' _ D (.deferred none)) (fun r e => by cases e; exact ⟨_, hK2, rfl⟩)⟩

end Go.Proofs.YtejipahfodhmjaaGreat

