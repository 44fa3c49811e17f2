/-
  The model's draw of a list of chunks and of bytes.
-/
import Derived.Test.YtdebojhginiihaaDrawCh
import Derived.Test.YtdebojhginiihaaJoin
namespace Go.Proofs.Ytdebojhginiihaa
open Go.RowKit Go.Maps
set_option linter.unusedVariables false

/-- append(out, x...): out owned and made, x read, whether it has memory or not. -/
theorem wpList_append_reads {P : Program} {wr : World} {ops : Array Oper} {rest : List Oper} {o : Oper} {a : Act} {Q : Exit → Act → World → Prop} (hgd : o.guard = none) (s x : Operand) (t : TypeId)
    (ho : o.op = .call { callee := .builtin .append, args := #[s, x], argTypes := #[t, t] })
    (base : Nat) (e : TypeId) (i : TypeInfo) (k : IntKind) (ty : TypeDesc) (hu : P.underlying t = some (.slice e)) (hi : P.info? e = some i) (hz : i.zero = some (.int k 0))
    (hsize : i.size = 1) (hby : i.bytes = 1) (g c n : Nat) (ys : List Int) (hs : a.eval s = .slice (some ⟨g, 0, none⟩) n c) (hown : wr.ownsRow base e 1 (.slice (some ⟨g, 0, none⟩) n c) n (ys.map (Value.int k)))
    (xa : Option Addr) (m cap : Nat) (zs : List Int) (hx : a.eval x = .slice xa m cap) (hm : m = zs.length) (hr : Reads k wr xa zs)
    (h63 : n + m ≤ maxLen) (hbytes : (n + m) * 1 ≤ 140737488355328) (hbase : base ≤ wr.heap.size)
    (h : ∀ av cv w', w'.ownsRow base e 1 (.slice av (n + m) cv) (n + m) ((ys ++ zs).map (Value.int k)) → Kept (fun b => b = g) wr w' → wpList P ops Q rest (a.put o.dst (.slice av (n + m) cv)) w') :
    wpList P ops Q (o :: rest) a wr := by
  cases xa with
  | some ad =>
    refine wpList_append_own _ hgd s x t ho base e i (.int k 0) 1 1 hu hi hz hsize hby rfl (by decide) _ n _ hs hown ad m cap (zs.map (Value.int k)) hx (by simp [hm]) (fun j u hj => ?_) (ints_one _ _) h63 hbytes hbase ?_
    · have h0 : zs ≠ [] := fun e => by subst e; simp at hj
      obtain ⟨b, off, e1, hb, hc⟩ := hr h0
      simp only [Option.some.injEq] at e1
      subst e1
      exact reads_news hc j u hj
    · intro v' w' ho' hg _
      rw [← List.map_append] at ho'
      obtain ⟨av, cv, rfl⟩ := ownsRow_shape ho'
      exact h av cv w' ho' ⟨hg.os, hg.tape, hg.output, hg.size, fun q hq hn => hg.block q hq (fun e => hn (by simp [Value.ownBlock] at e; exact e))⟩
  | none =>
    have h0 : zs = [] := by
      by_cases h0 : zs = []
      · exact h0
      · obtain ⟨b, off, e1, _⟩ := hr h0; cases e1
    subst h0
    simp only [List.length_nil] at hm
    subst hm
    have hc : n ≤ c := ownsRow_cap hown
    have hrun : (Builtin.append_ #[t, t] o.type #[.slice (some ⟨g, 0, none⟩) n c, .slice none 0 cap]).run P wr = .ok (.slice (some ⟨g, 0, none⟩) (n + 0) c) wr := by
      simp [Builtin.append_, run_underlying hu, sizeOf, typeInfo, hi, Builtin.lenOf, Builtin.firstCells, storeCells, hc]
    refine wpList_plain hgd fun K hK => ?_
    unfold Oper.wp execOp
    simp only [ho, resolve, invoke, builtin, Sem.run_bind, Sem.run_pure, Result.andThen_ok, List.map_toArray, List.map_cons, List.map_nil, hs, hx, hrun]
    exact hK _ _ (h _ _ wr (by simpa using hown) (Kept.refl _ _))

set_option maxRecDepth 100000 in
set_option maxHeartbeats 3200000 in
theorem drawPutBytes_any (a : Option Addr) (cap : Nat) (zs : List Int) (w : World) (h : Reads .u8 w a zs) (hu : U8 zs) (hl : zs.length ≤ 1048576) :
    Calls Try.prog 23 #[.slice a zs.length cap] w fun e w' => ∃ (g cv n : Nat) (D : Nat → Int) (P : Nat → List Int) (av : Option Addr) (ac : Nat) (ds : List Int), e = .returned (.tuple #[.slice (some ⟨g, 0, none⟩) n cv, .slice av ds.length ac]) ∧ n ≤ cv ∧ n ≤ 41 ∧ (∀ i, i < n → U8 (P i) ∧ (P i).length ≤ 9) ∧ RdC w' (some ⟨g, 0, none⟩) D P n ∧ Reads .u8 w' av ds ∧ U8 ds ∧ ds.length ≤ 25 ∧ ds.length ≤ ac ∧ Below w.heap.size w w' := by
  obtain ⟨i0, hi, hz0, hz1, hz2⟩ := info_parts Try.infoU8
  have HB : Hid (zs ≠ [] → ∀ x, a = some x → x.block < w.heap.size) := fun hz x hx => by
    obtain ⟨b, off, e1, hb, _⟩ := h hz
    rw [e1] at hx
    simp only [Option.some.injEq] at hx
    subst hx
    exact hb
  have HR := hide h
  have HU := hide hu
  have hm1 : 1 + zs.length ≤ maxLen := by unfold maxLen; omega
  have hm2 : (1 + zs.length) * 1 ≤ 140737488355328 := by omega
  clear h hu
  go_enter Try.func23, Try.ntmps23
  go_wp2_with fail
  refine (l1Source_any a cap zs _ HR.out).mono ?_
  rintro e w1 ⟨rfl, s1, z1, b1⟩
  have S1 := hide s1
  have R1 := hide (HR.out.below b1)
  have B1 := hide b1
  have hs1 := b1.size
  clear s1 b1 HR
  generalize hp : w.heap.size = p at *
  have HP := hide hp
  clear hp
  have hlt1 := S1.out.lt
  go_wp2_with fail
  refine (l2Bent_any p zs 0 w1 S1.out HU.out (by decide) (by decide) hl).mono ?_
  rintro e w2 ⟨g, cv, n, D, P, t2, rfl, hcv, hn41, hL, hG2, s2, ht20, ht21, k2⟩
  have HL := hide hL
  have G2 := hide hG2.rd
  have hs2 := k2.size
  have B2 := hide (B1.out.trans (k2.below (B := p) (by omega) (fun b hb e => by omega)))
  have R2 : Hid (Reads .u8 w2 a zs) := R1.out.kept k2 (fun hz x hx e => by have := HB.out hz x hx; omega)
  clear hL hG2 s2 k2 S1 B1 R1
  have R3 : Hid (Reads .u8 (w2.alloc (.cells #[.int .u8 2] 5)) a zs) := R2.out.below (below_alloc _ _)
  have G3 : Hid (RdC (w2.alloc (.cells #[.int .u8 2] 5)) (some ⟨g, 0, none⟩) D P n) := G2.out.below (below_alloc _ _)
  have O3 : Hid ((w2.alloc (.cells #[.int .u8 2] 5)).ownsRow w2.heap.size 5 1 (.slice (some ⟨w2.heap.size, 0, none⟩) 1 1) 1 ([2].map (Value.int .u8))) := hide ⟨rfl, .inr ⟨w2.heap.size, 1, #[.int .u8 2], rfl, Nat.le_refl _, heap_alloc_new w2 _, Nat.le_refl _, by decide, rfl, rfl⟩⟩
  have B3 : Hid (Below p w (w2.alloc (.cells #[.int .u8 2] 5))) := B2.out.trans ((below_alloc _ _).mono (by omega))
  have hs3 : w2.heap.size ≤ (w2.alloc (.cells #[.int .u8 2] 5)).heap.size := by simp
  clear B2 R2 G3
  go_wp2_with (first | (at_builtin; refine wpList_append_reads rfl (.tmp 11) (.tmp 12) 22 rfl w2.heap.size 5 i0 .u8 (.slice 5) Try.underlying22 hi hz0 hz1 hz2 w2.heap.size 1 1 [2] rfl O3.out a zs.length cap zs rfl rfl R3.out hm1 hm2 hs3 ?_; intro av0 ac0 w4 ho4 hk4; have O4 := hide ho4; have K4 := hide hk4; clear ho4 hk4) | fail)
  have k4 : Below w2.heap.size w2 w4 := (below_alloc w2 (.cells #[.int .u8 2] 5)).trans (K4.out.below (B := w2.heap.size) hs3 (fun b hb e => by omega))
  have G4 := hide (G2.out.below k4)
  have B4 := hide (B3.out.trans (K4.out.below (B := p) (by simp; omega) (fun b hb e => by omega)))
  have hs4 := k4.size
  have hlen : 1 + zs.length = ([2] ++ zs).length := by simp; omega
  have hu2 : U8 ([2] ++ zs) := fun z hz => by
    rcases List.mem_append.1 hz with hz | hz
    · simp at hz; omega
    · exact HU.out z hz
  have R4 : Hid (Reads .u8 w4 av0 ([2] ++ zs)) := hide (ownsRow_own O4.out hlen).reads
  have HD := hide (l1Data_big av0 ac0 ([2] ++ zs) w4 R4.out hu2 (by rw [← hlen]; omega))
  clear R4 O4 K4 k4 G2 B3 O3 R3 hu2
  rw [hlen]
  clear hlen
  refine HD.out.mono ?_
  rintro e w5 ⟨v, ds, rfl, hds, hU, hown, b5⟩
  obtain ⟨av, ac, rfl⟩ := ownsRow_shape hown
  have hac := ownsRow_cap hown
  have O5 := hide (ownsRow_own hown rfl).reads
  have UD := hide hU
  have G5 := hide (G4.out.below b5)
  have B5 := hide (B4.out.trans (b5.mono (by omega)))
  clear hown hU b5 G4 B4 HD
  go_wp2_with fail
  exact bodyPost_ret (v := .tuple #[.slice (some ⟨g, 0, none⟩) n cv, .slice av ds.length ac]) (by simp [results, Try.results23, go_sem]) rfl ⟨g, cv, n, D, P, av, ac, ds, rfl, hcv, hn41, HL.out, G5.out, O5.out, UD.out, hds, hac, by rw [HP.out]; exact B5.out⟩
end Go.Proofs.Ytdebojhginiihaa
