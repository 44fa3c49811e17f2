/-
  The program's rows appended to rows; what leads from one tree to another one: DiffTrees.
-/
import Derived.Test.YtjcjdedkedafbaaGreatDifQ
namespace Go.Proofs.YtjcjdedkedafbaaGreat
open Go.RowKit Go.Maps Go.Sort
set_option linter.unusedVariables false
attribute [local go_sem ↓] Go.wp_at_zero Go.wp_at_succ

theorem wpList_append_rows {P : Program} {w : World} {ops : Array Oper} {rest : List Oper} {o : Oper} {a : Act} {Q : Exit → Act → World → Prop} (hgd : o.guard = none) (s x : Operand) (t : TypeId)
    (ho : o.op = .call { callee := .builtin .append, args := #[s, x], argTypes := #[t, t] })
    (base : Nat) (e : TypeId) (i : TypeInfo) (z : Value) (size bytes : Nat) (ht : P.underlying t = some (.slice e)) (hi : P.info? e = some i) (hz : i.zero = some z)
    (hsize : i.size = size) (hby : i.bytes = bytes) (hzs : z.cells.size = size) (hsz : 0 < size)
    (av0 : Option Addr) (n c0 : Nat) (xs : List Value) (hs : a.eval s = .slice av0 n c0) (hown : w.ownsRow base e size (.slice av0 n c0) n xs)
    (base2 : Nat) (xv : Option Addr) (m xc : Nat) (ys : List Value) (hx : a.eval x = .slice xv m xc) (hown2 : w.ownsRow base2 e size (.slice xv m xc) m ys) (h1 : ∀ u ∈ ys, u.oneCell' = true)
    (N : Nat) (hN : n + m = N) (h63 : n + m ≤ maxLen) (hbytes : (n + m) * bytes ≤ 140737488355328) (hbase : base ≤ w.heap.size)
    (h : ∀ av cv w', w'.ownsRow base e size (.slice av N cv) N (xs ++ ys) → Kept (fun b => (Value.slice av0 n c0).ownBlock = some b) w w' → wpList P ops Q rest (a.put o.dst (.slice av N cv)) w') :
    wpList P ops Q (o :: rest) a w := by
  rcases hown2.2 with ⟨hv2, hm⟩ | ⟨g, cap, cur, hv2, -, -, hnc, -⟩
  · simp only [Value.slice.injEq] at hv2
    obtain ⟨rfl, rfl, rfl⟩ := hv2
    have hy : ys = [] := List.eq_nil_of_length_eq_zero (by simpa using hown2.1)
    subst hy
    have hN' : N = n := by omega
    subst hN'
    have hrun : (Builtin.append_ #[t, t] o.type #[.slice av0 N c0, .slice none 0 0]).run P w = .ok (.slice av0 N c0) w := by
      rcases hown.2 with ⟨hv, h0⟩ | ⟨g, cap, cur, hv, -, -, hnc, -⟩
      · simp only [Value.slice.injEq] at hv
        obtain ⟨rfl, rfl, rfl⟩ := hv
        simp [Builtin.append_, run_underlying ht, sizeOf, typeInfo, hi, Builtin.lenOf, Builtin.firstCells]
      · simp only [Value.slice.injEq, true_and] at hv
        obtain ⟨rfl, rfl⟩ := hv
        simp [Builtin.append_, run_underlying ht, sizeOf, typeInfo, hi, Builtin.lenOf, Builtin.firstCells, hnc, storeCells]
    refine wpList_plain hgd fun K hK => ?_
    unfold Oper.wp execOp
    simp only [ho, resolve, invoke, builtin, Sem.run_bind, Sem.run_pure, Result.andThen_ok, List.map_toArray, List.map_cons, List.map_nil, hs, hx, hrun]
    exact hK _ _ (h av0 c0 w (by rw [List.append_nil]; exact hown) (Kept.refl _ _))
  · simp only [Value.slice.injEq, true_and] at hv2
    obtain ⟨rfl, rfl⟩ := hv2
    exact wpList_append_list hgd s x t ho base e i z size bytes ht hi hz hsize hby hzs hsz _ n xs hs hown ⟨g, 0, none⟩ m xc ys hx (by simpa using hown2.1) (fun j u hj => hown2.cells (g := g) rfl j u hj) h1 N hN h63 hbytes hbase h

/-- Rows in the order of their entries. -/
theorem sort_rows : ∀ (l acc : List Rw) (bs : List En), acc.map Rw.e = bs → ∃ ss : List Rw, ss.Perm (acc ++ l) ∧ ss.map Rw.e = (l.map Rw.e).foldl putAt bs
  | [], acc, bs, h => ⟨acc, by simp, by simpa using h⟩
  | r :: l, acc, bs, h => by
    obtain ⟨s1, hp1, hm1⟩ := put_order2 (r := r) h rfl
    obtain ⟨ss, hp, hm⟩ := sort_rows l s1 _ hm1
    refine ⟨ss, ?_, by rw [hm]; rfl⟩
    refine hp.trans ?_
    have := hp1.append_right l
    simpa using this

set_option maxRecDepth 100000 in
set_option maxHeartbeats 1600000 in
theorem insNil_any (f : Value) (w : World) : Calls Tryz.prog 112 #[.slice none 0 0, .int .i64 0, .int .i64 0, f] w fun r w' => r = .returned (.tuple #[]) ∧ w' = w := by
  go_enter Tryz.func112, Tryz.ntmps112
  go_wp2_with fail
  go_loopw [8] (fun i wr => i = .int .i64 1 ∧ wr = w) (fun i _ => 0)
  case atStart => exact ⟨by go_num, rfl⟩
  case round =>
    obtain ⟨rfl, rfl⟩ := hrel
    go_wp2_with fail
    first | go_end0 | skip
    first | exact ⟨rfl, rfl⟩ | exact ⟨rfl, _, by simp [results, Tryz.results89, go_sem], rfl, rfl⟩
set_option maxRecDepth 100000 in
set_option maxHeartbeats 1600000 in
theorem pdqNil_any (f : Value) (w : World) : Calls Tryz.prog 89 #[.slice none 0 0, .int .i64 0, .int .i64 0, .int .i64 0, f] w fun r w' => r = .returned (.tuple #[]) ∧ w' = w := by
  go_enter Tryz.func89, Tryz.ntmps89
  go_wp2_with fail
  go_loopw [1, 2] (fun i j wr => i = .int .i64 0 ∧ j = .int .i64 0 ∧ wr = w) (fun i j _ => 0)
  case atStart => exact ⟨rfl, rfl, rfl⟩
  case round =>
    obtain ⟨rfl, rfl, rfl⟩ := hrel
    go_wp2_with fail
    refine (insNil_any f _).mono ?_
    rintro r w1 ⟨rfl, rfl⟩
    go_wp2_with fail
    first | go_end0 | skip
    first | exact ⟨rfl, rfl⟩ | exact ⟨rfl, _, by simp [results, Tryz.results89, go_sem], rfl, rfl⟩
set_option maxRecDepth 100000 in
set_option maxHeartbeats 1600000 in
theorem sortNil_any (f : Value) (w : World) : Calls Tryz.prog 57 #[.slice none 0 0, f] w fun r w' => r = .returned (.tuple #[]) ∧ w' = w := by
  have HL : Hid (Calls Tryz.prog 90 #[.int .u64 0] w fun e w' => e = .returned (.int .i64 0) ∧ w' = w) := hide (by
    have h3 := Any.bits_Len Tryz.lenT 0 w (by omega) (by omega)
    exact h3)
  have wr : IntKind.u64.wrap 0 = 0 := by simp [IntKind.wrap, IntKind.bits, IntKind.signed]
  go_enter Tryz.func57, Tryz.ntmps57
  go_wp2_with fail
  refine HL.out.mono ?_
  rintro e w1 ⟨rfl, rfl⟩
  go_wp2_with fail
  refine (pdqNil_any f _).mono ?_
  rintro r w1 ⟨rfl, rfl⟩
  go_wp2_with fail
  first | go_end0 | skip
  exact ⟨rfl, rfl⟩
/-- Rows without chunks are read in every world. -/
theorem bare_reads {rs : List Rw} {w : World} (h : ∀ r ∈ rs, r.e.chunks = []) : ∀ r ∈ rs, Reads .i64 w r.a r.e.chunks := fun r hr hne => absurd (h r hr) hne
theorem gone_bare {a b : List En} : ∀ e ∈ goneE a b, e.chunks = [] := by
  intro e he
  obtain ⟨x, -, -, -, rfl⟩ := mem_gone.1 he
  rfl
theorem homes_bare {a b : List En} (ha : RightT a) (hb : RightT b) : ∀ e ∈ homesE b (diffU a b), e.chunks = [] := by
  intro e he
  obtain ⟨h1, ⟨y, hy, hyb⟩, -⟩ := mem_homes.1 he
  rw [isBelow_eq (diffU_path ha hb hy) (hb.path h1)] at hyb
  obtain ⟨d, hd, hdp, hdk⟩ := diffU_up ha hb hy (hb.path h1) hyb
  rw [hb.only hd h1 hdp] at hdk
  exact (dir_bare (hb.ent e h1) (by omega)).2
theorem diffU_len (a b : List En) : (diffU a b).length ≤ a.length + b.length := by
  have h1 := List.length_filter_le (fun e : En => !(a.any fun y => decide (e = y))) b
  have h2 := List.length_filter_le (goneF b) a
  rw [diffU, List.length_append, goneE_eq, List.length_map]
  unfold turnE
  omega
theorem diffU_small {a b : List En} (ha : RightT a) (hb : RightT b) : SmallE (diffU a b) := by
  intro e he
  rcases diffU_mem.1 he with ⟨h1, -⟩ | ⟨x, hx, -, -, rfl⟩
  · exact hb.small e h1
  · exact ⟨(ha.small x hx).1, by simp [whiteE]⟩
theorem map_mem_bare {rs : List Rw} {es : List En} (h : rs.map Rw.e = es) (hb : ∀ e ∈ es, e.chunks = []) : ∀ r ∈ rs, r.e.chunks = [] := fun r hr => hb r.e (by rw [← h]; exact List.mem_map_of_mem hr)

set_option maxRecDepth 100000 in
set_option maxHeartbeats 3200000 in
theorem turnedItems_any (a : Option Addr) (c n : Nat) (es : List En) (b : Option Addr) (d m : Nat) (fs : List En) (w : World) (h : RdI w a es) (hn : n = es.length) (hR : RightT es) (h2 : RdI w b fs) (hm : m = fs.length) (hR2 : RightT fs) :
    Calls Tryz.prog 24 #[.slice a n c, .slice b m d] w fun r w' => ∃ av cv, r = .returned (.slice av (diffE es fs).length cv) ∧ RdI w' av (diffE es fs) ∧ Below w.heap.size w w' := by
  have hmf : ∀ (fn : Fn) (first cap : Array Value) (w : World), (Instr.makeFunc fn first cap).run Tryz.prog w = .ok (.func fn first cap) w := fun _ _ _ _ => rfl
  subst hn hm
  obtain ⟨i1, ki, kz0, kz1, kz2⟩ := info_parts Tryz.infoIt
  have B0 := hide (below_alloc w (.cells #[.slice a es.length c] 47))
  have HC0 : Hid ((w.alloc (.cells #[.slice a es.length c] 47)).cell? ⟨w.heap.size, 0, none⟩ = some (.slice a es.length c)) := hide (by simp)
  have hlt0 : w.heap.size < (w.alloc (.cells #[.slice a es.length c] 47)).heap.size := by simp
  have HR := hide (h.below B0.out)
  have HR2 := hide (h2.below B0.out)
  have HRT := hide hR
  have HRT2 := hide hR2
  have hl := hR.len
  have hl2 := hR2.len
  have HA : Hid (Asks (w.alloc (.cells #[.slice a es.length c] 47)) 54 #[.pointer (some ⟨w.heap.size, 0, none⟩)] (fun e => es.any fun y => decide (e = y))) := hide ⟨enters_of Tryz.func54 (by kernel_rfl) rfl, fun e x cc w' _ hec hre hb =>
    turnedLit_any w.heap.size a c es w h (by omega) hR.small e x cc w' hec hre (below_next B0.out hb) ((hb.cell (p := ⟨w.heap.size, 0, none⟩) (by simp)).trans (by simp))⟩
  have HCW := hide (without_any b d fs.length fs _ _ _ _ HR2.out rfl (by omega) hR2.small HA.out)
  have HTE := hide (show (fs.filter fun e => !(es.any fun y => decide (e = y))) = turnE es fs from rfl)
  rw [HTE.out] at HCW
  have HUL := hide (diffU_len es fs)
  have HUE := hide (show diffU es fs = turnE es fs ++ goneE es fs from rfl)
  have HAE := hide (show diffA es fs = diffU es fs ++ homesE fs (diffU es fs) from rfl)
  have HDE := hide (show diffE es fs = (diffA es fs).foldl putAt [] from rfl)
  have HDL := hide (diff_length hR hR2)
  have HDR := hide (diff_rise hR hR2)
  have HGB := hide (gone_bare (a := es) (b := fs))
  have HHB := hide (homes_bare hR hR2)
  have HSU := hide (diffU_small hR hR2)
  have hlenU : (diffU es fs).length ≤ 80 := by have := HUL.out; omega
  have hlenH : (homesE fs (diffU es fs)).length ≤ 40 := by
    have := List.length_filter_le (homesF (diffU es fs)) fs
    rw [homesE_eq]
    omega
  clear h h2 hR hR2 HA HTE HUL
  generalize diffE es fs = DE at *
  generalize diffA es fs = DA at *
  generalize hDU : diffU es fs = DU at *
  clear hDU
  go_enter Tryz.func24, Tryz.ntmps24
  go_wp2_with fail
  generalize w.alloc (.cells #[.slice a es.length c] 47) = W0 at *
  refine HCW.out.mono ?_
  rintro r w2 ⟨av2, cv2, v1, rfl, hL2, hb1, hb2⟩
  obtain ⟨rsT, gT1, gT2, gT3⟩ := hL2
  have T1 := hide gT1
  have T2 := hide gT2
  have T3 := hide gT3
  have BV := hide hb1
  have BV2 := hide hb2
  have B2 := hide (below_next hb1 hb2)
  have hc2 := (B2.out.cell (p := ⟨w.heap.size, 0, none⟩) hlt0).trans HC0.out
  have hv1 := hb1.size
  clear gT1 gT2 gT3 hb1 hb2 HCW
  go_wp2_with fail
  refine (goneItems_any a c es.length es b d fs.length fs _ (HR.out.below B2.out) rfl HRT.out (HR2.out.below B2.out) rfl HRT2.out).mono ?_
  rintro r w3 ⟨av3, cv3, rfl, hL3, hb3⟩
  obtain ⟨rsG, gG1, gG2, gG3⟩ := hL3
  have G1 := hide gG1
  have G2 := hide gG2
  have BV3 := hide (below_next BV2.out hb3)
  have B3 := hide (below_next B2.out hb3)
  have T23 := hide (ownsRow_below T2.out hb3)
  have HLU := hide (show (turnE es fs).length + (goneE es fs).length = DU.length from by rw [HUE.out, List.length_append])
  have hv13 := BV3.out.size
  clear gG1 gG2 gG3 hb3 hc2
  have hm1 : (turnE es fs).length + (goneE es fs).length ≤ maxLen := by have := HLU.out; unfold maxLen; omega
  have hm2 : ((turnE es fs).length + (goneE es fs).length) * 56 ≤ 140737488355328 := by have := HLU.out; omega
  go_wp2_with (at_builtin; refine wpList_append_rows rfl (.tmp 9) (.tmp 12) 47 rfl v1.heap.size 61 i1 (.agg #[.int .i64 0, .slice none 0 0, .string ⟨#[]⟩, .int .i64 0]) 4 56 Tryz.underlying47 ki kz0 kz1 kz2 rfl (by decide) av2 (turnE es fs).length cv2 (rowI rsT) rfl T23.out w2.heap.size av3 (goneE es fs).length cv3 (rowI rsG) rfl G2.out (rowI_one _) DU.length HLU.out hm1 hm2 hv13 ?_; intro av4 cv4 w4 hown4 hk4; have O4 := hide hown4; have BV4 := hide (Kept.below_own (B := v1.heap.size) BV3.out hv13 T23.out hk4); clear hown4 hk4)
  have hv14 := BV4.out.size
  have B4 := hide (below_next BV.out BV4.out)
  have LU : Hid (LI v1 w4 (.slice av4 DU.length cv4) DU) := hide ⟨rsT ++ rsG, by rw [List.map_append, T1.out, G1.out, HUE.out], by rw [rowI_append]; exact O4.out, fun r hr => by
    rcases List.mem_append.1 hr with hr | hr
    · exact T3.out r hr
    · exact bare_reads (map_mem_bare G1.out HGB.out) r hr⟩
  go_wp2_with fail
  refine (homesOf_any b d fs.length fs av4 cv4 DU.length DU _ (HR2.out.below B4.out) rfl (by omega) HRT2.out.small (LU.out.rd BV4.out) rfl (by omega) HSU.out).mono ?_
  rintro r w6 ⟨av6, cv6, v5, rfl, hL6, hb5, hb6⟩
  obtain ⟨rsH, gH1, gH2, gH3⟩ := hL6
  have H1 := hide gH1
  have H2 := hide gH2
  have BB6 := hide (below_next hb5 hb6)
  have BV6 := hide (below_next BV4.out BB6.out)
  have O6 := hide (ownsRow_below O4.out BB6.out)
  have hv16 := BV6.out.size
  clear gH1 gH2 gH3 hb5 hb6
  have HLA := hide (show DU.length + (homesE fs DU).length = DA.length from by rw [HAE.out, List.length_append])
  have hm3 : DU.length + (homesE fs DU).length ≤ maxLen := by unfold maxLen; omega
  have hm4 : (DU.length + (homesE fs DU).length) * 56 ≤ 140737488355328 := by omega
  go_wp2_with (at_builtin; refine wpList_append_rows rfl (.tmp 14) (.tmp 17) 47 rfl v1.heap.size 61 i1 (.agg #[.int .i64 0, .slice none 0 0, .string ⟨#[]⟩, .int .i64 0]) 4 56 Tryz.underlying47 ki kz0 kz1 kz2 rfl (by decide) av4 DU.length cv4 (rowI rsT ++ rowI rsG) rfl O6.out v5.heap.size av6 (homesE fs DU).length cv6 (rowI rsH) rfl H2.out (rowI_one _) DA.length HLA.out hm3 hm4 hv16 ?_; intro av7 cv7 w7 hown7 hk7; have O7 := hide hown7; have BV7 := hide (Kept.below_own (B := v1.heap.size) BV6.out hv16 O6.out hk7); clear hown7 hk7)
  have hv17 := BV7.out.size
  have B7 := hide (below_next B0.out (below_next BV.out BV7.out))
  have hmap : (rsT ++ rsG ++ rsH).map Rw.e = DA := by rw [List.map_append, List.map_append, T1.out, G1.out, H1.out, HAE.out, HUE.out]
  have hrow : rowI rsT ++ rowI rsG ++ rowI rsH = rowI (rsT ++ rsG ++ rsH) := by rw [rowI_append, rowI_append]
  have HRR := hide (show ∀ r ∈ rsT ++ rsG ++ rsH, Reads .i64 v1 r.a r.e.chunks from fun r hr => by
    rcases List.mem_append.1 hr with hr | hr
    · rcases List.mem_append.1 hr with hr | hr
      · exact T3.out r hr
      · exact bare_reads (map_mem_bare G1.out HGB.out) r hr
    · exact bare_reads (map_mem_bare H1.out HHB.out) r hr)
  have hlen : DA.length = (rsT ++ rsG ++ rsH).length := by rw [← hmap, List.length_map]
  obtain ⟨ss, hperm, hss⟩ := sort_rows (rsT ++ rsG ++ rsH) [] [] rfl
  rw [hmap, ← HDE.out] at hss
  rw [List.nil_append] at hperm
  have hO : w7.ownsRow v1.heap.size 61 4 (.slice av7 DA.length cv7) DA.length (rowI (rsT ++ rsG ++ rsH)) := by rw [← hrow]; exact O7.out
  have hrise : ss.Pairwise (fun x y => Op.bytesLess x.e.path y.e.path = true) := by
    have := HDR.out
    rw [← hss] at this
    exact List.pairwise_map.1 this
  have HSS := hide hss
  have HPM := hide hperm
  have HRI := hide hrise
  have HO := hide hO
  have HLN := hide hlen
  clear hss hperm hrise hO hlen hmap hrow
  go_wp2_with fail
  rcases HO.out.2 with ⟨hv, h0⟩ | ⟨g, cap, cur, hv, hg0, -⟩
  · simp only [Value.slice.injEq] at hv
    obtain ⟨rfl, hz, rfl⟩ := hv
    have hde : DE = [] := List.eq_nil_of_length_eq_zero (by rw [HDL.out]; exact hz)
    have HDn := hide hde
    rw [hz]
    clear hz h0 hde
    refine (sortNil_any _ _).mono ?_
    rintro r w8 ⟨rfl, rfl⟩
    go_wp2_with fail
    go_ret
    exact ⟨none, 0, by rw [HDn.out]; rfl, by rw [HDn.out]; exact fun hne => absurd rfl hne, B7.out⟩
  · simp only [Value.slice.injEq, true_and] at hv
    obtain ⟨rfl, rfl⟩ := hv
    have hgl := HO.out.lt g rfl
    refine (sortList_any v1.heap.size g DA.length cv7 (rsT ++ rsG ++ rsH) ss w7 HO.out HLN.out (by have := HLA.out; omega) HPM.out HRI.out).mono ?_
    rintro r w8 ⟨rfl, hcc, hk8⟩
    have R8 := hide (show RdI w8 (some ⟨g, 0, none⟩) DE from by rw [← HSS.out]; exact sorted_rd2 hcc (fun r hr => HRR.out r (HPM.out.subset hr)) BV7.out hk8 hgl.1 hgl.2)
    have B8 := hide (B7.out.trans (hk8.below B7.out.size (fun q hq hS => by have : q = g := hS; have := B0.out.size; omega)))
    clear hcc hk8
    go_wp2_with fail
    go_ret
    exact ⟨some ⟨g, 0, none⟩, cv7, by rw [HDL.out]; rfl, R8.out, B8.out⟩
/-- What DiffTrees answers. -/
def difCode (a b : List En) : Int := if treFaultP a = 0 then (if treFaultP b = 0 then (if 12 < (diffE a b).length then 2 else 0) else treFaultP b) else treFaultP a
def difList (a b : List En) : List En := if difCode a b = 0 then diffE a b else []
theorem dif_a {a b : List En} (h : treFaultP a ≠ 0) : difCode a b = treFaultP a ∧ difList a b = [] := by
  have h1 : difCode a b = treFaultP a := by rw [difCode, if_neg h]
  exact ⟨h1, by rw [difList, if_neg (by rw [h1]; exact h)]⟩
theorem dif_b {a b : List En} (h : treFaultP a = 0) (h2 : treFaultP b ≠ 0) : difCode a b = treFaultP b ∧ difList a b = [] := by
  have h1 : difCode a b = treFaultP b := by rw [difCode, if_pos h, if_neg h2]
  exact ⟨h1, by rw [difList, if_neg (by rw [h1]; exact h2)]⟩
theorem dif_many {a b : List En} (h : treFaultP a = 0) (h2 : treFaultP b = 0) (h3 : 12 < (diffE a b).length) : difCode a b = 2 ∧ difList a b = [] := by
  have h1 : difCode a b = 2 := by rw [difCode, if_pos h, if_pos h2, if_pos h3]
  exact ⟨h1, by rw [difList, if_neg (by rw [h1]; decide)]⟩
theorem dif_ok {a b : List En} (h : treFaultP a = 0) (h2 : treFaultP b = 0) (h3 : ¬ 12 < (diffE a b).length) : difCode a b = 0 ∧ difList a b = diffE a b := by
  have h1 : difCode a b = 0 := by rw [difCode, if_pos h, if_pos h2, if_neg h3]
  exact ⟨h1, by rw [difList, if_pos h1]⟩

set_option maxRecDepth 100000 in
set_option maxHeartbeats 800000 in
theorem layerResult_any (a : Option Addr) (c n : Nat) (es : List En) (w : World) (h : RdI w a es) (hn : n = es.length) (hl : es.length ≤ 1048576) (hs : SmallE es) :
    Calls Tryz.prog 23 #[.slice a n c] w (ResE (if 12 < es.length then 2 else 0) (if 12 < es.length then [] else es) w) := by
  subst hn
  have X0 := hide (Box.new w (.int .i64 0) (.slice none 0 0) 28)
  have B0 := hide (below_alloc w (.cells #[.int .i64 0, .slice none 0 0] 28))
  have HR := hide (h.below B0.out)
  have HS := hide hs
  have hb0 : w.heap.size < (w.alloc (.cells #[.int .i64 0, .slice none 0 0] 28)).heap.size := by simp
  clear h hs
  by_cases h12 : 12 < es.length
  · have hg : (12 : Int) < (es.length : Int) := by omega
    rw [if_pos h12, if_pos h12]
    go_enter Tryz.func23, Tryz.ntmps23
    go_wp2_with fail
    exact bodyPost_ret (v := .agg #[.int .i64 2, .slice none 0 0]) (by simp [results, Tryz.results23, go_sem]) rfl ⟨none, 0, rfl, GE.nil _ _ _, below_alloc _ _⟩
  · have hg : ¬ (12 : Int) < (es.length : Int) := by omega
    rw [if_neg h12, if_neg h12]
    go_enter Tryz.func23, Tryz.ntmps23
    go_wp2_with fail
    generalize w.alloc (.cells #[.int .i64 0, .slice none 0 0] 28) = W0 at *
    refine (entriesOf_any _ _ _ es _ HR.out rfl hl HS.out).mono ?_
    rintro r w6 ⟨av6, cv6, rfl, hG6, hb6⟩
    obtain ⟨⟨t0, t1⟩, t2, t3⟩ := X0.out.below hb6
    have G6 := hide hG6
    have B6 := hide (below_next B0.out hb6)
    clear hG6 hb6
    go_wp2_with fail
    exact bodyPost_ret (v := .agg #[.int .i64 0, .slice av6 es.length cv6]) (by simp [results, Tryz.results23, go_sem, t0, t1]) rfl (ResE.of (w2 := W0) hb0 (Nat.le_refl _) rfl G6.out B6.out)
set_option maxRecDepth 100000 in
set_option maxHeartbeats 1600000 in
theorem implDiffTrees_any (a : Option Addr) (c n : Nat) (es : List En) (b : Option Addr) (d m : Nat) (fs : List En) (w : World) (h : RdE w a es) (hn : n = es.length) (hl : es.length ≤ 1048576) (hs : SmallE es) (h2 : RdE w b fs) (hm : m = fs.length) (hl2 : fs.length ≤ 1048576) (hs2 : SmallE fs) :
    Calls Tryz.prog 6 #[.slice a n c, .slice b m d] w (ResE (difCode es fs) (difList es fs) w) := by
  subst hn hm
  have X0 := hide (Box.new w (.int .i64 0) (.slice none 0 0) 28)
  have B0 := hide (below_alloc w (.cells #[.int .i64 0, .slice none 0 0] 28))
  have HR := hide h
  have HS := hide hs
  have HR2 := hide h2
  have HS2 := hide hs2
  clear h hs h2 hs2
  go_enter Tryz.func6, Tryz.ntmps6
  go_wp2_with fail
  refine (implTreeFault_any a c es.length es _ (HR.out.below B0.out) rfl hl HS.out).mono ?_
  rintro r w1 ⟨rfl, hb1⟩
  have B1 := hide (below_next B0.out hb1)
  have X1 := hide (X0.out.below hb1)
  have hb0 : w.heap.size < w1.heap.size := World.block_lt_of_cell? w1 ⟨w.heap.size, 0, none⟩ X1.out.1.1
  clear hb1 X0 B0
  by_cases hz : treFaultP es = 0
  · have HZ := hide hz
    rw [hz]
    clear hz
    go_wp2_with fail
    refine (implTreeFault_any b d fs.length fs _ (HR2.out.below B1.out) rfl hl2 HS2.out).mono ?_
    rintro r w2 ⟨rfl, hb2⟩
    have B2 := hide (below_next B1.out hb2)
    have X2 := hide (X1.out.below hb2)
    have hs12 := hb2.size
    clear hb2 X1
    by_cases hz2 : treFaultP fs = 0
    · have HZ2 := hide hz2
      have HRT := hide (rightT_P.1 HZ.out)
      have HRT2 := hide (rightT_P.1 hz2)
      have hll := HRT.out.len
      have hll2 := HRT2.out.len
      rw [hz2]
      clear hz2
      have HDS := hide (diff_fit HRT.out HRT2.out).small
      have hdl : (diffE es fs).length ≤ 1048576 := by
        rw [diff_length HRT.out HRT2.out]
        have h1 := diffU_len es fs
        have h3 := List.length_filter_le (homesF (diffU es fs)) fs
        unfold diffA
        rw [List.length_append, homesE_eq]
        omega
      have HCC := hide (show difCode es fs = (if 12 < (diffE es fs).length then 2 else 0) ∧ difList es fs = (if 12 < (diffE es fs).length then [] else diffE es fs) from by
        by_cases h12 : 12 < (diffE es fs).length
        · rw [if_pos h12, if_pos h12]; exact dif_many HZ.out HZ2.out h12
        · rw [if_neg h12, if_neg h12]; exact dif_ok HZ.out HZ2.out h12)
      go_wp2_with fail
      refine (treeOf_any a c es.length es _ (HR.out.below B2.out) rfl hl).mono ?_
      rintro r w3 ⟨av3, cv3, rfl, hL3, hb3⟩
      have RI3 := hide (hL3.rd hb3)
      have BX3 := hide hb3
      clear hL3 hb3
      go_wp2_with fail
      refine (treeOf_any b d fs.length fs _ (HR2.out.below (below_next B2.out BX3.out)) rfl hl2).mono ?_
      rintro r w4 ⟨av4, cv4, rfl, hL4, hb4⟩
      have RI4 := hide (hL4.rd hb4)
      have RI34 := hide (RI3.out.below hb4)
      have BX4 := hide (below_next BX3.out hb4)
      clear hL4 hb4
      go_wp2_with fail
      refine (turnedItems_any av3 cv3 es.length es av4 cv4 fs.length fs _ RI34.out rfl HRT.out RI4.out rfl HRT2.out).mono ?_
      rintro r w5 ⟨av5, cv5, rfl, hri5, hb5⟩
      have RI5 := hide hri5
      have BX5 := hide (below_next BX4.out hb5)
      clear hri5 hb5
      generalize diffE es fs = DE at *
      go_wp2_with fail
      refine (layerResult_any av5 cv5 DE.length DE _ RI5.out rfl hdl HDS.out).mono ?_
      rintro r w6 ⟨av6, cv6, rfl, hG6, hb6⟩
      have BX6 := hide (below_next BX5.out hb6)
      obtain ⟨⟨t0, t1⟩, t2, t3⟩ := X2.out.below BX6.out
      have G6 := hide hG6
      have hs5 := BX5.out.size
      have B6 := hide (below_next B2.out BX6.out)
      rw [← HCC.out.1, ← HCC.out.2]
      rw [← HCC.out.2] at G6
      generalize difCode es fs = DC at *
      generalize difList es fs = DL at *
      clear hG6 hb6 HCC
      go_wp2_with fail
      exact bodyPost_ret (v := .agg #[.int .i64 DC, .slice av6 DL.length cv6]) (by simp [results, Tryz.results6, go_sem, t0, t1]) rfl (ResE.of (w2 := w2) (by omega) (Nat.le_refl _) rfl G6.out B6.out)
    · have HCC := hide (dif_b HZ.out hz2)
      generalize treFaultP fs = F at *
      have hz3 : (F != 0) = true := by simp; exact hz2
      clear hz2
      obtain ⟨⟨t0, t1⟩, t2, t3⟩ := X2.out
      go_wp2_with fail
      exact bodyPost_ret (v := .agg #[.int .i64 F, .slice none 0 0]) (by simp [results, Tryz.results6, go_sem, t0, t1]) rfl (by rw [HCC.out.1, HCC.out.2]; exact ResE.bad (Nat.le_refl _) B2.out)
  · have HCC := hide (dif_a (b := fs) hz)
    generalize treFaultP es = F at *
    have hz3 : (F != 0) = true := by simp; exact hz
    clear hz
    obtain ⟨⟨t0, t1⟩, t2, t3⟩ := X1.out
    go_wp2_with fail
    exact bodyPost_ret (v := .agg #[.int .i64 F, .slice none 0 0]) (by simp [results, Tryz.results6, go_sem, t0, t1]) rfl (by rw [HCC.out.1, HCC.out.2]; exact ResE.bad (Nat.le_refl _) B1.out)
end Go.Proofs.YtjcjdedkedafbaaGreat
