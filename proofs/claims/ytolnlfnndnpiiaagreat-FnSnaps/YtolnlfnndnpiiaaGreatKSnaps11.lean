/-
  Texts put together: SeeP SeeN LayT IteR IteV SeeQ SeeR.
-/
import Derived.Test.YtolnlfnndnpiiaaGreatKSnaps10
import Derived.Test.YtolnlfnndnpiiaaGreatKSnaps6
import Derived.Shelf.SlIter.Collect
import Derived.Shelf.SlSortCmp.WholeK
import Derived.Shelf.Small.Bits
import Derived.Ground.SlsfProg
import Derived.Test.YtolnlfnndnpiiaaGreatProg
import Derived.Test.YtolnlfnndnpiiaaGreatKSnaps7
set_option linter.unusedVariables false
set_option maxHeartbeats 4000000
set_option maxRecDepth 100000
namespace Go.Proofs.YtolnlfnndnpiiaaGreat
open Go.RowKit Go.Maps Go.Shelf
def zf2:Option Code→Code × Code
 | some (.seq _ (.seq (.seq _ (.block _ (.rangeFunc _ _ a b))) _))=>(a,b)
 | _=>(.ret,.ret)
def lP (cs:Code × Code) (fn:FuncId) (sv:Value) (Bs D:Nat) (st:LoopState) (pend:Option Code):Loop :=
 { state:=st,pending:=pend,fn,tmps:=#[.slice none 0 0,sv,.pointer (some ⟨Bs,0,none⟩),undef,.slice none 0 0,undef,sv,undef,undef,undef,undef,undef,undef],params:=#[7],assign:=cs.1,body:=cs.2,defers:=D }
structure zi1 (cs:Code × Code) (w0:World) (fn:FuncId) (sv:Value) (Bs l D:Nat) (rs:List Rw) (W:World):Prop where
 box:∃ v,W.heap[Bs]?=some (.cells #[v] 115 (0,0))∧W.ownsRow w0.heap.size 88 4 v rs.length (fQ rs)∧(v=.slice none 0 0↔rs=[])
 L:W.heap[l]?=some (.loop (lP cs fn sv Bs D .ready none))
 K:W.heap[D]?=some (.deferred (some []))
 below:Below w0.heap.size w0 W
theorem zk1 (cs:Code × Code) (w0:World) (fn:FuncId) (sv:Value) (Bs l D B:Nat) (hB:w0.heap.size≤B):AbidesFrom B (zi1 cs w0 fn sv Bs l D):=fun s W W' row h hg hrow=>by
 have hrow':∀ r,row=some r→∃ o:Obj,W.heap[r]?=some o∧o.isWalk=true:=fun r e=>(hrow r e).2
 obtain ⟨v,hv,hr,hn⟩:=h.box;exact ⟨⟨v,(grownBy_keeps hg hrow' hv rfl).trans hv,ownsRow_abides_a hr hg hrow',hn⟩,(grownBy_keeps hg hrow' h.L rfl).trans h.L,(grownBy_keeps hg hrow' h.K rfl).trans h.K,
  h.below.grown hg h.below.size (fun k e=>Nat.le_trans hB (hrow k e).1)⟩
theorem zcj (cs:Code × Code) (hcs:cs=zf2 Tryz.f271.body) (F:Fence) (m:Nat) (w0:World) (fn:FuncId) (hfn:F.fn fn) (sv:Value) (Bs l D:Nat) (hBl:Bs≠l) (hDl:D≠l) (hDB:D≠Bs) (h0B:w0.heap.size≤Bs) (h0l:w0.heap.size≤l)
  (rs:List Rw) (r:Rw) (W:World) (h:zi1 cs w0 fn sv Bs l D rs W) (hlen:rs.length<1000) :
  YieldAt F m Tryz.prog l #[itV r.e r.a r.c] W fun e W'=>e=.returned (.bool true)∧zi1 cs w0 fn sv Bs l D (rs ++ [r]) W'∧KeepsWalks W W':=by
 have hne:115≠88:=by decide
 obtain ⟨i0,hi,hz0,hz1,hz2⟩:=info_parts Tryz.infoIt;have hlW:l<W.heap.size:=(Array.getElem?_eq_some_iff.1 h.L).1;refine ⟨fn,#[.slice none 0 0,sv,.pointer (some ⟨Bs,0,none⟩),undef,.slice none 0 0,undef,sv,itV r.e r.a r.c,undef,undef,undef,undef,undef],cs.1,cs.2,by simpa [lP] using run_yield (P:=Tryz.prog) (args:=#[itV r.e r.a r.c]) h.L rfl,roundIn_of_wpIn hfn ?_⟩
 have F0:=mI.new W (.int .i64 r.e.size) (.slice r.a r.e.chunks.length r.c) (.string (str r.e.path)) (.int .i64 r.e.kind) 88;have hA:=zk1 cs w0 fn sv Bs l D w0.heap.size (Nat.le_refl _) rs W (W.alloc (.cells #[.int .i64 r.e.size,.slice r.a r.e.chunks.length r.c,.string (str r.e.path),.int .i64 r.e.kind] 88)) none h (World.grownBy_alloc _ _ _) (fun j e=>by cases e)
 have hkA:KeepsWalks W (W.alloc (.cells #[.int .i64 r.e.size,.slice r.a r.e.chunks.length r.c,.string (str r.e.path),.int .i64 r.e.kind] 88)):=KeepsWalks.alloc _ _;have hsA:W.heap.size<(W.alloc (.cells #[.int .i64 r.e.size,.slice r.a r.e.chunks.length r.c,.string (str r.e.path),.int .i64 r.e.kind] 88)).heap.size:=by simp
 obtain ⟨v,hv,hrow,_⟩:=hA.box;have hl:l<(W.alloc (.cells #[.int .i64 r.e.size,.slice r.a r.e.chunks.length r.c,.string (str r.e.path),.int .i64 r.e.kind] 88)).heap.size:=(Array.getElem?_eq_some_iff.1 hA.L).1;have hbr:=run_beginRound (P:=Tryz.prog) hA.L rfl;have hcs2:=hcs;simp only[zf2,Tryz.f271]at hcs2;have hc1:=congrArg Prod.fst hcs2;have hc2':=congrArg Prod.snd hcs2;simp only at hc1 hc2';rw[hc1,hc2'];clear hcs hcs2 hc1 hc2';unfold itV;obtain ⟨WA,hWA⟩:∃ WA,W.alloc (.cells #[.int .i64 r.e.size,.slice r.a r.e.chunks.length r.c,.string (str r.e.path),.int .i64 r.e.kind] 88)=WA:=⟨_,rfl⟩;rw[hWA]at hbr F0 hA hkA hsA hrow hv hl
 obtain ⟨W2,hW2⟩:∃ W2,WA.putObj l (.loop { lP cs fn sv Bs D .ready none with state:=.busy })=W2:=⟨_,rfl⟩
 rw[hW2]at hbr;have hg2:WA.grownBy W2 (some l):=by rw[←hW2];exact grownBy_putObj_a _ _ _
 have hk2:KeepsWalks W W2:=hkA.trans (by rw[←hW2];exact KeepsWalks.putObj _ hA.L rfl)
 have hv2:W2.heap[Bs]?=some (.cells #[v] 115 (0,0)):=by rw[←hW2];exact (World.putObj_heap_other hBl).trans hv
 have hK2:W2.heap[D]?=some (.deferred (some [])):=by rw[←hW2];exact (World.putObj_heap_other hDl).trans hA.K
 have hL2:W2.heap[l]?=some (.loop { lP cs fn sv Bs D .ready none with state:=.busy }):=by rw[←hW2];exact World.putObj_heap_same hl
 have hrow2:W2.ownsRow w0.heap.size 88 4 v rs.length (fQ rs):=hrow.kept hg2 (ownsRow_ne_a hrow hA.L (fun cur e=>by first | cases e | exact hne (Obj.cells.inj e).2.1))
 have hb2:Below w0.heap.size w0 W2:=hA.below.grown hg2 hA.below.size (fun k e=>by cases e;exact h0l)
 have hblk:W2.heap[W.heap.size]?=WA.heap[W.heap.size]?:=hg2.block _ hsA (fun e=>by have:=Option.some.inj e;omega)
 obtain ⟨⟨g0,g1,g2,g3⟩,gf⟩:=F0;have f0:=(World.cell?_of_block (a:=⟨W.heap.size,0,none⟩) hblk).trans g0;have f1:=(World.cell?_of_block (a:=⟨W.heap.size,1,none⟩) hblk).trans g1;have f2:=(World.cell?_of_block (a:=⟨W.heap.size,2,none⟩) hblk).trans g2;have f3:=(World.cell?_of_block (a:=⟨W.heap.size,3,none⟩) hblk).trans g3;clear g0 g1 g2 g3 gf hblk;obtain ⟨hc2,hf2⟩:=cell_of_box_a hv2;have hBlt:Bs<W2.heap.size:=(Array.getElem?_eq_some_iff.1 hv2).1;have hl2:l<W2.heap.size:=(Array.getElem?_eq_some_iff.1 hL2).1;have hDlt:D<W2.heap.size:=(Array.getElem?_eq_some_iff.1 hK2).1;have ne_of:∀ {j:Nat} {o:Obj},W2.heap[j]?=some o→(∀ cur,o≠.cells cur 88 (0,0))→some j≠v.ownBlock:=fun hj hno=>by
  rcases ownsRow_ne_a hrow2 hj hno with e | e
  ·rw[e];simp
  ·exact fun e'=>e e'.symm
 clear hW2;have hNEWS:∀ j u,(bI r)[j]?=some u→(W2.alloc (.cells #[.int .i64 r.e.size,.slice r.a r.e.chunks.length r.c,.string (str r.e.path),.int .i64 r.e.kind] 88)).cell? ((⟨W2.heap.size,0,none⟩:Addr).add j)=some u:=fun j u hj=>by
  have hj4:j<4:=by have:=(List.getElem?_eq_some_iff.1 hj).1;exact this
  have:j=0∨j=1∨j=2∨j=3:=by omega
  rcases this with rfl | rfl | rfl | rfl <;> (simp[bI]at hj;subst hj;simp[Addr.add])
 gi_wp2_with (first
  | (
    gi_at_builtin;refine wpListIn_append_own _ rfl _ _ 115 rfl w0.heap.size 88 i0 (.agg #[.int .i64 0,.slice none 0 0,.string ⟨#[]⟩,.int .i64 0]) 4 56 Tryz.underlying115 hi hz0 hz1 hz2 rfl (by decide) _ _ _ rfl (hrow2.alloc _) ⟨W2.heap.size,0,none⟩ 1 1 (bI r) rfl rfl hNEWS (by intro u hu;exact nG [r] u (by simpa [fQ] using hu)) (by unfold maxLen;omega) (by omega) (by have:=hb2.size;simp;omega) ?_;intro v' w3 hown' hg3 hnil3
    have hv3:w3.heap[Bs]?=some (.cells #[v] 115 (0,0)):=(hg3.block Bs (by simp;omega) (ne_of hv2 (fun cur e=>by first | cases e | exact hne (Obj.cells.inj e).2.1))).trans ((Below.heap_alloc _ _ Bs hBlt).trans hv2)
    obtain ⟨hc3,hf3⟩:=cell_of_box_a hv3;obtain ⟨g',cap',cur',rfl,hbase',hgb',hr1,hr2,hr3,hr4⟩:∃ g' cap' cur',v'=.slice (some ⟨g',0,none⟩) (rs.length+1) cap'∧w0.heap.size≤g'∧w3.heap[g']?=some (.cells cur' 88 (0,0))∧rs.length+1≤cap'∧cap'≤maxLen∧cur'.size=cap' * 4∧cur'.toList.take ((rs.length+1) * 4)=fQ rs++bI r:=by
     rcases hown'.2 with ⟨_,h0⟩ | h'
     ·exact absurd h0 (by omega)
     ·exact h'
    go_frame)
  | gi_round_op_a)
 have hg3':(W2.alloc (.cells #[.int .i64 r.e.size,.slice r.a r.e.chunks.length r.c,.string (str r.e.path),.int .i64 r.e.kind] 88)).grownBy w3 v.ownBlock:=hg3;have hL3:w3.heap[l]?=some (.loop { lP cs fn sv Bs D .ready none with state:=.busy }):=(hg3'.block l (by simp;omega) (ne_of hL2 (fun cur e=>by first | cases e | exact hne (Obj.cells.inj e).2.1))).trans ((Below.heap_alloc _ _ l hl2).trans hL2)
 have hK3:w3.heap[D]?=some (.deferred (some [])):=(hg3'.block D (by simp;omega) (ne_of hK2 (fun cur e=>by first | cases e | exact hne (Obj.cells.inj e).2.1))).trans ((Below.heap_alloc _ _ D hDlt).trans hK2)
 obtain ⟨w4,hw4⟩:∃ w4,w3.setCell ⟨Bs,0,none⟩ (.slice (some ⟨g',0,none⟩) (rs.length+1) cap')=w4:=⟨_,rfl⟩;rw[hw4];have hg4:w3.grownBy w4 (some Bs):=by rw[←hw4];exact grownBy_setCell0_a _ _ _
 have hv4:w4.heap[Bs]?=some (.cells #[.slice (some ⟨g',0,none⟩) (rs.length+1) cap'] 115 (0,0)):=by rw[←hw4];exact heap_setCell_box_a _ hv3
 have hL4:w4.heap[l]?=some (.loop { lP cs fn sv Bs D .ready none with state:=.busy }):=(hg4.block l (Array.getElem?_eq_some_iff.1 hL3).1 (fun e=>hBl (by cases e;rfl))).trans hL3
 have hK4:w4.heap[D]?=some (.deferred (some [])):=(hg4.block D (Array.getElem?_eq_some_iff.1 hK3).1 (fun e=>hDB (by cases e;rfl))).trans hK3
 have hrow4:=hown'.kept hg4 (ownsRow_ne_a hown' hv3 (fun cur e=>by first | cases e | exact hne (Obj.cells.inj e).2.1))
 have hl4:l<w4.heap.size:=(Array.getElem?_eq_some_iff.1 hL4).1;have hb3:Below w0.heap.size w0 w3:=(hb2.alloc hb2.size _).grown hg3' (by have:=hb2.size;simp;omega) (fun k e=>(hrow2.lt k e).1)
 have hb4:Below w0.heap.size w0 w4:=hb3.grown hg4 hb3.size (fun k e=>by cases e;exact h0B)
 have hk4:KeepsWalks W w4:=((hk2.trans (KeepsWalks.alloc _ _)).trans (KeepsWalks.of_grownBy hg3' (ownsRow_not_walk_a (hrow2.alloc _)))).trans (by rw[←hw4];exact KeepsWalks.setCell _ _ _)
 clear hw4;refine ⟨_,_,run_endRound none hL4,rfl,⟨⟨_,(World.putObj_heap_other hBl).trans hv4,?_,by simp⟩,World.putObj_heap_same hl4,(World.putObj_heap_other hDl).trans hK4,hb4.grown (grownBy_putObj_a _ _ _) hb4.size (fun k e=>by cases e;exact h0l)⟩,hk4.trans (KeepsWalks.putObj _ hL4 rfl)⟩
 have:=hrow4.kept (grownBy_putObj_a w4 l (.loop { { lP cs fn sv Bs D .ready none with state:=.busy } with state:=if (none:Option Code).isNone then .ready else .done,pending:=none })) (ownsRow_ne_a hrow4 hL4 (fun cur e=>by first | cases e | exact hne (Obj.cells.inj e).2.1))
 simpa [tK,fQ] using this
end Go.Proofs.YtolnlfnndnpiiaaGreat
namespace Go.Proofs.YtolnlfnndnpiiaaGreat
open Go.RowKit Go.Maps
attribute [local go_sem ↓] Go.wp_at_zero Go.wp_at_succ
theorem uQ {w w1 w2:World} {b B:Nat} (h1:Below B w w1) (h2:aD (fun x=>x=b) w1 w2) (hB:B≤w1.heap.size) (hb:B≤b):Below B w w2 :=
 ⟨h2.os.trans h1.os,h2.tape.trans h1.tape,h2.output.trans h1.output,Nat.le_trans h1.size h2.size,fun k hk=>(h2.block k (by omega) (by omega)).trans (h1.block k hk)⟩
def yK (S:Nat→Bs→Option En) (i:Nat) (p:Bs):Option En:=if nX S i p then none else S i p
theorem zkl (b N:Nat) (S:Nat→Bs→Option En) (w0 w:World) (h:eL w0 w b N S) :
  Calls Tryz.prog 197 #[.map (some b)] w fun r w'=>∃ b2,r=.returned (.map (some b2))∧w.heap.size≤b2∧eL w0 w' b2 N (yK S)∧Below w.heap.size w w':=by
 have B0:=aA (aC w (.cells #[.map (some b)] 167));have hx0:(w.alloc (.cells #[.map (some b)] 167)).cell? ⟨w.heap.size,0,none⟩=some (.map (some b)):=by simp
 have hs0:(w.alloc (.cells #[.map (some b)] 167)).heap.size=w.heap.size+1:=by simp
 have HM0:=aA (h.below B0.out);have hlt:=h.lt;clear h;go_enter Tryz.func197,Tryz.ntmps197;go_wp2_with fail
 generalize w.alloc (.cells #[.map (some b)] 167)=W0 at *;refine (zt6 b N S w0 W0 HM0.out).mono ?_;rintro r w1 ⟨rfl,hM1,hb1⟩;rw[hs0]at hM1;have M1:=aA hM1;have MO:=aA (HM0.out.below hb1);have hx1:=(hb1.cell (p:=⟨w.heap.size,0,none⟩) (by show w.heap.size<W0.heap.size;omega)).trans hx0
 have B1:=aA (aB B0.out hb1);have hsz:=hb1.size;have hb2lt:=hM1.lt;clear hM1 hb1 HM0 hx0;have HA:=aA (show zsl w1 (w.heap.size+1) S 235 #[.pointer (some ⟨w.heap.size,0,none⟩)] (nX S) from
  ⟨enters_of Tryz.func235 (by kernel_rfl) rfl,fun i p e x cc W hi hp hk =>
   zpb b N i w.heap.size p S e x cc w0 W (MO.out.kept hk (by omega)) hp ((hk.cell (p:=⟨w.heap.size,0,none⟩) (by show w.heap.size<w1.heap.size;omega) (by show ¬ w.heap.size=w.heap.size+1;omega)).trans hx1)⟩)
 have HD:=aA (zb3 (w.heap.size+1) N S _ _ (nX S) w0 w1 M1.out HA.out);go_wp2_with fail
 refine HD.out.mono ?_;rintro r w2 ⟨rfl,hM2,hk2⟩;have M2:=aA hM2;have B2:=aA (uQ B1.out hk2 (by omega) (by omega))
 clear hM2 hk2 HD HA M1 MO;go_wp2_with fail
 go_ret
 exact ⟨_,rfl,by omega,M2.out,B2.out⟩
end Go.Proofs.YtolnlfnndnpiiaaGreat
namespace Go.Proofs.YtolnlfnndnpiiaaGreat
open Go.RowKit Go.Sort Go.Shelf
def Tryz.pdqT_ren:Go.Shelf.Ren:=⟨fun | 14=>252 | 20=>262 | 21=>263 | 22=>264 | 23=>265 | 24=>266 | 25=>267 | 26=>268 | 27=>269 | 46=>272 | 47=>244 | 48=>245 | 49=>273 | 50=>274 | 15=>157 | 57=>279 | 28=>211 | 29=>212 | n=>n,fun | 24=>88 | 22=>115 | 3=>3 | 25=>228 | 4=>4 | 0=>0 | 46=>211 | 45=>210 | 50=>215 | 66=>241 | 39=>175 | 55=>220 | 70=>245 | 76=>253 | 77=>254 | 53=>218 | 5=>5 | 9=>9 | n=>n,fun | n=>n⟩
theorem Tryz.pdqT:Go.Proofs.SlLaysF0.n14 Tryz.prog Tryz.pdqT_ren:={
 mixed:=by kernel_rfl
 f14:=⟨Tryz.f252.name,by decide,Tryz.func252.trans (congrArg some (by kernel_rfl))⟩
 f15:=Tryz.func157.trans (congrArg some (by kernel_rfl))
 f20:=⟨Tryz.f262.name,by decide,Tryz.func262.trans (congrArg some (by kernel_rfl))⟩
 f21:=⟨Tryz.f263.name,by decide,Tryz.func263.trans (congrArg some (by kernel_rfl))⟩
 f22:=⟨Tryz.f264.name,by decide,Tryz.func264.trans (congrArg some (by kernel_rfl))⟩
 f23:=⟨Tryz.f265.name,by decide,Tryz.func265.trans (congrArg some (by kernel_rfl))⟩
 f24:=⟨Tryz.f266.name,by decide,Tryz.func266.trans (congrArg some (by kernel_rfl))⟩
 f25:=⟨Tryz.f267.name,by decide,Tryz.func267.trans (congrArg some (by kernel_rfl))⟩
 f26:=⟨Tryz.f268.name,by decide,Tryz.func268.trans (congrArg some (by kernel_rfl))⟩
 f27:=⟨Tryz.f269.name,by decide,Tryz.func269.trans (congrArg some (by kernel_rfl))⟩
 f28:=Tryz.func211.trans (congrArg some (by kernel_rfl))
 f29:=Tryz.func212.trans (congrArg some (by kernel_rfl))
 f46:=⟨Tryz.f272.name,by decide,Tryz.func272.trans (congrArg some (by kernel_rfl))⟩
 f47:=Tryz.func244.trans (congrArg some (by kernel_rfl))
 f48:=Tryz.func245.trans (congrArg some (by kernel_rfl))
 f49:=⟨Tryz.f273.name,by decide,Tryz.func273.trans (congrArg some (by kernel_rfl))⟩
 f50:=⟨Tryz.f274.name,by decide,Tryz.func274.trans (congrArg some (by kernel_rfl))⟩
 f57:=⟨Tryz.f279.name,by decide,Tryz.func279.trans (congrArg some (by kernel_rfl))⟩
 t0:=Tryz.underlying0
 a0:=Tryz.isAgg0
 z0:=Tryz.sizeOf0
 v0:=Tryz.zeroValue0
 t3:=Tryz.underlying3
 a3:=Tryz.isAgg3
 z3:=Tryz.sizeOf3
 v3:=Tryz.zeroValue3
 t4:=Tryz.underlying4
 a4:=Tryz.isAgg4
 z4:=Tryz.sizeOf4
 v4:=Tryz.zeroValue4
 t5:=Tryz.underlying5
 a5:=Tryz.isAgg5
 z5:=Tryz.sizeOf5
 v5:=Tryz.zeroValue5
 t9:=Tryz.underlying9
 a9:=Tryz.isAgg9
 z9:=Tryz.sizeOf9
 v9:=Tryz.zeroValue9
 t22:=Tryz.underlying115
 a22:=Tryz.isAgg115
 z22:=Tryz.sizeOf115
 v22:=Tryz.zeroValue115
 t25:=Tryz.underlying228
 a25:=Tryz.isAgg228
 z25:=Tryz.sizeOf228
 v25:=Tryz.zeroValue228
 t39:=Tryz.underlying175
 a39:=Tryz.isAgg175
 z39:=Tryz.sizeOf175
 v39:=Tryz.zeroValue175
 t45:=Tryz.underlying210
 a45:=Tryz.isAgg210
 z45:=Tryz.sizeOf210
 v45:=Tryz.zeroValue210
 t46:=Tryz.underlying211
 a46:=Tryz.isAgg211
 z46:=Tryz.sizeOf211
 v46:=Tryz.zeroValue211
 t50:=Tryz.underlying215
 a50:=Tryz.isAgg215
 z50:=Tryz.sizeOf215
 v50:=Tryz.zeroValue215
 t53:=Tryz.underlying218
 a53:=Tryz.isAgg218
 z53:=Tryz.sizeOf218
 v53:=Tryz.zeroValue218
 t55:=Tryz.underlying220
 a55:=Tryz.isAgg220
 z55:=Tryz.sizeOf220
 v55:=Tryz.zeroValue220
 t66:=Tryz.underlying241
 a66:=Tryz.isAgg241
 z66:=Tryz.sizeOf241
 v66:=Tryz.zeroValue241
 t70:=Tryz.underlying245
 a70:=Tryz.isAgg245
 z70:=Tryz.sizeOf245
 v70:=Tryz.zeroValue245
 t76:=Tryz.underlying253
 a76:=Tryz.isAgg253
 z76:=Tryz.sizeOf253
 v76:=Tryz.zeroValue253
 t77:=Tryz.underlying254
 a77:=Tryz.isAgg254
 z77:=Tryz.sizeOf254
 v77:=Tryz.zeroValue254 }
def Tryz.lenT_ren:Go.Shelf.Ren:=⟨fun | 125=>157 | 128=>211 | 129=>212 | n=>n,fun | 46=>175 | 3=>3 | 51=>218 | 53=>220 | 4=>4 | 5=>5 | 9=>9 | n=>n,fun | n=>n⟩
theorem Tryz.lenT:Go.Proofs.Lays.n125 Tryz.prog Tryz.lenT_ren:={
 mixed:=by kernel_rfl
 f125:=Tryz.func157.trans (congrArg some (by kernel_rfl))
 f128:=Tryz.func211.trans (congrArg some (by kernel_rfl))
 f129:=Tryz.func212.trans (congrArg some (by kernel_rfl))
 t3:=Tryz.underlying3
 a3:=Tryz.isAgg3
 z3:=Tryz.sizeOf3
 v3:=Tryz.zeroValue3
 t4:=Tryz.underlying4
 a4:=Tryz.isAgg4
 z4:=Tryz.sizeOf4
 v4:=Tryz.zeroValue4
 t5:=Tryz.underlying5
 a5:=Tryz.isAgg5
 z5:=Tryz.sizeOf5
 v5:=Tryz.zeroValue5
 t9:=Tryz.underlying9
 a9:=Tryz.isAgg9
 z9:=Tryz.sizeOf9
 v9:=Tryz.zeroValue9
 t46:=Tryz.underlying175
 a46:=Tryz.isAgg175
 z46:=Tryz.sizeOf175
 v46:=Tryz.zeroValue175
 t51:=Tryz.underlying218
 a51:=Tryz.isAgg218
 z51:=Tryz.sizeOf218
 v51:=Tryz.zeroValue218
 t53:=Tryz.underlying220
 a53:=Tryz.isAgg220
 z53:=Tryz.sizeOf220
 v53:=Tryz.zeroValue220 }
end Go.Proofs.YtolnlfnndnpiiaaGreat
namespace Go.Proofs.YtolnlfnndnpiiaaGreat
open Go.RowKit Go.Sort
def gJ (a b:Bs):Int:=if Op.bytesLess a b then -1 else if Op.bytesLess b a then 1 else 0
theorem qZ (a b:Bs):decide (gJ a b<0)=Op.bytesLess a b:=by
 unfold gJ;cases h:Op.bytesLess a b
 ·cases h2:Op.bytesLess b a <;> rfl
 ·rfl
theorem wW (s:ByteArray) (w:World):Calls Tryz.prog 158 #[.string s] w fun e w'=>e=.returned (.bool false)∧w'=w:=by
 go_enter Tryz.func158,Tryz.ntmps158;go_wp2
 go_ret
 exact ⟨by simp,rfl⟩
theorem zI (p q:Bs) (w:World):Calls Tryz.prog 115 #[.string (str p),.string (str q)] w fun e w'=>e=.returned (.int .i64 (gJ p q))∧w'=w:=by
 obtain ⟨F,hF⟩:∃ F:Int,F=gJ p q:=⟨_,rfl⟩;rw[←hF];cases h1:Op.bytesLess (str p).toList (str q).toList
 ·by_cases hpq:p=q
  ·have hs1:=gS hpq
   have HE:=aA (show F=0 from by rw[hF,gJ,hpq,gC];rfl)
   clear hF hpq;go_enter Tryz.func115,Tryz.ntmps115;go_wp2_with (go_at_call 158;refine (wW _ _).mono ?_;rintro e w' ⟨rfl,rfl⟩)
   go_ret
   exact ⟨aO HE.out.symm,rfl⟩
  ·have hs1:=jA hpq
   have HE:=aA (show F=1 from by
    rw[aN,aN]at h1;rw[hF,gJ,h1,fR _ _ h1 hpq];rfl)
   clear hF hpq;go_enter Tryz.func115,Tryz.ntmps115;go_wp2_with (go_at_call 158;refine (wW _ _).mono ?_;rintro e w' ⟨rfl,rfl⟩)
   go_ret
   exact ⟨aO HE.out.symm,rfl⟩
 ·have HE:=aA (show F = -1 from by rw[hF,gJ];rw[aN,aN]at h1;rw[h1];rfl)
  clear hF;go_enter Tryz.func115,Tryz.ntmps115;go_wp2_with (go_at_call 158;refine (wW _ _).mono ?_;rintro e w' ⟨rfl,rfl⟩)
  go_ret
  exact ⟨aO HE.out.symm,rfl⟩
theorem tL (x y:Rw) (W:World):Calls Tryz.prog 225 #[.agg (bI x).toArray,.agg (bI y).toArray] W fun e w'=>e=.returned (.int .i64 (gJ x.e.path y.e.path))∧∃ q os',w'=grow (W.drewN q) os':=by
 have hcon:=fun W'=>zI x.e.path y.e.path W'
 generalize gJ x.e.path y.e.path=r at hcon ⊢;show Calls Tryz.prog 225 #[.agg #[.int .i64 x.e.size,.slice x.a x.e.chunks.length x.c,.string (str x.e.path),.int .i64 x.e.kind],.agg #[.int .i64 y.e.size,.slice y.a y.e.chunks.length y.c,.string (str y.e.path),.int .i64 y.e.kind]] W _
 go_enter Tryz.func225,Tryz.ntmps225;go_wp2_with (go_at_call 115;refine (hcon _).mono ?_;rintro e w' ⟨rfl,rfl⟩)
 go_ret
 exact ⟨rfl,0,_,by rw[alloc_eq_grow,alloc_eq_grow,grow_grow];rfl⟩
theorem pK:∀ {l1 l2:List Rw},l1.Perm l2→l1.Pairwise (fun x y=>Op.bytesLess x.e.path y.e.path=true)→l2.Pairwise (fun x y=>Op.bytesLess x.e.path y.e.path=true)→l1=l2
 | [],l2,hp,_,_=>hp.symm.eq_nil.symm
 | a :: l1,[],hp,_,_=>by have:=hp.length_eq;simp at this
 | a :: l1,b :: l2,hp,h1,h2=>by
  have p1:=List.pairwise_cons.1 h1;have p2:=List.pairwise_cons.1 h2;have hab:a=b:=by
   have ha:a∈b :: l2:=hp.subset List.mem_cons_self;have hb:b∈a :: l1:=hp.symm.subset List.mem_cons_self;rcases List.mem_cons.1 ha with h | ha
   ·exact h
   ·rcases List.mem_cons.1 hb with h | hb
    ·exact h.symm
    ·have q1:=p2.1 a ha
     have q2:=p1.1 b hb;rw[iB q1]at q2;cases q2
  subst hab;rw[pK (List.Perm.cons_inv hp) p1.2 p2.2]
theorem rW:SWO (ltOf fun x y:Rw=>gJ x.e.path y.e.path):=by
 have e:∀ x y:Rw,ltOf (fun x y:Rw=>gJ x.e.path y.e.path) x y=Op.bytesLess x.e.path y.e.path:=fun x y=>qZ _ _
 refine ⟨fun x=>by rw[e,gC],fun x y z=>by rw[e,e,e];exact gI _ _ _,fun x y z=>?_⟩
 rw[e,e,e];intro h1 h2;cases h3:Op.bytesLess x.e.path z.e.path
 ·rfl
 ·by_cases h4:y.e.path=z.e.path
  ·rw[h4]at h1;rw[h1]at h3;cases h3
  ·have:=gI _ _ _ h3 (fR _ _ h2 h4)
   rw[h1]at this;cases this
end Go.Proofs.YtolnlfnndnpiiaaGreat
namespace Go.Proofs.YtolnlfnndnpiiaaGreat
open Go.RowKit Go.Sort Go.Shelf
theorem ze6 (B g n c:Nat) (rs ss:List Rw) (w:World) (h:w.ownsRow B 88 4 (.slice (some ⟨g,0,none⟩) n c) n (fQ rs)) (hn:n=rs.length) (h12:n≤1048577) (hp:ss.Perm rs) (hs:ss.Pairwise (fun x y=>Op.bytesLess x.e.path y.e.path=true)) :
  Calls Tryz.prog 232 #[.slice (some ⟨g,0,none⟩) n c,.func (.func 225) #[] #[]] w fun e w'=>e=.returned (.tuple #[])∧(∀ i q r,ss[i]?=some r→q<4→w'.cell? ⟨g,i * 4+q,none⟩=(bI r)[q]?)∧aD (fun b=>b=g) w w':=by
 subst hn;haveI:Inhabited Rw:=⟨⟨⟨[],0,0,[]⟩,none,0⟩⟩;have hg:=(h.lt g rfl).2;have hH:HoldsK bI 4 w g 0 rs.toArray:=by
  intro j hj;rw[size_flatK]at hj;have hj4:j<rs.length * 4:=by simpa using hj
  have h1:j / 4<rs.length:=by omega
  obtain ⟨r,hr⟩:∃ r,rs[j / 4]?=some r:=⟨_,List.getElem?_eq_getElem h1⟩;have hc:=(h.cellAt (j / 4 * 4+j % 4) (by omega)).trans (rT rs (j / 4) (j % 4) _ hr (by omega))
  rw[show j / 4 * 4+j % 4=j by omega]at hc
  refine ⟨?_,h.frozenAt _⟩;rw[Nat.zero_add,hc,get_flatK _ _ _ _ hj];have e1:rs.toArray[j / 4]! = r:=by
   have:=List.getElem?_eq_some_iff.1 hr;simp[h1,this.2]
  rw[e1];have hl:j % 4<(bI r).length:=by show j % 4<4;omega
  simp only[id];rw[List.getElem?_eq_getElem hl,getElem!_pos (bI r) (j % 4) hl]
 have eg:∀ args w,(callFunc 225 args).run Tryz.prog w=.ok (.enter 225 args) w:=enters_of Tryz.func225 (by kernel_rfl) rfl
 have hsz:rs.toArray.size<4611686018427387904:=by have h2:=h12;simpa using (by omega:rs.length<4611686018427387904)
 have hlim:Lib.bitLen rs.length<4611686018427387904:=Nat.lt_of_le_of_lt (Lib.bitLen_le rs.length 62 (by omega) (by omega)) (by omega)
 have hpd:=AnyQ.pdqsortCmpFunc_all Tryz.pdqT 4 Tryz.isAgg88 Tryz.sizeOf88 bI (fun x y=>gJ x.e.path y.e.path) 225 #[] rW g 0 c rs.toArray w eg (fun _ _ _ _ x y=>tL x y _) ⟨fun _=>rfl,fun x v hv=>nG [x] v (by simpa [fQ] using hv),hH,hg⟩ (rs.toArray.size+1) 0 rs.toArray.size (Lib.bitLen rs.length) rs.toArray w (by omega) rfl (SWK.start hH) (Nat.zero_le _) (Nat.le_refl _) hsz hlim (Or.inl rfl)
 have hps:=pdq_sorts (ltOf fun x y:Rw=>gJ x.e.path y.e.path) rW rs.toArray 0 rs.toArray.size (Lib.bitLen rs.length) true true (Nat.zero_le _) (Nat.le_refl _) (Or.inl rfl)
 have hcon:Calls Tryz.prog 232 #[.slice (some ⟨g,0,none⟩) rs.length c,.func (.func 225) #[] #[]] w fun e w'=>e=.returned (.tuple #[])∧∃ d' n os,PermIn 0 rs.toArray.size rs.toArray d'∧SortedIn (ltOf fun x y:Rw=>gJ x.e.path y.e.path) 0 rs.toArray.size d'∧w'=sortWorldK bI 4 w g 0 n d' os:=by
  have HP:Hid (Calls Tryz.prog 252 #[.slice (some ⟨g,0,none⟩) rs.length c,.int .i64 0,.int .i64 rs.length,.int .i64 (Lib.bitLen rs.length:Nat),.func (.func 225) #[] #[]] w fun e w'=>e=.returned (.tuple #[])∧∃ d' n os,PermIn 0 rs.toArray.size rs.toArray d'∧SortedIn (ltOf fun x y:Rw=>gJ x.e.path y.e.path) 0 rs.toArray.size d'∧w'=sortWorldK bI 4 w g 0 n d' os):=aA (by
   have h2:=hpd;simp only[List.size_toArray]at h2;refine (show Calls Tryz.prog 252 _ w _ from h2).mono ?_
   rintro e w' ⟨he,n,os,hw⟩;exact ⟨he,_,n,os,by simpa using hps.1,by simpa using hps.2,hw⟩)
  have HL:Hid (Calls Tryz.prog 157 #[.int .u64 (rs.length:Int)] w fun e w'=>e=.returned (.int .i64 (Lib.bitLen rs.length:Nat))∧w'=w):=aA (by
   have h3:=Any.bits_Len Tryz.lenT (rs.length:Int) w (by omega) (by omega)
   rw[Int.toNat_natCast]at h3;exact h3)
  have wr:IntKind.u64.wrap (rs.length:Int)=rs.length:=by simp[IntKind.wrap,IntKind.bits,IntKind.signed];omega
  clear hpd hps hH hlim hsz;go_enter Tryz.func232,Tryz.ntmps232;go_wp2_with fail
  refine HL.out.mono ?_;rintro e w ⟨rfl,rfl⟩;go_wp2_with fail
  refine HP.out.mono ?_;rintro e w' ⟨rfl,hrest⟩;have HRS:=aA hrest;clear hrest;go_wp2_with fail
  first | go_end0 | skip
  exact ⟨rfl,HRS.out⟩
 refine (show Calls Tryz.prog 232 #[.slice (some ⟨g,0,none⟩) rs.length c,.func (.func 225) #[] #[]] w _ from hcon).mono ?_
 rintro e w' ⟨he,d',m,os,hperm,hsort,rfl⟩;obtain ⟨hsz,_,hpm⟩:=hperm;have hsz':d'.size=rs.length:=by simpa using hsz
 have hpm':d'.toList.Perm rs:=by
  have e1:(d'.extract 0 rs.toArray.size).toList=d'.toList:=by simp[←hsz']
  have e2:(rs.toArray.extract 0 rs.toArray.size).toList=rs:=by simp
  rw[e1,e2]at hpm;exact hpm
 have hnd:ss.Pairwise (fun x y=>x.e.path≠y.e.path):=hs.imp (fun h=>jL h)
 have hnd':d'.toList.Pairwise (fun x y=>x.e.path≠y.e.path):=(hpm'.trans hp.symm).symm.pairwise hnd (fun h=>h.symm)
 have hd:d'.toList=ss:=by
  refine pK (hpm'.trans hp.symm) ?_ hs;rw[List.pairwise_iff_getElem];intro i j hi hj hij;have hne:=List.pairwise_iff_getElem.1 hnd' i j hi hj hij;have hlt:=hsort i j (Nat.zero_le _) hij (by simpa [←hsz'] using hj)
  have e1:ltOf (fun x y:Rw=>gJ x.e.path y.e.path) d'[j]! d'[i]! = Op.bytesLess d'[j]!.e.path d'[i]!.e.path:=qZ _ _
  rw[e1]at hlt;have hi':i<d'.size:=by simpa using hi
  have hj':j<d'.size:=by simpa using hj
  rw[getElem!_pos d' i hi',getElem!_pos d' j hj']at hlt;simp only[Array.getElem_toList]at hne ⊢;exact fR _ _ hlt (fun x=>hne x.symm)
 have hK:=holdsK_sortWorldK_c bI 4 w g 0 rs.toArray d' m os hH hg (by simpa using hsz')
 refine ⟨he,fun i q r hi hq=>?_,?_⟩
 ·rw[←hd]at hi
  have hi':i<d'.size:=by have:=(List.getElem?_eq_some_iff.1 hi).1;simpa using this
  have:=(hK.cell (i:=i) (c:=q) hi' hq).1;rw[Nat.zero_add]at this;rw[this];have e1:d'[i]! = r:=by
   rw[getElem!_pos d' i hi'];have:=(List.getElem?_eq_some_iff.1 hi).2;simpa using this
  rw[e1];have hl:q<(bI r).length:=hq;rw[List.getElem?_eq_getElem hl,getElem!_pos (bI r) q hl]
 ·refine ⟨rfl,rfl,rfl,?_,fun k hk hn=>?_⟩
  ·show w.heap.size≤((w.heap.modify g _)++os).size
   simp
  ·show ((w.heap.modify g _)++os)[k]?=w.heap[k]?
   rw[Array.getElem?_append_left (by simpa using hk),Array.getElem?_modify]
   have:¬ g=k:=fun e=>hn e.symm
   simp[this]
end Go.Proofs.YtolnlfnndnpiiaaGreat
namespace Go.Proofs.YtolnlfnndnpiiaaGreat
open Go.RowKit Go.Maps Go.Shelf
theorem zn5 (F:Fence) (n:Nat) (h11:F.fn 271) (hro:F.round=none) (hn:2≤n) (hFg:F.fn 257) (Bm b N:Nat) (S:Nat→Bs→Option En) (w0 w:World) (hBm:Bm<w.heap.size) (hm:w.cell? ⟨Bm,0,none⟩=some (.map (some b))) (hS:eL w0 w b N S) (hN:N≤1000) :
  CallsIn F n Tryz.prog 271 #[.slice none 0 0,.func (.func 257) #[] #[.pointer (some ⟨Bm,0,none⟩)]] w fun e w'=>∃ (v:Value) (ss:List ((Nat × Bs) × Rw)),e=.returned v∧ss.length≤N∧nN w0 S (fun _=>false) ss∧w'.ownsRow w.heap.size 88 4 v (ss.map Prod.snd).length (fQ (ss.map Prod.snd))∧(v=.slice none 0 0↔ss.map Prod.snd=[])∧Below w.heap.size w w':=by
 have h1:1≤n:=by omega
 have hne:115≠88:=by decide
 have eg:∀ args w,(callFunc 257 args).run Tryz.prog w=.ok (.enter 257 args) w:=enters_of Tryz.func257 (by kernel_rfl) rfl
 obtain ⟨cs,hcs⟩:∃ cs,cs=zf2 Tryz.f271.body:=⟨_,rfl⟩;refine callsIn_of_wp_marks Tryz.func271 rfl h11 ?_ hro;simp only[Tryz.ntmps271,List.size_toArray,List.length_cons,List.length_nil,Nat.reduceAdd,Nat.reduceSub,Array.replicate_succ,Array.replicate_zero,List.push_toArray,List.append_toArray,List.nil_append,List.cons_append];gi_wp2
 refine wpIn_rangeFunc ?_;intro fn hfn;rw[hro];have hcs2:=hcs;simp only[zf2,Tryz.f271]at hcs2;have hc1:=congrArg Prod.fst hcs2;have hc2':=congrArg Prod.snd hcs2;simp only at hc1 hc2';rw[←hc1,←hc2'];clear hcs2 hc1 hc2';obtain ⟨W0,hW0⟩:∃ W0,w.alloc (.cells #[.slice none 0 0] 115)=W0:=⟨_,rfl⟩;have hs0:W0.heap.size=w.heap.size+1:=by rw[←hW0];simp
 have hv0:W0.heap[w.heap.size]?=some (.cells #[.slice none 0 0] 115 (0,0)):=by rw[←hW0];exact World.alloc_heap_new w _
 have hb0:Below w.heap.size w W0:=by rw[←hW0];exact (Below.refl _ w).alloc (Nat.le_refl _) _
 rw[hW0];obtain ⟨sv,hsv⟩:∃ sv,(Value.func (.func 257) #[] #[.pointer (some ⟨Bm,0,none⟩)])=sv:=⟨_,rfl⟩;obtain ⟨W1,hW1⟩:∃ W1,(W0.alloc (.deferred (some []))).alloc (.loop (lP cs fn sv w.heap.size W0.heap.size .ready none))=W1:=⟨_,rfl⟩;have hold:∀ k,k<W0.heap.size→W1.heap[k]?=W0.heap[k]?:=fun k hk=>by
  rw[←hW1];exact (Below.heap_alloc _ _ k (by simp;omega)).trans (Below.heap_alloc _ _ k hk)
 have hb1:Below w.heap.size w W1:=by rw[←hW1];exact (hb0.alloc hb0.size _).alloc (by have:=hb0.size;simp;omega) _
 have hs1:W1.heap.size=W0.heap.size+2:=by rw[←hW1];simp
 have hM:zi1 cs w fn sv w.heap.size (W0.heap.size+1) W0.heap.size [] W1 :=
  ⟨⟨_,(hold w.heap.size (by omega)).trans hv0,⟨rfl,.inl ⟨rfl,rfl⟩⟩,by simp⟩,
   by rw[←hW1];have:=World.alloc_heap_new (W0.alloc (.deferred (some []))) (.loop (lP cs fn sv w.heap.size W0.heap.size .ready none));rwa [World.size_alloc]at this,
   by rw[←hW1];exact (Below.heap_alloc _ _ _ (by simp)).trans (World.alloc_heap_new W0 _),hb1⟩
 refine ⟨W0.heap.size+1,[{ target:=.collected W0.heap.size,args:=#[] }],W1,{ target:=.fn (.func 257) #[.pointer (some ⟨Bm,0,none⟩)],args:=#[.func (.yield (W0.heap.size+1)) #[] #[]] },W1,257,
  #[.func (.yield (W0.heap.size+1)) #[] #[]] ++ #[.pointer (some ⟨Bm,0,none⟩)],W1,?_,?_,?_,?_,fun _=>h1,?_⟩
 ·rw[←hW1,←hsv];exact run_enterLoop_outer _ _ _ _ _
 ·simp[resolve,go_sem]
 ·intro f' hf';simp[Target.leads]at hf';subst hf';exact hFg
 ·simp[invoke,go_sem,eg]
 ·refine (zhf F (n - 1) hFg hro (by omega) (W0.heap.size+1) Bm b N S w0 (zi1 cs w fn sv w.heap.size (W0.heap.size+1) W0.heap.size)
   (fun pre r W hJ hl _ _=>zcj cs hcs F (n - 1 - 1) w fn hfn _ w.heap.size (W0.heap.size+1) W0.heap.size (by omega) (by omega) (by omega) (Nat.le_refl _) (by omega) pre r W hJ (by omega)) W1 (zk1 cs _ _ _ _ _ _ _ hb1.size) ((hb1.cell (p:=⟨Bm,0,none⟩) hBm).trans hm) (hS.below hb1) hM).mono ?_
  rintro e W2 ⟨⟨v0,rfl⟩,ss,hln,hCm,h2⟩;obtain ⟨v,hv,hrow,hnil⟩:=h2.box;have hend:=run_endLoop (P:=Tryz.prog) h2.L (by simp[lP])
  obtain ⟨W3,hW3⟩:∃ W3,W2.putObj (W0.heap.size+1) (.loop { lP cs fn sv w.heap.size W0.heap.size .ready none with state:=.exhausted })=W3:=⟨_,rfl⟩
  rw[hW3]at hend;have hg3:W2.grownBy W3 (some (W0.heap.size+1)):=by rw[←hW3];exact grownBy_putObj_a _ _ _
  have hv3:W3.heap[w.heap.size]?=some (.cells #[v] 115 (0,0)):=by rw[←hW3];exact (World.putObj_heap_other (by omega)).trans hv
  have hK3:W3.heap[W0.heap.size]?=some (.deferred (some [])):=by rw[←hW3];exact (World.putObj_heap_other (by omega)).trans h2.K
  have hrow3:=hrow.kept hg3 (ownsRow_ne_a hrow h2.L (fun cur e=>by first | cases e | exact hne (Obj.cells.inj e).2.1))
  have hb3:Below w.heap.size w W3:=h2.below.grown hg3 h2.below.size (fun k e=>by cases e;omega)
  obtain ⟨hc3,hf3⟩:=cell_of_box_a hv3;clear hW3;refine ⟨none,W3,hend,?_⟩;gi_wp2
  rw[←hs0];refine ⟨by simp,.inl ⟨_,_,rfl,run_takeDeferred hK3,?_⟩⟩
  exact ⟨_,results_tmp rfl _ _ _,v,ss,rfl,hln,hCm,hrow3.kept (grownBy_putObj_a _ _ _) (ownsRow_ne_a hrow3 hK3 (fun cur e=>by first | cases e | exact hne (Obj.cells.inj e).2.1)),hnil,hb3.grown (grownBy_putObj_a _ _ _) hb3.size (fun k e=>by cases e;omega)⟩
end Go.Proofs.YtolnlfnndnpiiaaGreat
namespace Go.Proofs.YtolnlfnndnpiiaaGreat
open Go.RowKit Go.Maps Go.Sort Go.Shelf
attribute [local go_sem ↓] Go.wp_at_zero Go.wp_at_succ
theorem zoa (f:Value) (w:World):Calls Tryz.prog 262 #[.slice none 0 0,.int .i64 0,.int .i64 0,f] w fun r w'=>r=.returned (.tuple #[])∧w'=w:=by
 go_enter Tryz.func262,Tryz.ntmps262;go_wp2_with fail
 go_loopw [8] (fun i wr=>i=.int .i64 1∧wr=w) (fun i _=>0)
 case atStart=>exact ⟨by go_num,rfl⟩
 case round =>
  obtain ⟨rfl,rfl⟩:=hrel;go_wp2_with fail
  first | go_end0 | skip
  first | exact ⟨rfl,rfl⟩ | exact ⟨rfl,_,by simp[results,Tryz.results252,go_sem],rfl,rfl⟩
theorem zjb (f:Value) (w:World):Calls Tryz.prog 252 #[.slice none 0 0,.int .i64 0,.int .i64 0,.int .i64 0,f] w fun r w'=>r=.returned (.tuple #[])∧w'=w:=by
 go_enter Tryz.func252,Tryz.ntmps252;go_wp2_with fail
 go_loopw [1,2] (fun i j wr=>i=.int .i64 0∧j=.int .i64 0∧wr=w) (fun i j _=>0)
 case atStart=>exact ⟨rfl,rfl,rfl⟩
 case round =>
  obtain ⟨rfl,rfl,rfl⟩:=hrel;go_wp2_with fail
  refine (zoa f _).mono ?_;rintro r w1 ⟨rfl,rfl⟩;go_wp2_with fail
  first | go_end0 | skip
  first | exact ⟨rfl,rfl⟩ | exact ⟨rfl,_,by simp[results,Tryz.results252,go_sem],rfl,rfl⟩
theorem zh9 (f:Value) (w:World):Calls Tryz.prog 232 #[.slice none 0 0,f] w fun r w'=>r=.returned (.tuple #[])∧w'=w:=by
 have HL:Hid (Calls Tryz.prog 157 #[.int .u64 0] w fun e w'=>e=.returned (.int .i64 0)∧w'=w):=aA (by
  have h3:=Any.bits_Len Tryz.lenT 0 w (by omega) (by omega)
  exact h3)
 have wr:IntKind.u64.wrap 0=0:=by simp[IntKind.wrap,IntKind.bits,IntKind.signed]
 go_enter Tryz.func232,Tryz.ntmps232;go_wp2_with fail
 refine HL.out.mono ?_;rintro e w1 ⟨rfl,rfl⟩;go_wp2_with fail
 refine (zjb f _).mono ?_;rintro r w1 ⟨rfl,rfl⟩;go_wp2_with fail
 first | go_end0 | skip
 exact ⟨rfl,rfl⟩
theorem zpn (r:Rw):∀ ss:List Rw,ss.Pairwise (fun x y=>Op.bytesLess x.e.path y.e.path=true)→(∀ x∈ss,x.e.path≠r.e.path)→∃ s2:List Rw,s2.Perm (r :: ss)∧s2.Pairwise (fun x y=>Op.bytesLess x.e.path y.e.path=true)
 | [],_,_=>⟨[r],List.Perm.refl _,by simp⟩
 | x :: t,h,hn=>by
  obtain ⟨h1,h2⟩:=List.pairwise_cons.1 h;by_cases hr:Op.bytesLess r.e.path x.e.path=true
  ·refine ⟨r :: x :: t,List.Perm.refl _,List.pairwise_cons.2 ⟨fun y hy=>?_,h⟩⟩
   rcases List.mem_cons.1 hy with rfl | hy
   ·exact hr
   ·exact gI _ _ _ hr (h1 y hy)
  ·obtain ⟨s2,hp,hs⟩:=zpn r t h2 (fun y hy=>hn y (List.mem_cons_of_mem _ hy))
   refine ⟨x :: s2,((hp.cons x).trans (List.Perm.swap _ _ _)),List.pairwise_cons.2 ⟨fun y hy=>?_,hs⟩⟩
   rcases List.mem_cons.1 (hp.mem_iff.1 hy) with rfl | hy
   ·exact fR _ _ (by simpa using hr) (hn x List.mem_cons_self).symm
   ·exact h1 y hy
theorem zul:∀ rs:List Rw,rs.Pairwise (fun x y=>x.e.path≠y.e.path)→∃ ss:List Rw,ss.Perm rs∧ss.Pairwise (fun x y=>Op.bytesLess x.e.path y.e.path=true)
 | [],_=>⟨[],List.Perm.refl _,List.Pairwise.nil⟩
 | r :: t,h=>by
  obtain ⟨h1,h2⟩:=List.pairwise_cons.1 h;obtain ⟨ss,hp,hs⟩:=zul t h2;obtain ⟨s2,hp2,hs2⟩:=zpn r ss hs (fun x hx=>(h1 x (hp.mem_iff.1 hx)).symm)
  exact ⟨s2,hp2.trans (hp.cons r),hs2⟩
def zoc (S:Nat→Bs→Option En):Prop:=∀ i j p q e f,S i p=some e→S j q=some f→e.path=f.path→(i,p)=(j,q)
theorem nN.apart {w0:World} {S:Nat→Bs→Option En} {left:Lit→Bool} {ss:List ((Nat × Bs) × Rw)} (h:nN w0 S left ss) (ho:zoc S):(ss.map Prod.snd).Pairwise (fun x y=>x.e.path≠y.e.path):=by
 rw[List.pairwise_map];have h1:=h.one;rw[List.Nodup,List.pairwise_map]at h1;refine h1.imp_of_mem (fun {x y} hx hy hne he=>?_)
 exact hne (ho _ _ _ _ _ _ (h.was x hx).2.2.1 (h.was y hy).2.2.1 he)
theorem nN.mem {w0:World} {S:Nat→Bs→Option En} {ss:List ((Nat × Bs) × Rw)} (h:nN w0 S (fun _=>false) ss) (e:En):e∈(ss.map Prod.snd).map Rw.e↔∃ i p,i≤100∧p.length≤1048576∧S i p=some e:=by
 constructor
 ·intro he
  obtain ⟨r,hr,rfl⟩:=List.mem_map.1 he;obtain ⟨x,hx,rfl⟩:=List.mem_map.1 hr;obtain ⟨a1,a2,a3,-⟩:=h.was x hx;exact ⟨_,_,a1,a2,a3⟩
 ·rintro ⟨i,p,hi,hp,hS⟩
  obtain ⟨x,hx,hxe⟩:=List.mem_map.1 (h.all i p e hi hp hS rfl);obtain ⟨a1,a2,a3,-⟩:=h.was x hx;rw[hxe]at a3;have:x.2.e=e:=by rw[hS]at a3;exact (Option.some.inj a3).symm
  exact List.mem_map.2 ⟨x.2,List.mem_map.2 ⟨x,hx,rfl⟩,this⟩
theorem zu6 (Bm b N:Nat) (S:Nat→Bs→Option En) (w0 w:World) (hBm:Bm<w.heap.size) (hm:w.cell? ⟨Bm,0,none⟩=some (.map (some b))) (hS:eL w0 w b N S) (hN:N≤1000) :
  Calls Tryz.prog 256 #[.func (.func 257) #[] #[.pointer (some ⟨Bm,0,none⟩)]] w fun e w'=>∃ (v:Value) (ss:List ((Nat × Bs) × Rw)),e=.returned v∧ss.length≤N∧nN w0 S (fun _=>false) ss∧w'.ownsRow w.heap.size 88 4 v (ss.map Prod.snd).length (fQ (ss.map Prod.snd))∧Below w.heap.size w w':=by
 have HA:=aA (callsIn_wide.1 (zn5 Fence.wide 5 trivial rfl (by omega) trivial Bm b N S w0 w hBm hm hS hN))
 clear hS hm;go_enter Tryz.func256,Tryz.ntmps256;go_wp2_with fail
 refine HA.out.mono ?_;rintro e w1 ⟨v,ss,rfl,hln,hC,hrow,-,hb⟩;have HC:=aA hC;have HRw:=aA hrow;have HB:=aA hb;clear hC hrow hb;go_wp2_with fail
 go_ret
 exact ⟨v,ss,rfl,hln,HC.out,HRw.out,HB.out⟩
theorem zte {w:World} {g:Nat} {ss:List Rw} (hg:ss≠[]→g<w.heap.size) (hc:∀ i q r,ss[i]?=some r→q<4→w.cell? ⟨g,i * 4+q,none⟩=(bI r)[q]?) (hr:∀ r∈ss,aP .i64 w r.a r.e.chunks):RdI w (some ⟨g,0,none⟩) (ss.map Rw.e):=by
 intro hz;refine ⟨g,0,fun i=>((ss[i]?).map Rw.a).getD none,fun i=>((ss[i]?).map Rw.c).getD 0,rfl,hg (fun e=>hz (by rw[e];rfl)),fun i e he=>?_⟩
 rw[List.getElem?_map]at he;obtain ⟨r,hri,rfl⟩:=Option.map_eq_some_iff.1 he;simp only[hri,Option.map_some,Option.getD_some,Nat.zero_add];exact ⟨hc i 0 r hri (by omega),hc i 1 r hri (by omega),hc i 2 r hri (by omega),hc i 3 r hri (by omega),hr r (List.mem_of_getElem? hri)⟩
theorem zrb (Bm b N:Nat) (S:Nat→Bs→Option En) (w0 w:World) (hBm:Bm<w.heap.size) (hm:w.cell? ⟨Bm,0,none⟩=some (.map (some b))) (hS:eL w0 w b N S) (hN:N≤1000) (ho:zoc S) (hw0:Below w0.heap.size w0 w) :
  Calls Tryz.prog 236 #[.func (.func 257) #[] #[.pointer (some ⟨Bm,0,none⟩)],.func (.func 225) #[] #[]] w fun r w'=>∃ av cv rs,r=.returned (.slice av rs.length cv)∧dY rs∧(∀ e,e∈rs↔∃ i p,i≤100∧p.length≤1048576∧S i p=some e)∧RdI w' av rs∧Below w.heap.size w w':=by
 have HCo:=aA (zu6 Bm b N S w0 w hBm hm hS hN);clear hS hm;go_enter Tryz.func236,Tryz.ntmps236;go_wp2_with fail
 refine HCo.out.mono ?_;rintro e w1 ⟨v,cs,rfl,hln,hC,hrow,hb1⟩;have HM:=aA hC.mem;obtain ⟨ss,hperm,hsort⟩:=zul _ (hC.apart ho);have HRd:=aA (show ∀ r∈ss,aP .i64 w0 r.a r.e.chunks from fun r hr=>by
  obtain ⟨x,hx,rfl⟩:=List.mem_map.1 (hperm.mem_iff.1 hr);exact (hC.was x hx).2.2.2.1)
 have HB1:=aA hb1;have HB0:=aA (aB hw0 hb1);have HP:=aA hperm;have HSo:=aA hsort;have hlen:(cs.map Prod.snd).length≤1000:=by rw[List.length_map];omega
 have hsw:=hw0.size;have hsw1:=hb1.size;clear hC hperm hsort hb1 hw0 hln;generalize cs.map Prod.snd=rs at *;rcases hrow.2 with ⟨rfl,h0⟩ | ⟨g,cap,cur,rfl,hgw,hgb,hx⟩
 ·have hrs:rs=[]:=List.length_eq_zero_iff.1 h0
  subst hrs;go_wp2_with fail
  refine (zh9 _ _).mono ?_;rintro r w2 ⟨rfl,rfl⟩;go_wp2_with fail
  go_ret
  exact ⟨none,0,[],rfl,List.Pairwise.nil,fun e=>by rw[←HM.out e];simp,fun hz=>absurd rfl hz,HB1.out⟩
 ·have HSS:=aA (ze6 w.heap.size g rs.length cap rs ss w1 hrow rfl (by omega) HP.out HSo.out)
  have hgl:g<w1.heap.size:=(Array.getElem?_eq_some_iff.1 hgb).1;have HL:=aA (show rs.length=(ss.map Rw.e).length by rw[List.length_map];exact HP.out.length_eq.symm)
  clear hrow hgb hx;go_wp2_with fail
  refine HSS.out.mono ?_;rintro r w2 ⟨rfl,hcells,hk⟩;have B2:=aA (uQ HB1.out hk (by omega) (by omega))
  have B02:=aA (uQ HB0.out hk (by omega) (by omega))
  have hsz2:=hk.size;have RI:=aA (zte (w:=w2) (g:=g) (ss:=ss) (fun _=>by omega) hcells (fun r hr=>(HRd.out r hr).below B02.out))
  clear hcells hk HSS;go_wp2_with fail
  go_ret
  refine ⟨some ⟨g,0,none⟩,cap,ss.map Rw.e,by rw[HL.out];rfl,?_,fun e=>?_,RI.out,B2.out⟩
  ·unfold dY
   rw[List.pairwise_map];exact HSo.out
  ·rw[←HM.out e]
   exact (HP.out.map Rw.e).mem_iff
theorem zwe (b N:Nat) (S:Nat→Bs→Option En) (w0 w:World) (hS:eL w0 w b N S) (hN:N≤1000) (ho:zoc S) (hw0:Below w0.heap.size w0 w) :
  Calls Tryz.prog 198 #[.map (some b)] w fun r w'=>∃ av cv rs,r=.returned (.slice av rs.length cv)∧dY rs∧(∀ e,e∈rs↔∃ i p,i≤100∧p.length≤1048576∧S i p=some e)∧RdI w' av rs∧Below w.heap.size w w':=by
 have hV:Calls Tryz.prog 237 #[.map (some b)] w fun r w'=>r=.returned (.func (.func 257) #[] #[.pointer (some ⟨w.heap.size,0,none⟩)])∧w'=w.alloc (.cells #[.map (some b)] 167):=by
  go_enter Tryz.func237,Tryz.ntmps237;go_wp2_with fail
  go_ret
  exact ⟨rfl,rfl⟩
 have HV:=aA hV;have B0:=aA (aC w (.cells #[.map (some b)] 167));have HSo:=aA (zrb w.heap.size b N S w0 (w.alloc (.cells #[.map (some b)] 167)) (by simp) (by simp) (hS.below B0.out) hN ho (aB hw0 B0.out))
 clear hV hS hw0;go_enter Tryz.func198,Tryz.ntmps198;go_wp2_with fail
 refine HV.out.mono ?_;rintro r w1 ⟨rfl,rfl⟩;go_wp2_with fail
 refine HSo.out.mono ?_;rintro r w2 ⟨av,cv,rs,rfl,h1,h2,h3,h4⟩;have H1:=aA h1;have H2:=aA h2;have H3:=aA h3;have H4:=aA (aB B0.out h4);clear h1 h2 h3 h4;go_wp2_with fail
 go_ret
 exact ⟨av,cv,rs,rfl,H1.out,H2.out,H3.out,H4.out⟩
end Go.Proofs.YtolnlfnndnpiiaaGreat
