/-
  Texts put together: SnpV SnqK IteT TreH.
-/
import Derived.Test.YtgaeikgoknoamaaGreatKCollec16
import Derived.Test.YtgaeikgoknoamaaGreatKCollec8
import Derived.Test.YtgaeikgoknoamaaGreatKCollec9
import Derived.Test.YtgaeikgoknoamaaGreatKCollec13
import Derived.Deep.RegionHeld3
import Derived.Test.YtgaeikgoknoamaaGreatKCollec6
set_option linter.unusedVariables false
set_option maxHeartbeats 6400000
set_option maxRecDepth 100000
namespace Go.Proofs.YtgaeikgoknoamaaGreat
open Go.RowKit Go.Shelf
attribute [local go_sem] Oper.semAt_some
def zqi (q:Int) (ls:List (List En)) (w:World) (r:Ending) (w':World):Prop :=
 ∃ av cv,r=.returned (.agg #[.int .i64 q,.slice av ls.length cv])∧LL w.heap.size w' (.slice av ls.length cv) ls∧ls.length≤cv∧Below w.heap.size w w'
theorem za6 (a:Option Addr) (n c:Nat) (w:World) :
  Calls Tryz.prog 40 #[.slice a n c] w fun e w'=>e=.returned (.func (.func 85) #[] #[.pointer (some ⟨w.heap.size,0,none⟩)])∧w'=w.alloc (.cells #[.slice a n c] 24):=by
 go_enter Tryz.func40,Tryz.ntmps40;go_wp2
 go_ret
 exact ⟨rfl,rfl⟩
def bI {P:Rs→Prop} (pre:List (Pl P)):List (List En):=pre.map fun x=>x.2.1.s.layer
theorem zn2 {P:Rs→Prop} (pre:List (Pl P)) (x:Pl P):bI (pre ++ [x])=bI pre ++ [x.2.1.s.layer]:=by simp[bI]
theorem zj4 {P:Rs→Prop} {ys:List (Pl P)} {rs:List Rs} (h:ys.map (fun x=>x.2.1)=rs):bI ys=rs.map fun r=>r.s.layer:=by rw[←h];simp[bI]
theorem zji {β:Type} (R B:Nat) (t:TypeId) (f:β→List (List En)):Go.Own (fun s W=>∃ v,Boxed W B t v∧LL R W v (f s)):=by
 intro s W W' row hs hg hr;obtain ⟨v,h1,h2⟩:=hs;exact ⟨v,boxed_own B t (fun (_:Unit)=>v) () W W' row h1 hg hr,h2.grown hg hr⟩
theorem zr6 {W W':World} (h:Below W.heap.size W W'):KeepsOthers W W':=⟨h.size,fun k o hk _=>(h.block k (Array.getElem?_eq_some_iff.1 hk).1).trans hk⟩
theorem cX {W W':World} {B:Nat} {t:TypeId} {v:Value} (h:Boxed W B t v) (hk:Below W.heap.size W W'):Boxed W' B t v:=(hk.block B h.lt).trans h
theorem pV (a:Option Addr) (c n:Nat) (l:List Sn) (nm:Bs) (s:Sn) (w:World) (h:RdS w a l) (hn:n=l.length) (hR:aP l) (hs:bW l) (ht:atS l nm=some s) :
  Calls Tryz.prog 14 #[.slice a n c,.string (str nm)] w (zqi 0 (dF l s) w):=by
 subst hn;obtain ⟨i1,ki,kz0,kz1,kz2⟩:=info_parts zr3;have hl:=hR.len;have B0:=aA (aC w (.cells #[.int .i64 0,.slice none 0 0] 38));have X0:=aA (Box.new w (.int .i64 0) (.slice none 0 0) 38);have HSF:=aA (iQ a c l.length l _ (h.below B0.out) rfl (by omega) hs)
 rw[kO.2 hR]at HSF;have HRd:=aA h;have HAT:=aA ht;have HNE:=aA (show ∀ y∈l,y.name≠[] from fun y hy=>fY (hR.own y hy).1)
 have HNM:=aA (fY (hR.own s (bU ht).1).1);have HSM:=aA (show ∀ y∈l,y.layer.length≤1048576∧bJ y.layer from fun y hy=>(hs.2 y hy).2.2)
 have HMEM:=aA (show ∀ y∈aI l 5 (some s),y∈l from jP (fun y hy=>by cases hy;exact (bU ht).1))
 have hL5:=nY l 5 (some s);have hL0:0<(aI l 5 (some s)).length:=by simp[aI]
 clear h hR hs ht;refine (callsIn_wide (n:=4)).1 ?_;refine callsIn_of_wp_marks Tryz.func14 rfl trivial ?_ rfl;simp only[Tryz.ntmps14,List.size_toArray,List.length_cons,List.length_nil,Nat.reduceAdd,Nat.reduceSub,Array.replicate_succ,Array.replicate_zero,List.push_toArray,List.append_toArray,List.nil_append,List.cons_append];gi_wp2_with fail
 have hsz0:(w.alloc (.cells #[.int .i64 0,.slice none 0 0] 38)).heap.size=w.heap.size+1:=by simp
 generalize w.alloc (.cells #[.int .i64 0,.slice none 0 0] 38)=W0 at *;refine ⟨trivial,?_⟩;refine (callsIn_wide.2 HSF.out).mono ?_;rintro e w1 ⟨rfl,hb1⟩;have B1:=aA (aB B0.out hb1);have X1:=aA (X0.out.below hb1);have hs1:=hb1.size;clear hb1;gi_wp2_with fail
 refine ⟨trivial,?_⟩;refine (callsIn_wide.2 (sY a c l.length l nm w w1 B1.out HRd.out rfl (by omega))).mono ?_
 rintro r w2 ⟨⟨e,x2,c2,he,rfl,hx2⟩,hb2⟩;rw[HAT.out]at he;have he2:e=s:=he;subst he2;have HX2:=aA hx2;have B2:=aA (aB B1.out (aB hb2 (aC w2 (.cells #[.string (str e.name),.string (str e.parent),.int .i64 e.kind,.bool e.lease,.slice x2 e.layer.length c2] 42))));have X2:=aA (X1.out.below (aB hb2 (aC w2 (.cells #[.string (str e.name),.string (str e.parent),.int .i64 e.kind,.bool e.lease,.slice x2 e.layer.length c2] 42))));have F2:=aA (fF.new w2 (.string (str e.name)) (.string (str e.parent)) (.int .i64 e.kind) (.bool e.lease) (.slice x2 e.layer.length c2) 42)
 have hs2:=hb2.size;clear hb2 he hx2;gi_wp2_with fail
 have hsz2:(w2.alloc (.cells #[.string (str e.name),.string (str e.parent),.int .i64 e.kind,.bool e.lease,.slice x2 e.layer.length c2] 42)).heap.size=w2.heap.size+1:=by simp
 generalize w2.alloc (.cells #[.string (str e.name),.string (str e.parent),.int .i64 e.kind,.bool e.lease,.slice x2 e.layer.length c2] 42)=W2 at *;refine ⟨trivial,?_⟩;refine (callsIn_wide.2 (uC e _ _ _ HNM.out)).mono ?_;rintro r w3 ⟨rfl,hb3⟩;have B3:=aA (aB B2.out (aB hb3 (aC w3 (.cells #[.slice none 0 0] 36))));have X3:=aA (X2.out.below (aB hb3 (aC w3 (.cells #[.slice none 0 0] 36))));have F3:=aA (F2.out.below (aB hb3 (aC w3 (.cells #[.slice none 0 0] 36))));have V3:=aA (Boxed.new w3 36 (.slice none 0 0));have hs3:=hb3.size
 obtain ⟨f0,f1,f2,f3,f4⟩:=F3.out;clear hb3;gi_wp2_with fail
 have hsz3:(w3.alloc (.cells #[.slice none 0 0] 36)).heap.size=w3.heap.size+1:=by simp
 generalize w3.alloc (.cells #[.slice none 0 0] 36)=W3 at *;refine ⟨trivial,?_⟩;refine (callsIn_wide.2 (zD a c l.length l e x2 c2 w W3 B3.out HRd.out HX2.out rfl (by omega) HNE.out HNM.out)).mono ?_
 rintro r w4 ⟨av4,cv4,rfl,hL4,hb4⟩;have HL4:=aA hL4;have B4:=aA (aB B3.out hb4);have X4:=aA (X3.out.below hb4);have V4:=aA (cX V3.out hb4);have hs4:=hb4.size;clear hL4 hb4 f0 f1 f2 f3 f4;gi_wp2_with fail
 refine ⟨trivial,?_⟩;refine (callsIn_wide.2 (za6 _ _ _ _)).mono ?_;rintro r w5 ⟨rfl,rfl⟩;gi_wp2_with fail
 obtain ⟨rs,g1,g2,g3⟩:=HL4.out;obtain ⟨g,hgv,-⟩:=iK g2 (.inl hL0);subst hgv;have hgl:=g2.lt g rfl;have hrsl:rs.length=(aI l 5 (some e)).length:=by rw[←g1,List.length_map]
 have hgc:∃ o:Obj,(w4.alloc (.cells #[.slice (some ⟨g,0,none⟩) (aI l 5 (some e)).length cv4] 24)).heap[g]?=some o∧o.isCells=true:=by
  rcases g2.2 with ⟨h9,_⟩ | ⟨g',cap,cur,h9,_,hh,_⟩
  ·cases h9
  ·simp only[Value.slice.injEq,Option.some.injEq,Addr.mk.injEq]at h9
   obtain ⟨⟨rfl,-⟩,-⟩:=h9;exact ⟨_,(Below.heap_alloc _ _ _ hgl.2).trans hh,rfl⟩
 have hbc:∃ o:Obj,(w4.alloc (.cells #[.slice (some ⟨g,0,none⟩) (aI l 5 (some e)).length cv4] 24)).heap[w4.heap.size]?=some o∧o.isCells=true:=⟨_,World.alloc_heap_new w4 _,rfl⟩;have hrow:∀ i r,rs[i]?=some r→(w4.alloc (.cells #[.slice (some ⟨g,0,none⟩) (aI l 5 (some e)).length cv4] 24)).cell? ⟨g,i * 5,none⟩=some (.string (str r.s.name))∧(w4.alloc (.cells #[.slice (some ⟨g,0,none⟩) (aI l 5 (some e)).length cv4] 24)).cell? ⟨g,i * 5+1,none⟩=some (.string (str r.s.parent))∧(w4.alloc (.cells #[.slice (some ⟨g,0,none⟩) (aI l 5 (some e)).length cv4] 24)).cell? ⟨g,i * 5+2,none⟩=some (.int .i64 r.s.kind)∧(w4.alloc (.cells #[.slice (some ⟨g,0,none⟩) (aI l 5 (some e)).length cv4] 24)).cell? ⟨g,i * 5+3,none⟩=some (.bool r.s.lease)∧(w4.alloc (.cells #[.slice (some ⟨g,0,none⟩) (aI l 5 (some e)).length cv4] 24)).cell? ⟨g,i * 5+4,none⟩=some (.slice r.a r.s.layer.length r.c):=fun i r hr=>by
  have hi:=(List.getElem?_eq_some_iff.1 hr).1;have hc:=fun q hq=>((aC w4 (.cells #[.slice (some ⟨g,0,none⟩) (aI l 5 (some e)).length cv4] 24)).cell (p:=⟨g,i * 5+q,none⟩) hgl.2).trans ((g2.cellAt (i * 5+q) (by omega)).trans (lQ rs i q r hr hq))
  exact ⟨hc 0 (by decide),hc 1 (by decide),hc 2 (by decide),hc 3 (by decide),hc 4 (by decide)⟩
 have HREV:=aA (show (rs.reverse.map fun r=>r.s.layer)=dF l e by unfold dF;rw[←g1,List.map_reverse,List.map_map];rfl)
 have hPP:∀ r∈rs,RdE w r.a r.s.layer∧r.s∈l:=fun r hr=>⟨g3 r hr,HMEM.out _ (by rw[←g1];exact List.mem_map_of_mem hr)⟩
 have B5:Below w.heap.size w (w4.alloc (.cells #[.slice (some ⟨g,0,none⟩) (aI l 5 (some e)).length cv4] 24)):=aB B4.out (aC _ _);have X5:=X4.out.below (aC w4 (.cells #[.slice (some ⟨g,0,none⟩) (aI l 5 (some e)).length cv4] 24));have V5:=cX V4.out (aC w4 (.cells #[.slice (some ⟨g,0,none⟩) (aI l 5 (some e)).length cv4] 24));have C5:(w4.alloc (.cells #[.slice (some ⟨g,0,none⟩) (aI l 5 (some e)).length cv4] 24)).cell? ⟨w4.heap.size,0,none⟩=some (.slice (some ⟨g,0,none⟩) rs.length cv4):=by rw[hrsl];simp
 have hsz5:(w4.alloc (.cells #[.slice (some ⟨g,0,none⟩) (aI l 5 (some e)).length cv4] 24)).heap.size=w4.heap.size+1:=by simp
 clear HL4 g1 g2 g3;generalize w4.alloc (.cells #[.slice (some ⟨g,0,none⟩) (aI l 5 (some e)).length cv4] 24)=W5 at *;refine wpIn_rangeFunc_ownH (α:=Pl (fun r=>RdE w r.a r.s.layer∧r.s∈l)) rfl (by decide) (gf:=85) (lb:=#[.pointer (some ⟨w4.heap.size,0,none⟩)]) rfl trivial (enters_of Tryz.func85 (by kernel_rfl) rfl)
  (encs:=plV) (Kp:=KpR w4.heap.size g) (S:=fun ys=>ys.map (fun x=>x.2.1)=rs.reverse) (Sp:=fun _=>True) (N:=rs.length) (w0:=W5)
  (fun l' J Jx W hW hJ _ hY h0=>za3 _ l' w4.heap.size g cv4 _ rs hPP (by omega) J Jx _ hJ hY W
   (by obtain ⟨o,h1,h2⟩:=hbc;exact ⟨o,(hW.block _ (by omega)).trans h1,h2⟩) (by obtain ⟨o,h1,h2⟩:=hgc;exact ⟨o,(hW.block _ (by omega)).trans h1,h2⟩) ((hW.cell (p:=⟨w4.heap.size,0,none⟩) (by show w4.heap.size<_;omega)).trans C5)
   (fun i r hr=>by obtain ⟨c0,c1,c2,c3,c4⟩:=hrow i r hr;exact ⟨(hW.cell (p:=⟨g,_,none⟩) (by show g<_;omega)).trans c0,(hW.cell (p:=⟨g,_,none⟩) (by show g<_;omega)).trans c1,(hW.cell (p:=⟨g,_,none⟩) (by show g<_;omega)).trans c2,(hW.cell (p:=⟨g,_,none⟩) (by show g<_;omega)).trans c3,(hW.cell (p:=⟨g,_,none⟩) (by show g<_;omega)).trans c4⟩) h0)
  KpR.trans (fun W l' o o' _ hl hc _=>KpR.put W l' o o' hl hc) (Below.refl _ _) (fun _=>rfl)
  (fun pre W=>((∃ v,Boxed W w3.heap.size 36 v∧LL (w4.heap.size+1) W v (bI pre))∧Box W w.heap.size (.int .i64 0) (.slice none 0 0)∧w4.heap.size+1≤W.heap.size)∧Below w.heap.size w W)
  (fun _ _ _=>False)
  (OwnFrom.and (OwnFrom.and (Own.from (zji _ _ _ bI) _) (OwnFrom.and (Own.from (zu7 _ _ _) _) (fun _ _ _ _ hs hg _=>Nat.le_trans hs hg.size))) (ownFrom_below (Nat.le_refl _) (by omega)))
  (fun _ _ _ _ _ hs _ _=>hs)
  ⟨⟨⟨_,V5,LL.nil _ _⟩,X5,by omega⟩,B5⟩
  (fun x a' W=>∃ Bx,w4.heap.size<Bx∧fF W Bx (.string (str x.2.1.s.name)) (.string (str x.2.1.s.parent)) (.int .i64 x.2.1.s.kind) (.bool x.2.1.s.lease) (.slice x.2.1.a x.2.1.s.layer.length x.2.1.c)∧a' = { tmps:=#[.slice a l.length c,.string (str nm),undef,undef,.pointer (some ⟨w.heap.size,0,none⟩),.int .i64 0,.pointer (some ⟨w2.heap.size,0,none⟩),.pointer (some ⟨w3.heap.size,0,none⟩),undef,.pointer (some ⟨Bx,0,none⟩),.slice a l.length c,.int .i64 0,.int .i64 0,.bool false,undef,undef,.slice a l.length c,.string (str nm),.agg #[.string (str e.name),.string (str e.parent),.int .i64 e.kind,.bool e.lease,.slice x2 e.layer.length c2],.agg #[.string (str e.name),.string (str e.parent),.int .i64 e.kind,.bool e.lease,.slice x2 e.layer.length c2],.bool false,undef,.slice a l.length c,.agg #[.string (str e.name),.string (str e.parent),.int .i64 e.kind,.bool e.lease,.slice x2 e.layer.length c2],.slice (some ⟨g,0,none⟩) (aI l 5 (some e)).length cv4,.func (.func 85) #[] #[.pointer (some ⟨w4.heap.size,0,none⟩)],.int .i64 x.1,.agg #[.string (str x.2.1.s.name),.string (str x.2.1.s.parent),.int .i64 x.2.1.s.kind,.bool x.2.1.s.lease,.slice x.2.1.a x.2.1.s.layer.length x.2.1.c],undef,undef,undef,undef,undef,undef,undef,undef],defers:=[] })
  (fun x a' _ X Y row hs hg hr=>by
   obtain ⟨Bx,h1,h2,h3⟩:=hs;have hr2:=fun r e=>(hr r e).2
   exact ⟨Bx,h1,⟨cell_kept h2.1 hg hr2,cell_kept h2.2.1 hg hr2,cell_kept h2.2.2.1 hg hr2,cell_kept h2.2.2.2.1 hg hr2,cell_kept h2.2.2.2.2 hg hr2⟩,h3⟩)
  ?assign ?body ?done ?stop
 case assign =>
  rintro l' pre ⟨xi,⟨xr,hxr⟩⟩ W K ⟨⟨⟨v,hv,hLL⟩,hX,hsz⟩,hB⟩ hK;dsimp only[plV]
  gi_wp2_with fail
  refine hK _ _ ((KeepsOthers.alloc _ _).from _) (KpR.kept (S:=fun _=>False) (aE.of_below (aC W _)) id id) ⟨⟨⟨v,cX hv (aC W _),hLL.below (aC W _)⟩,hX.below (aC W _),by simp;omega⟩,(hB.trans ((aC W _).mono hB.size))⟩ ⟨W.heap.size,by omega,fF.new W _ _ _ _ _ _,?_⟩
  first | rfl | trace_state
 case body =>
  rintro l' pre ⟨xi,⟨xr,hxr⟩⟩ a' W hl' ⟨rc,hrc⟩ ⟨⟨⟨v,hv,hLL⟩,hX,hsz⟩,hB⟩ ⟨Bx,hBx,hF,rfl⟩ hlt;obtain ⟨xs,q1,q2,q3⟩:=hLL;have hmx:Tryz.prog.follows .mixedOrders=true:=by kernel_rfl
  obtain ⟨va,vc,rfl⟩:=aR q2;have HV:=aA hv;have HX:=aA hX;have HB:=aA hB;have HFV:=aA (show fF W Bx (.string (str xr.s.name)) (.string (str xr.s.parent)) (.int .i64 xr.s.kind) (.bool xr.s.lease) (.slice xr.a xr.s.layer.length xr.c) from hF)
  have HQ1:=aA q1;have HQ2:=aA q2;have HQ3:=aA q3;have HXR:=aA hxr.1;have hsm:=HSM.out _ hxr.2;have HLN:=aA (show (bI pre).length=pre.length by simp[bI])
  have hm1:(bI pre).length+1≤maxLen:=by have:=HLN.out;unfold maxLen;omega
  have hm2:((bI pre).length+1) * 24≤140737488355328:=by have:=HLN.out;omega
  have HVD:Hid (Boxed W.drew w3.heap.size 36 (.slice va (bI pre).length vc)):=aA HV.out;have hv0:=HVD.out.cell;have BD:Below w.heap.size w W.drew:=HB.out.drew;have HCE:=aA (oG xr.a xr.c xr.s.layer.length xr.s.layer W.drew (HXR.out.below BD) rfl hsm.1 hsm.2);have hf4:W.drew.cell? ⟨Bx,4,none⟩=some (.slice xr.a xr.s.layer.length xr.c):=HFV.out.2.2.2.2;have HROW:Hid (∀ w6:World,Below W.drew.heap.size W.drew w6→∀ {o:Obj},(w6.alloc o).ownsRow (w4.heap.size+1) 40 1 (.slice va (bI pre).length vc) (bI pre).length (xs.map lyV)):=aA (fun w6 hb6 o=>aJ (aJ (show W.drew.ownsRow _ _ _ _ _ _ from HQ2.out) hb6) (aC w6 o))
  have HFIN:Hid (∀ (w6:World) (av6:Option Addr) (cv6:Nat),GW W.drew.heap.size w6 (.slice av6 xr.s.layer.length cv6) xr.s.layer→Below W.drew.heap.size W.drew w6→∀ (av8:Option Addr) (cv8:Nat) (w8:World),w8.ownsRow (w4.heap.size+1) 40 1 (.slice av8 ((bI pre).length+1) cv8) ((bI pre).length+1) (xs.map lyV ++ [lyV ⟨xr.s.layer,av6,cv6⟩])→(w6.alloc (.cells #[.slice av6 xr.s.layer.length cv6] 40)).grownBy w8 (Value.slice va (bI pre).length vc).ownBlock →
    w8.cell? ⟨w3.heap.size,0,none⟩=some (.slice va (bI pre).length vc)∧w8.frozen? ⟨w3.heap.size,0,none⟩=false∧(KeepsFrom W5.heap.size W (w8.setCell ⟨w3.heap.size,0,none⟩ (.slice av8 ((bI pre).length+1) cv8))∧KpR w4.heap.size g W (w8.setCell ⟨w3.heap.size,0,none⟩ (.slice av8 ((bI pre).length+1) cv8))∧(((∃ v,Boxed (w8.setCell ⟨w3.heap.size,0,none⟩ (.slice av8 ((bI pre).length+1) cv8)) w3.heap.size 36 v∧LL (w4.heap.size+1) (w8.setCell ⟨w3.heap.size,0,none⟩ (.slice av8 ((bI pre).length+1) cv8)) v (bI (pre ++ [(xi,⟨xr,hxr⟩)])))∧Box (w8.setCell ⟨w3.heap.size,0,none⟩ (.slice av8 ((bI pre).length+1) cv8)) w.heap.size (.int .i64 0) (.slice none 0 0)∧w4.heap.size+1≤(w8.setCell ⟨w3.heap.size,0,none⟩ (.slice av8 ((bI pre).length+1) cv8)).heap.size)∧Below w.heap.size w (w8.setCell ⟨w3.heap.size,0,none⟩ (.slice av8 ((bI pre).length+1) cv8))))):=aA (by
   intro w6 av6 cv6 hG6 hb6 av8 cv8 w8 ho8 hg8;have hdr:W.drew.heap.size=W.heap.size:=rfl;have hk8:=yZ hg8;have BA:Below W.drew.heap.size W.drew (w6.alloc (.cells #[.slice av6 xr.s.layer.length cv6] 40)):=aB hb6 (aC w6 _);have hlow:∀ b,b<w4.heap.size+1→¬ (Value.slice va (bI pre).length vc).ownBlock=some b:=fun b hb hS=>by have:=(HQ2.out.lt b hS).1;omega
   have HV8:=rN (cX HVD.out BA) hk8 (hlow _ (by omega))
   have KS:=aE.setCell (S:=fun b=>b=w3.heap.size) (p:=⟨w3.heap.size,0,none⟩) (aE.refl _ w8) (fun _=>rfl) (.slice av8 ((bI pre).length+1) cv8)
   have hsA:=BA.size;have hs8:=hk8.size;have hsS:=KS.size;have hKO:KeepsOthers (w6.alloc (.cells #[.slice av6 xr.s.layer.length cv6] 40)) w8:=KeepsOthers.of_grownBy hg8 (fun j o ej hj=>by
    rcases (HROW.out w6 hb6 (o:=.cells #[.slice av6 xr.s.layer.length cv6] 40)).2 with ⟨h9,_⟩ | ⟨g',cap,cur,h9,_,hgb,_⟩
    ·rw[h9]at ej;simp[Value.ownBlock]at ej
    ·rw[h9]at ej
     obtain rfl:g'=j:=by simpa [Value.ownBlock] using ej
     rw[hgb]at hj;cases hj;rfl)
   have hKA:KeepsOthers W (w6.alloc (.cells #[.slice av6 xr.s.layer.length cv6] 40)):=(KeepsOthers.drew W).trans (zr6 BA);have hLL8:=LL.push (x:=⟨xr.s.layer,av6,cv6⟩) HQ1.out (HROW.out w6 hb6) (fun x hx=>(show GW (w4.heap.size+1) W.drew (lyV x) x.es from HQ3.out x hx).below BA) ((hG6.mono (by omega)).below (aC w6 _)) ho8 hk8
   refine ⟨HV8.cell,HV8.frozen,((hKA.trans hKO).trans (KeepsOthers.setCell _ _ _)).from _,?_,⟨⟨_,HV8.set _,?_⟩,?_,by omega⟩,?_⟩
   ·exact ((show KpR w4.heap.size g W _ from KpR.kept (W:=W.drew) (S:=fun _=>False) (aE.of_below BA) id id).trans (KpR.kept hk8 (hlow _ (by omega)) (hlow _ (by omega)))).trans (KpR.kept KS (by omega) (by omega))
   ·rw[zn2]
    exact hLL8.kept KS (fun b hb e=>by omega)
   ·exact (((show Box W.drew w.heap.size (.int .i64 0) (.slice none 0 0) from HX.out).below BA).kept hk8 (hlow _ (by omega))).kept KS (by omega)
   ·exact ((BD.trans (BA.mono (by have:=BD.size;omega))).trans (hk8.below (by have:=BD.size;omega) (fun q hq=>hlow q (by omega)))).trans (KS.below (by have:=BD.size;omega) (fun q hq e=>by omega)))
  dsimp only
  clear hv hX hB hF q1 q2 q3;gi_wp2_with fail
  refine wpIn_region_any hmx ?_;try (change wpAnyIn _ _ _ _ _ _ _ _ _ (World.drew _))
  refine wpAnyIn_ready (rs:=[0,1]) (by kernel_rfl) (by simp) ?_
  refine AllReadyIn.cons rfl (fun K hK=>?_) (AllReadyIn.cons rfl (fun K hK=>?_) AllReadyIn.nil)
  ·go_simp
   refine hK _ _ ?_;clear hK K;try simp only[Act.put,zsE]
   refine wpAnyIn_ready (rs:=[1]) (by kernel_rfl) (by simp) ?_
   refine AllReadyIn.cons rfl (fun K hK=>?_) AllReadyIn.nil
   go_simp
   refine hK _ _ ?_;clear hK K;try simp only[Act.put,zsE]
   refine wpAnyIn_ready (rs:=[2]) (by kernel_rfl) (by simp) ?_
   refine AllReadyIn.cons rfl (fun K hK=>?_) AllReadyIn.nil
   go_simp
   refine hK _ _ ?_;clear hK K;try simp only[Act.put,zsE]
   refine wpAnyIn_ready (rs:=[3]) (by kernel_rfl) (by simp) ?_
   refine AllReadyIn.cons rfl (fun K hK=>?_) AllReadyIn.nil
   go_simp
   refine ⟨trivial,?_⟩;refine (CallsIn.inRound l' (callsIn_wide.2 HCE.out)).mono ?_;rintro r w6 ⟨av6,cv6,rfl,hG6,hb6⟩;have hv6:=(cX HVD.out hb6).cell;gi_wp2_with fail
   try simp only[Act.put,zsE]
   refine wpAnyIn_ready (rs:=[4]) (by kernel_rfl) (by simp) ?_
   refine AllReadyIn.cons rfl (fun K hK=>?_) AllReadyIn.nil
   have hv7:=(cX (cX HVD.out hb6) (aC w6 (.cells #[.slice av6 xr.s.layer.length cv6] 40))).cell;go_simp
   refine hK _ _ ?_;clear hK K;try simp only[Act.put,zsE]
   refine wpAnyIn_ready (rs:=[5]) (by kernel_rfl) (by simp) ?_
   refine AllReadyIn.cons (o:=⟨some 33,_,_,_,_,_⟩) rfl (fun K hK=>?_) AllReadyIn.nil
   refine mO (by rfl) (.tmp 28) (.tmp 32) 36 (by rfl) (w4.heap.size+1) 40 i1 (.slice none 0 0) 1 24 Tryz.underlying36 ki kz0 kz1 kz2 rfl (by decide) (.slice va (bI pre).length vc) (bI pre).length (xs.map lyV) (by rfl) (HROW.out w6 hb6) ⟨w6.heap.size,0,none⟩ 1 1 [lyV ⟨xr.s.layer,av6,cv6⟩] (by rfl) (by rfl) (cell_one_new _ _ _) (by simp[lyV,Value.oneCell']) ((bI pre).length+1) rfl hm1 hm2 (by have h1:=hb6.size;have h2:W.drew.heap.size=W.heap.size:=rfl;rw[World.size_alloc];omega) ?_
   intro av8 cv8 w8 ho8 hg8;obtain ⟨hv8,hf8,hp8⟩:=HFIN.out w6 av6 cv6 hG6 hb6 av8 cv8 w8 ho8 hg8;have HP:=aA hp8;refine hK _ _ ?_;clear hK K ho8 hg8 hp8;try simp only[Act.put,zsE]
   refine wpAnyIn_ready (rs:=[6]) (by kernel_rfl) (by simp) ?_
   refine AllReadyIn.cons rfl (fun K hK=>?_) AllReadyIn.nil
   go_simp
   refine hK _ _ ?_;clear hK K;try simp only[Act.put,zsE]
   refine wpAnyIn_done (by kernel_rfl) ?_ _
   exact HP.out
  ·go_simp
   refine hK _ _ ?_;clear hK K;try simp only[Act.put,zsE]
   refine wpAnyIn_ready (rs:=[0,2]) (by kernel_rfl) (by simp) ?_
   refine AllReadyIn.cons rfl (fun K hK=>?_) (AllReadyIn.cons rfl (fun K hK=>?_) AllReadyIn.nil)
   ·go_simp
    refine hK _ _ ?_;clear hK K;try simp only[Act.put,zsE]
    refine wpAnyIn_ready (rs:=[2]) (by kernel_rfl) (by simp) ?_
    refine AllReadyIn.cons rfl (fun K hK=>?_) AllReadyIn.nil
    go_simp
    refine hK _ _ ?_;clear hK K;try simp only[Act.put,zsE]
    refine wpAnyIn_ready (rs:=[3]) (by kernel_rfl) (by simp) ?_
    refine AllReadyIn.cons rfl (fun K hK=>?_) AllReadyIn.nil
    go_simp
    refine ⟨trivial,?_⟩;refine (CallsIn.inRound l' (callsIn_wide.2 HCE.out)).mono ?_;rintro r w6 ⟨av6,cv6,rfl,hG6,hb6⟩;have hv6:=(cX HVD.out hb6).cell;gi_wp2_with fail
    try simp only[Act.put,zsE]
    refine wpAnyIn_ready (rs:=[4]) (by kernel_rfl) (by simp) ?_
    refine AllReadyIn.cons rfl (fun K hK=>?_) AllReadyIn.nil
    have hv7:=(cX (cX HVD.out hb6) (aC w6 (.cells #[.slice av6 xr.s.layer.length cv6] 40))).cell;go_simp
    refine hK _ _ ?_;clear hK K;try simp only[Act.put,zsE]
    refine wpAnyIn_ready (rs:=[5]) (by kernel_rfl) (by simp) ?_
    refine AllReadyIn.cons (o:=⟨some 33,_,_,_,_,_⟩) rfl (fun K hK=>?_) AllReadyIn.nil
    refine mO (by rfl) (.tmp 28) (.tmp 32) 36 (by rfl) (w4.heap.size+1) 40 i1 (.slice none 0 0) 1 24 Tryz.underlying36 ki kz0 kz1 kz2 rfl (by decide) (.slice va (bI pre).length vc) (bI pre).length (xs.map lyV) (by rfl) (HROW.out w6 hb6) ⟨w6.heap.size,0,none⟩ 1 1 [lyV ⟨xr.s.layer,av6,cv6⟩] (by rfl) (by rfl) (cell_one_new _ _ _) (by simp[lyV,Value.oneCell']) ((bI pre).length+1) rfl hm1 hm2 (by have h1:=hb6.size;have h2:W.drew.heap.size=W.heap.size:=rfl;rw[World.size_alloc];omega) ?_
    intro av8 cv8 w8 ho8 hg8;obtain ⟨hv8,hf8,hp8⟩:=HFIN.out w6 av6 cv6 hG6 hb6 av8 cv8 w8 ho8 hg8;have HP:=aA hp8;refine hK _ _ ?_;clear hK K ho8 hg8 hp8;try simp only[Act.put,zsE]
    refine wpAnyIn_ready (rs:=[6]) (by kernel_rfl) (by simp) ?_
    refine AllReadyIn.cons rfl (fun K hK=>?_) AllReadyIn.nil
    go_simp
    refine hK _ _ ?_;clear hK K;try simp only[Act.put,zsE]
    refine wpAnyIn_done (by kernel_rfl) ?_ _
    exact HP.out
   ·go_simp
    refine hK _ _ ?_;clear hK K;try simp only[Act.put,zsE]
    refine wpAnyIn_ready (rs:=[0,3]) (by kernel_rfl) (by simp) ?_
    refine AllReadyIn.cons rfl (fun K hK=>?_) (AllReadyIn.cons rfl (fun K hK=>?_) AllReadyIn.nil)
    ·go_simp
     refine hK _ _ ?_;clear hK K;try simp only[Act.put,zsE]
     refine wpAnyIn_ready (rs:=[3]) (by kernel_rfl) (by simp) ?_
     refine AllReadyIn.cons rfl (fun K hK=>?_) AllReadyIn.nil
     go_simp
     refine ⟨trivial,?_⟩;refine (CallsIn.inRound l' (callsIn_wide.2 HCE.out)).mono ?_;rintro r w6 ⟨av6,cv6,rfl,hG6,hb6⟩;have hv6:=(cX HVD.out hb6).cell;gi_wp2_with fail
     try simp only[Act.put,zsE]
     refine wpAnyIn_ready (rs:=[4]) (by kernel_rfl) (by simp) ?_
     refine AllReadyIn.cons rfl (fun K hK=>?_) AllReadyIn.nil
     have hv7:=(cX (cX HVD.out hb6) (aC w6 (.cells #[.slice av6 xr.s.layer.length cv6] 40))).cell;go_simp
     refine hK _ _ ?_;clear hK K;try simp only[Act.put,zsE]
     refine wpAnyIn_ready (rs:=[5]) (by kernel_rfl) (by simp) ?_
     refine AllReadyIn.cons (o:=⟨some 33,_,_,_,_,_⟩) rfl (fun K hK=>?_) AllReadyIn.nil
     refine mO (by rfl) (.tmp 28) (.tmp 32) 36 (by rfl) (w4.heap.size+1) 40 i1 (.slice none 0 0) 1 24 Tryz.underlying36 ki kz0 kz1 kz2 rfl (by decide) (.slice va (bI pre).length vc) (bI pre).length (xs.map lyV) (by rfl) (HROW.out w6 hb6) ⟨w6.heap.size,0,none⟩ 1 1 [lyV ⟨xr.s.layer,av6,cv6⟩] (by rfl) (by rfl) (cell_one_new _ _ _) (by simp[lyV,Value.oneCell']) ((bI pre).length+1) rfl hm1 hm2 (by have h1:=hb6.size;have h2:W.drew.heap.size=W.heap.size:=rfl;rw[World.size_alloc];omega) ?_
     intro av8 cv8 w8 ho8 hg8;obtain ⟨hv8,hf8,hp8⟩:=HFIN.out w6 av6 cv6 hG6 hb6 av8 cv8 w8 ho8 hg8;have HP:=aA hp8;refine hK _ _ ?_;clear hK K ho8 hg8 hp8;try simp only[Act.put,zsE]
     refine wpAnyIn_ready (rs:=[6]) (by kernel_rfl) (by simp) ?_
     refine AllReadyIn.cons rfl (fun K hK=>?_) AllReadyIn.nil
     go_simp
     refine hK _ _ ?_;clear hK K;try simp only[Act.put,zsE]
     refine wpAnyIn_done (by kernel_rfl) ?_ _
     exact HP.out
    ·go_simp
     refine ⟨trivial,?_⟩;refine (CallsIn.inRound l' (callsIn_wide.2 HCE.out)).mono ?_;rintro r w6 ⟨av6,cv6,rfl,hG6,hb6⟩;have hv6:=(cX HVD.out hb6).cell;gi_wp2_with fail
     try simp only[Act.put,zsE]
     refine wpAnyIn_ready (rs:=[0,4]) (by kernel_rfl) (by simp) ?_
     refine AllReadyIn.cons rfl (fun K hK=>?_) (AllReadyIn.cons rfl (fun K hK=>?_) AllReadyIn.nil)
     ·go_simp
      refine hK _ _ ?_;clear hK K;try simp only[Act.put,zsE]
      refine wpAnyIn_ready (rs:=[4]) (by kernel_rfl) (by simp) ?_
      refine AllReadyIn.cons rfl (fun K hK=>?_) AllReadyIn.nil
      have hv7:=(cX (cX HVD.out hb6) (aC w6 (.cells #[.slice av6 xr.s.layer.length cv6] 40))).cell;go_simp
      refine hK _ _ ?_;clear hK K;try simp only[Act.put,zsE]
      refine wpAnyIn_ready (rs:=[5]) (by kernel_rfl) (by simp) ?_
      refine AllReadyIn.cons (o:=⟨some 33,_,_,_,_,_⟩) rfl (fun K hK=>?_) AllReadyIn.nil
      refine mO (by rfl) (.tmp 28) (.tmp 32) 36 (by rfl) (w4.heap.size+1) 40 i1 (.slice none 0 0) 1 24 Tryz.underlying36 ki kz0 kz1 kz2 rfl (by decide) (.slice va (bI pre).length vc) (bI pre).length (xs.map lyV) (by rfl) (HROW.out w6 hb6) ⟨w6.heap.size,0,none⟩ 1 1 [lyV ⟨xr.s.layer,av6,cv6⟩] (by rfl) (by rfl) (cell_one_new _ _ _) (by simp[lyV,Value.oneCell']) ((bI pre).length+1) rfl hm1 hm2 (by have h1:=hb6.size;have h2:W.drew.heap.size=W.heap.size:=rfl;rw[World.size_alloc];omega) ?_
      intro av8 cv8 w8 ho8 hg8;obtain ⟨hv8,hf8,hp8⟩:=HFIN.out w6 av6 cv6 hG6 hb6 av8 cv8 w8 ho8 hg8;have HP:=aA hp8;refine hK _ _ ?_;clear hK K ho8 hg8 hp8;try simp only[Act.put,zsE]
      refine wpAnyIn_ready (rs:=[6]) (by kernel_rfl) (by simp) ?_
      refine AllReadyIn.cons rfl (fun K hK=>?_) AllReadyIn.nil
      go_simp
      refine hK _ _ ?_;clear hK K;try simp only[Act.put,zsE]
      refine wpAnyIn_done (by kernel_rfl) ?_ _
      exact HP.out
     ·have hv7:=(cX (cX HVD.out hb6) (aC w6 (.cells #[.slice av6 xr.s.layer.length cv6] 40))).cell
      go_simp
      refine hK _ _ ?_;clear hK K;try simp only[Act.put,zsE]
      refine wpAnyIn_ready (rs:=[0]) (by kernel_rfl) (by simp) ?_
      refine AllReadyIn.cons rfl (fun K hK=>?_) AllReadyIn.nil
      go_simp
      refine hK _ _ ?_;clear hK K;try simp only[Act.put,zsE]
      refine wpAnyIn_ready (rs:=[5]) (by kernel_rfl) (by simp) ?_
      refine AllReadyIn.cons (o:=⟨some 33,_,_,_,_,_⟩) rfl (fun K hK=>?_) AllReadyIn.nil
      refine mO (by rfl) (.tmp 28) (.tmp 32) 36 (by rfl) (w4.heap.size+1) 40 i1 (.slice none 0 0) 1 24 Tryz.underlying36 ki kz0 kz1 kz2 rfl (by decide) (.slice va (bI pre).length vc) (bI pre).length (xs.map lyV) (by rfl) (HROW.out w6 hb6) ⟨w6.heap.size,0,none⟩ 1 1 [lyV ⟨xr.s.layer,av6,cv6⟩] (by rfl) (by rfl) (cell_one_new _ _ _) (by simp[lyV,Value.oneCell']) ((bI pre).length+1) rfl hm1 hm2 (by have h1:=hb6.size;have h2:W.drew.heap.size=W.heap.size:=rfl;rw[World.size_alloc];omega) ?_
      intro av8 cv8 w8 ho8 hg8;obtain ⟨hv8,hf8,hp8⟩:=HFIN.out w6 av6 cv6 hG6 hb6 av8 cv8 w8 ho8 hg8;have HP:=aA hp8;refine hK _ _ ?_;clear hK K ho8 hg8 hp8;try simp only[Act.put,zsE]
      refine wpAnyIn_ready (rs:=[6]) (by kernel_rfl) (by simp) ?_
      refine AllReadyIn.cons rfl (fun K hK=>?_) AllReadyIn.nil
      go_simp
      refine hK _ _ ?_;clear hK K;try simp only[Act.put,zsE]
      refine wpAnyIn_done (by kernel_rfl) ?_ _
      exact HP.out
 case done =>
  rintro D ys W hD hys ⟨⟨⟨v,hv,hLL⟩,hX,hsz⟩,hB⟩ hK;rw[zj4 hys,HREV.out]at hLL;obtain ⟨va,vc,rfl⟩:=hLL.shape;have hv0:=hv.cell;have HX:=aA hX;have HB':=aA hB;have HK:=aA hK;have HLL:=aA hLL;clear hX hB hK hLL hys hv;obtain ⟨⟨q0,q1⟩,q2,q3⟩:=HX.out;gi_wp2_with fail
  obtain ⟨k1,k2,k3⟩:=zz7 HX.out.1 HK.out (.int .i64 0) (.slice va (dF l e).length vc);refine ⟨by simp,.inl ⟨_,_,rfl,run_takeDeferred k1,?_⟩⟩
  have hcap:(dF l e).length≤vc:=by
   obtain ⟨xs,-,h2,-⟩:=HLL.out;rcases h2.2 with ⟨-,h0⟩ | ⟨g',cap,cur,h9,-,-,h8,-⟩
   ·omega
   ·simp only[Value.slice.injEq]at h9
    omega
  refine ⟨.agg #[.int .i64 0,.slice va (dF l e).length vc],by simp[results,Tryz.results14,go_sem,k2,k3],va,vc,rfl,?_,hcap,?_⟩
  ·exact (((HLL.out.kept (aE.two W w.heap.size 0 1 _ _) (fun b hb e=>by omega)).grown (grownBy_putObj' _ _ _) (fun r e=>by cases e;exact ⟨_,k1,rfl⟩))).mono (by omega)
  ·exact ((HB'.out.setCell (p:=⟨w.heap.size,0,none⟩) (Nat.le_refl _) _).setCell (p:=⟨w.heap.size,1,none⟩) (Nat.le_refl _) _).trans (belowK_b (w:=w) (Nat.le_refl _) _ D _ _ (by omega) k1 rfl rfl)
 case stop =>
  rintro D c' pre W hD hpre hc hK;exact hc.elim
end Go.Proofs.YtgaeikgoknoamaaGreat
namespace Go.Proofs.YtgaeikgoknoamaaGreat
open Go.RowKit Go.Maps
attribute [local go_sem ↓] Go.wp_at_zero Go.wp_at_succ
def zii:Value→Nat
 | .slice _ n _=>n
 | _=>0
structure rJ (l:List Sn) (s:Sn) (done:List Sn) (f:Nat) (p:Bs) (o:Option Sn):Prop where
 line:aI l 5 (some s)=done++aI l f o
 num:done.length+f=5
 here:o=if p=[] then none else atS l p
 found:p≠[]→∃ t,o=some t∧t∈l∧t.name=p
theorem rJ.end {l:List Sn} {s:Sn} {done:List Sn} {f:Nat} {o:Option Sn} (h:rJ l s done f [] o):dF l s=(done.map Sn.layer).reverse:=by
 have h1:=h.here;rw[if_pos rfl]at h1;unfold dF;rw[h.line,h1,iC,List.append_nil]
theorem rJ.short {l:List Sn} {s:Sn} {done:List Sn} {f:Nat} {p:Bs} {o:Option Sn} (hR:aP l) (hs:s∈l) (h:rJ l s done f p o):done.length≤4:=by
 have h1:=hR.line hs;rw[h.line,List.length_append]at h1;omega
theorem rJ.step {l:List Sn} {s:Sn} {done:List Sn} {f:Nat} {p:Bs} {o:Option Sn} (hR:aP l) (hs:s∈l) (h:rJ l s done f p o) {t:Sn} (ho:o=some t) (ht:t∈l):∃ f' o',rJ l s (done ++ [t]) f' t.parent o':=by
 have h4:=h.short hR hs;have h5:=h.num;obtain ⟨f',rfl⟩:∃ f',f=f'+1:=⟨f - 1,by omega⟩
 have hl:=h.line;rw[ho,show aI l (f'+1) (some t)=t :: aI l f' (atS l t.parent) from rfl]at hl
 have hn0:t.parent=[]→atS l t.parent=none:=fun e=>iY.2 fun x hx e2=>fY (hR.own x hx).1 (e2.trans e)
 refine ⟨f',atS l t.parent,by rw[hl];simp,by simp;omega,?_,fun hp=>?_⟩
 ·by_cases hp:t.parent=[]
  ·rw[if_pos hp,hn0 hp]
  ·rw[if_neg hp]
 ·rcases hR.stand t ht with e | ⟨q,hq,-⟩
  ·exact absurd e hp
  ·exact ⟨q,hq,(bU hq).1,(bU hq).2⟩
theorem LL.front {B:Nat} {w w2:World} {v v':Value} {ls:List (List En)} {xs:List Ly} {x:Ly} (hx:xs.map Ly.es=ls) (h2:∀ x∈xs,GW B w (lyV x) x.es) (hG:GW B w (lyV x) x.es) (h1:w.ownsRow B 40 1 v 1 [lyV x])
  (ho:w2.ownsRow B 40 1 v' (ls.length+1) ([lyV x]++xs.map lyV)) (hk:aE (fun b=>v.ownBlock=some b) w w2):LL B w2 v' (x.es :: ls):=by
 refine ⟨x :: xs,by rw[List.map_cons,hx],by simpa using ho,fun y hy=>?_⟩
 rcases List.mem_cons.1 hy with rfl | hy
 ·exact hG.apart h1 (by decide) (by decide) hk
 ·exact (h2 y hy).apart h1 (by decide) (by decide) hk
theorem zx3 (a:Option Addr) (c n:Nat) (l:List Sn) (s:Sn) (nm:Bs) (w:World) (h:RdS w a l) (hn:n=l.length) (hR:aP l) (hs:bW l) (hat:atS l nm=some s) :
  Calls Tryz.prog 221 #[.slice a n c,.string (str nm)] w fun r w'=>∃ g cv,r=.returned (.slice (some ⟨g,0,none⟩) (dF l s).length cv)∧(dF l s).length≤cv∧LL w.heap.size w' (.slice (some ⟨g,0,none⟩) (dF l s).length cv) (dF l s)∧Below w.heap.size w w':=by
 subst hn;obtain ⟨i1,ki,kz0,kz1,kz2⟩:=info_parts zr3;have hl:=hR.len;have hne:nm≠[]:=fun e=>fY (hR.own s (bU hat).1).1 ((bU hat).2.trans e)
 have W0:Hid (rJ l s [] 5 nm (some s)):=aA ⟨rfl,rfl,by rw[if_neg hne,hat],fun _=>⟨s,rfl,(bU hat).1,(bU hat).2⟩⟩
 have HSL:=aA (bU hat).1;have HRd:=aA h;have HR:=aA hR;have HSM:=aA hs;clear h hR hs hat hne;go_enter Tryz.func221,Tryz.ntmps221;go_wp2_with fail
 go_loopw [1,5] (fun nv v wr=>∃ (p:Bs) (done:List Sn) (f:Nat) (o:Option Sn) (g cv:Nat),nv=.string (str p)∧v=.slice (some ⟨g,0,none⟩) done.length cv∧done.length≤4∧done.length≤cv∧Hid (rJ l s done f p o)∧Hid (LL w.heap.size wr v (done.map Sn.layer).reverse)∧Hid (Below w.heap.size w wr)) (fun _ v _=>5 - zii v)
 case atStart=>exact ⟨nm,[],5,some s,w.heap.size,0,rfl,rfl,by decide,by decide,W0,aA ⟨[],rfl,World.ownsRow_made w #[] 0 (Nat.le_refl _) (Nat.zero_le _) rfl,fun x hx=>by simp at hx⟩,aA (aC _ _)⟩
 case round =>
  obtain ⟨p,done,f,o,g,cv,rfl,rfl,hd4,hdc,HWE,HLL,HW⟩:=hrel;have hsz:=HW.out.size;by_cases hp:p=[]
  ·have hpe:(str p).toList.isEmpty=true:=by rw[hp,aM];rfl
   subst hp;have HCE:=aA HWE.out.end;have HCL:=aA (show (dF l s).length=done.length by rw[HCE.out];simp)
   go_wp2_with fail
   go_ret
   exact ⟨g,cv,by rw[HCL.out];rfl,by rw[HCL.out];exact hdc,by rw[HCL.out,HCE.out];exact HLL.out,HW.out⟩
  ·have hpe:(str p).toList.isEmpty=false:=by
    rw[aM];cases hq:p with | nil=>exact absurd hq hp | cons _ _=>rfl
   obtain ⟨t,hot,htl,htn⟩:=HWE.out.found hp;obtain ⟨f2,o2,hw2⟩:=HWE.out.step HR.out HSL.out hot htl;have HW2:=aA hw2;have HPT:=aA (show plS l p=(plS l p) from rfl)
   have hatp:atS l p=some t:=by rw[←htn];exact jX HR.out.rise htl
   go_wp2_with fail
   refine (fT a c l.length l p wr (HRd.out.below HW.out) rfl (by omega)).mono ?_
   rintro r w1 ⟨rfl,hw1⟩;subst hw1;cases hpl:plS l p with
   | none=>have:=fZ hpl;rw[hatp]at this;cases this
   | some j =>
    obtain ⟨t2,hq,hat2⟩:=gW hpl;have htt:t2=t:=by rw[hatp]at hat2;exact (Option.some.inj hat2).symm
    subst htt;have hjl:=(List.getElem?_eq_some_iff.1 hq).1;obtain ⟨b2,off2,e,x2,cc2,hbb,hb2,he,d0,d1,d2,d3,d4,hr2⟩:=(HRd.out.below HW.out).at hjl;subst hbb;have heq:e=t2:=by rw[hq]at he;exact (Option.some.inj he).symm
    subst heq;have hj0:¬ (j:Int)<0:=by omega
    have hj1:(j:Int)<(l.length:Int):=by omega
    have hsm:=HSM.out.2 e htl;have hs3:=hsm.2.2.1;have HSE:=aA hsm.2.2.2;have HRE:=aA hr2;clear hpl hq hat2 he hr2 d0 d2 d3 hsm hatp hot;simp only[cD];go_wp2_with fail
    refine (iA x2 cc2 e.layer.length e.layer w1 HRE.out rfl hs3 HSE.out).mono ?_;rintro r w2 ⟨g2,cv2,rfl,hcv2,hG2,hb2'⟩;have G2:=aA ((GW.of hG2).mono hsz);have B2:=aA (aB HW.out hb2');have L2:=aA (HLL.out.below hb2');have d1:=(hb2'.cell (p:=⟨b2,off2+j * 5+1,none⟩) hb2).trans d1;have hs2:=hb2'.size;have hb3:b2<w2.heap.size:=by omega
    clear hG2 hb2' d4;obtain ⟨xs,q1,q2,q3⟩:=(L2.out.below (aC w2 (.cells #[.slice (some ⟨g2,0,none⟩) e.layer.length cv2] 40)));have Q1:=aA q1;rw[show ((done.map Sn.layer).reverse).length=done.length by simp]at q2
    have Q2:=aA q2;have Q3:=aA q3;have hxl:xs.length=done.length:=by have:=congrArg List.length q1;simpa using this
    have OWN:Hid ((w2.alloc (.cells #[.slice (some ⟨g2,0,none⟩) e.layer.length cv2] 40)).ownsRow w.heap.size 40 1 (.slice (some ⟨w2.heap.size,0,none⟩) 1 1) 1 [lyV ⟨e.layer,some ⟨g2,0,none⟩,cv2⟩]):=aA ⟨rfl,.inr ⟨w2.heap.size,1,#[.slice (some ⟨g2,0,none⟩) e.layer.length cv2],rfl,by omega,heap_alloc_new w2 _,Nat.le_refl _,by unfold maxLen;omega,rfl,rfl⟩⟩
    have NEWS:Hid (∀ q u,(xs.map lyV)[q]?=some u→(w2.alloc (.cells #[.slice (some ⟨g2,0,none⟩) e.layer.length cv2] 40)).cell? ((⟨g,0,none⟩:Addr).add q)=some u):=aA (fun q u hu=>by
     rw[eK,Nat.zero_add];have hlt:q<(xs.map lyV).length:=(List.getElem?_eq_some_iff.1 hu).1;rw[Q2.out.cellAt q (by rw[List.length_map]at hlt;omega)]
     exact hu)
    have G3:=aA (G2.out.below (aC w2 (.cells #[.slice (some ⟨g2,0,none⟩) e.layer.length cv2] 40)));have B3:=aA (aB B2.out (aC w2 (.cells #[.slice (some ⟨g2,0,none⟩) e.layer.length cv2] 40)));have hxn:(xs.map lyV).length=done.length * 1:=by rw[List.length_map];omega
    have hm1:1+done.length≤maxLen:=by unfold maxLen;omega
    have hm1':(1+done.length) * 24≤140737488355328:=by omega
    have hsA:(w2.alloc (.cells #[.slice (some ⟨g2,0,none⟩) e.layer.length cv2] 40)).heap.size=w2.heap.size+1:=by simp
    clear q1 q2 q3 L2 HLL;go_wp2_with (at_builtin;refine eC rfl (.tmp 19) (.tmp 20) 36 rfl w.heap.size 40 i1 (.slice none 0 0) 1 24 Tryz.underlying36 ki kz0 kz1 kz2 rfl (by decide) (.slice (some ⟨w2.heap.size,0,none⟩) 1 1) 1 [lyV ⟨e.layer,some ⟨g2,0,none⟩,cv2⟩] rfl OWN.out ⟨g,0,none⟩ done.length cv (xs.map lyV) rfl hxn NEWS.out (by intro u hu;obtain ⟨y,-,rfl⟩:=List.mem_map.1 hu;rfl) (done.length+1) (by omega) hm1 hm1' (by omega) ?_;intro av6 cv6 w6 hown6 hk6;have O6:=aA hown6;have K6:=aA hk6;have d1:=(hk6.cell (p:=⟨b2,off2+j * 5+1,none⟩) (by rw[hsA];show b2<_;omega) (fun e=>by simp[Value.ownBlock]at e;omega)).trans (((aC w2 (.cells #[.slice (some ⟨g2,0,none⟩) e.layer.length cv2] 40)).cell (p:=⟨b2,off2+j * 5+1,none⟩) hb3).trans d1);clear hown6 hk6)
    obtain ⟨g6,hg6,hc6⟩:=iK O6.out (.inl (by omega))
    subst hg6;go_roundw
    case rel =>
     refine ⟨e.parent,done ++ [e],f2,o2,g6,cv6,rfl,by simp,HW2.out.short HR.out HSL.out,by simpa using hc6,HW2,aA ?_,aA ?_⟩
     ·have:=LL.front (x:=⟨e.layer,some ⟨g2,0,none⟩,cv2⟩) Q1.out Q3.out G3.out OWN.out (by simpa using O6.out) K6.out
      simpa using this
     ·exact B3.out.trans (K6.out.below (by omega) (fun q hq hS=>by simp[Value.ownBlock]at hS;omega))
    case measure=>simp[zii];omega
end Go.Proofs.YtgaeikgoknoamaaGreat
namespace Go.Proofs.YtgaeikgoknoamaaGreat
open Go.RowKit Go.Sort Go.Shelf
theorem zm5 (B g n c:Nat) (rs ss:List Rw) (w:World) (h:w.ownsRow B 91 4 (.slice (some ⟨g,0,none⟩) n c) n (iJ rs)) (hn:n=rs.length) (h12:n≤1048577) (hp:ss.Perm rs) (hs:ss.Pairwise (fun x y=>Op.bytesLess x.e.path y.e.path=true)) :
  Calls Tryz.prog 217 #[.slice (some ⟨g,0,none⟩) n c,.func (.func 121) #[] #[]] w fun e w'=>e=.returned (.tuple #[])∧(∀ i q r,ss[i]?=some r→q<4→w'.cell? ⟨g,i * 4+q,none⟩=(dB r)[q]?)∧aE (fun b=>b=g) w w':=by
 subst hn;haveI:Inhabited Rw:=⟨⟨⟨[],0,0,[]⟩,none,0⟩⟩;have hg:=(h.lt g rfl).2;have hH:HoldsK dB 4 w g 0 rs.toArray:=by
  intro j hj;rw[size_flatK]at hj;have hj4:j<rs.length * 4:=by simpa using hj
  have h1:j / 4<rs.length:=by omega
  obtain ⟨r,hr⟩:∃ r,rs[j / 4]?=some r:=⟨_,List.getElem?_eq_getElem h1⟩;have hc:=(h.cellAt (j / 4 * 4+j % 4) (by omega)).trans (xV rs (j / 4) (j % 4) _ hr (by omega))
  rw[show j / 4 * 4+j % 4=j by omega]at hc
  refine ⟨?_,h.frozenAt _⟩;rw[Nat.zero_add,hc,get_flatK _ _ _ _ hj];have e1:rs.toArray[j / 4]! = r:=by
   have:=List.getElem?_eq_some_iff.1 hr;simp[h1,this.2]
  rw[e1];have hl:j % 4<(dB r).length:=by show j % 4<4;omega
  simp only[id];rw[List.getElem?_eq_getElem hl,getElem!_pos (dB r) (j % 4) hl]
 have eg:∀ args w,(callFunc 121 args).run Tryz.prog w=.ok (.enter 121 args) w:=enters_of Tryz.func121 (by kernel_rfl) rfl
 have hsz:rs.toArray.size<4611686018427387904:=by have h2:=h12;simpa using (by omega:rs.length<4611686018427387904)
 have hlim:Lib.bitLen rs.length<4611686018427387904:=Nat.lt_of_le_of_lt (Lib.bitLen_le rs.length 62 (by omega) (by omega)) (by omega)
 have hpd:=AnyQ.pdqsortCmpFunc_all Tryz.pdqT 4 Tryz.isAgg91 Tryz.sizeOf91 dB (fun x y=>kY x.e.path y.e.path) 121 #[] zp5 g 0 c rs.toArray w eg (fun _ _ _ _ x y=>zm7 x y _) ⟨fun _=>rfl,fun x v hv=>sT [x] v (by simpa [iJ] using hv),hH,hg⟩ (rs.toArray.size+1) 0 rs.toArray.size (Lib.bitLen rs.length) rs.toArray w (by omega) rfl (SWK.start hH) (Nat.zero_le _) (Nat.le_refl _) hsz hlim (Or.inl rfl)
 have hps:=pdq_sorts (ltOf fun x y:Rw=>kY x.e.path y.e.path) zp5 rs.toArray 0 rs.toArray.size (Lib.bitLen rs.length) true true (Nat.zero_le _) (Nat.le_refl _) (Or.inl rfl)
 have hcon:Calls Tryz.prog 217 #[.slice (some ⟨g,0,none⟩) rs.length c,.func (.func 121) #[] #[]] w fun e w'=>e=.returned (.tuple #[])∧∃ d' n os,PermIn 0 rs.toArray.size rs.toArray d'∧SortedIn (ltOf fun x y:Rw=>kY x.e.path y.e.path) 0 rs.toArray.size d'∧w'=sortWorldK dB 4 w g 0 n d' os:=by
  have HP:Hid (Calls Tryz.prog 210 #[.slice (some ⟨g,0,none⟩) rs.length c,.int .i64 0,.int .i64 rs.length,.int .i64 (Lib.bitLen rs.length:Nat),.func (.func 121) #[] #[]] w fun e w'=>e=.returned (.tuple #[])∧∃ d' n os,PermIn 0 rs.toArray.size rs.toArray d'∧SortedIn (ltOf fun x y:Rw=>kY x.e.path y.e.path) 0 rs.toArray.size d'∧w'=sortWorldK dB 4 w g 0 n d' os):=aA (by
   have h2:=hpd;simp only[List.size_toArray]at h2;refine (show Calls Tryz.prog 210 _ w _ from h2).mono ?_
   rintro e w' ⟨he,n,os,hw⟩;exact ⟨he,_,n,os,by simpa using hps.1,by simpa using hps.2,hw⟩)
  have HL:Hid (Calls Tryz.prog 201 #[.int .u64 (rs.length:Int)] w fun e w'=>e=.returned (.int .i64 (Lib.bitLen rs.length:Nat))∧w'=w):=aA (by
   have h3:=Any.bits_Len Tryz.lenT (rs.length:Int) w (by omega) (by omega)
   rw[Int.toNat_natCast]at h3;exact h3)
  have wr:IntKind.u64.wrap (rs.length:Int)=rs.length:=by simp[IntKind.wrap,IntKind.bits,IntKind.signed];omega
  clear hpd hps hH hlim hsz;go_enter Tryz.func217,Tryz.ntmps217;go_wp2_with fail
  refine HL.out.mono ?_;rintro e w ⟨rfl,rfl⟩;go_wp2_with fail
  refine HP.out.mono ?_;rintro e w' ⟨rfl,hrest⟩;have HRS:=aA hrest;clear hrest;go_wp2_with fail
  first | go_end0 | skip
  exact ⟨rfl,HRS.out⟩
 refine (show Calls Tryz.prog 217 #[.slice (some ⟨g,0,none⟩) rs.length c,.func (.func 121) #[] #[]] w _ from hcon).mono ?_
 rintro e w' ⟨he,d',m,os,hperm,hsort,rfl⟩;obtain ⟨hsz,_,hpm⟩:=hperm;have hsz':d'.size=rs.length:=by simpa using hsz
 have hpm':d'.toList.Perm rs:=by
  have e1:(d'.extract 0 rs.toArray.size).toList=d'.toList:=by simp[←hsz']
  have e2:(rs.toArray.extract 0 rs.toArray.size).toList=rs:=by simp
  rw[e1,e2]at hpm;exact hpm
 have hnd:ss.Pairwise (fun x y=>x.e.path≠y.e.path):=hs.imp (fun h=>kD h)
 have hnd':d'.toList.Pairwise (fun x y=>x.e.path≠y.e.path):=(hpm'.trans hp.symm).symm.pairwise hnd (fun h=>h.symm)
 have hd:d'.toList=ss:=by
  refine wZ (hpm'.trans hp.symm) ?_ hs;rw[List.pairwise_iff_getElem];intro i j hi hj hij;have hne:=List.pairwise_iff_getElem.1 hnd' i j hi hj hij;have hlt:=hsort i j (Nat.zero_le _) hij (by simpa [←hsz'] using hj)
  have e1:ltOf (fun x y:Rw=>kY x.e.path y.e.path) d'[j]! d'[i]! = Op.bytesLess d'[j]!.e.path d'[i]!.e.path:=zx7 _ _
  rw[e1]at hlt;have hi':i<d'.size:=by simpa using hi
  have hj':j<d'.size:=by simpa using hj
  rw[getElem!_pos d' i hi',getElem!_pos d' j hj']at hlt;simp only[Array.getElem_toList]at hne ⊢;exact iZ _ _ hlt (fun x=>hne x.symm)
 have hK:=holdsK_sortWorldK_c dB 4 w g 0 rs.toArray d' m os hH hg (by simpa using hsz')
 refine ⟨he,fun i q r hi hq=>?_,?_⟩
 ·rw[←hd]at hi
  have hi':i<d'.size:=by have:=(List.getElem?_eq_some_iff.1 hi).1;simpa using this
  have:=(hK.cell (i:=i) (c:=q) hi' hq).1;rw[Nat.zero_add]at this;rw[this];have e1:d'[i]! = r:=by
   rw[getElem!_pos d' i hi'];have:=(List.getElem?_eq_some_iff.1 hi).2;simpa using this
  rw[e1];have hl:q<(dB r).length:=hq;rw[List.getElem?_eq_getElem hl,getElem!_pos (dB r) q hl]
 ·refine ⟨rfl,rfl,rfl,?_,fun k hk hn=>?_⟩
  ·show w.heap.size≤((w.heap.modify g _)++os).size
   simp
  ·show ((w.heap.modify g _)++os)[k]?=w.heap[k]?
   rw[Array.getElem?_append_left (by simpa using hk),Array.getElem?_modify]
   have:¬ g=k:=fun e=>hn e.symm
   simp[this]
end Go.Proofs.YtgaeikgoknoamaaGreat
namespace Go.Proofs.YtgaeikgoknoamaaGreat
open Go.RowKit Go.Maps Go.Sort
attribute [local go_sem ↓] Go.wp_at_zero Go.wp_at_succ
theorem zod {p:Bs} (h:aG p=0):p.length≤15:=by
 obtain ⟨ns,hN,hpe,_,_⟩:=eY h;have h1:=zv3 ns hN.2.2.1;have h2:=hN.2.2.2;rw[hpe];omega
theorem zua {rs:List Rw} {r:Rw} {e:En} {bs:List En} (h:rs.map Rw.e=bs) (he:r.e=e):∃ ss:List Rw,ss.Perm (rs ++ [r])∧ss.map Rw.e=dK bs e:=by
 refine ⟨rs.take (kC bs e.path)++r :: rs.drop (kC bs e.path),?_,?_⟩
 ·refine List.perm_middle.trans ?_
  rw[List.take_append_drop];exact (List.perm_append_singleton r rs).symm
 ·rw[List.map_append,List.map_cons,List.map_take,List.map_drop,h,he]
  rfl
theorem zcb {W0 wr w':World} {g:Nat} {ss:List Rw} (hc:∀ i q r,ss[i]?=some r→q<4→w'.cell? ⟨g,i * 4+q,none⟩=(dB r)[q]?) (hr:∀ r∈ss,aZ .i64 W0 r.a r.e.chunks) (hb:Below W0.heap.size W0 wr) (hk:aE (fun b=>b=g) wr w') (hg:W0.heap.size≤g) (hgw:g<wr.heap.size) :
  RdI w' (some ⟨g,0,none⟩) (ss.map Rw.e):=by
 intro _;refine ⟨g,0,fun i=>(ss[i]?.map Rw.a).getD none,fun i=>(ss[i]?.map Rw.c).getD 0,rfl,Nat.lt_of_lt_of_le hgw hk.size,fun i e hi=>?_⟩
 rw[List.getElem?_map]at hi;cases hri:ss[i]? with
 | none=>rw[hri]at hi;simp at hi
 | some r =>
  rw[hri]at hi;simp only[Option.map_some,Option.some.injEq]at hi;subst hi;have c0:=hc i 0 r hri (by decide)
  have c1:=hc i 1 r hri (by decide)
  have c2:=hc i 2 r hri (by decide)
  have c3:=hc i 3 r hri (by decide)
  have hrr:=hr r (List.mem_of_getElem? hri);simp only[hri,Option.map_some,Option.getD_some,Nat.zero_add];refine ⟨by simpa [dB] using c0,by simpa [dB] using c1,by simpa [dB] using c2,by simpa [dB] using c3,?_⟩
  refine (hrr.below hb).kept hk (fun hz x hx e=>?_)
  obtain ⟨b,off,e1,hb1,_⟩:=hrr hz;rw[e1]at hx;cases hx
  simp only at e;omega
theorem zxf {es:List En} (h:fG es) (p:Bs):fG (eU es p):=h.sublist List.filter_sublist
theorem pR (W:World) (bs:List En) (e:En) (x:Option Addr) (cc:Nat) (rs:List Rw) (av:Option Addr) (cv:Nat) (w1 u:World) (hrs:rs.map Rw.e=bs) (hrd:∀ r∈rs,aZ .i64 w1 r.a r.e.chunks) (hx:aZ .i64 w1 x e.chunks) (hb:Below w1.heap.size w1 u) (hw:W.heap.size≤w1.heap.size) (hB:Below W.heap.size W u)
  (ho:u.ownsRow w1.heap.size 91 4 (.slice av (bs.length+1) cv) (bs.length+1) (iJ rs++dB ⟨e,x,cc⟩)) (hl:bs.length≤1048576) (hr:fG bs) (hn:∀ y∈bs,y.path≠e.path) :
  ∃ g,av=some ⟨g,0,none⟩∧Calls Tryz.prog 217 #[.slice (some ⟨g,0,none⟩) (bs.length+1) cv,.func (.func 121) #[] #[]] u fun r w'=>r=.returned (.tuple #[])∧RdI w' (some ⟨g,0,none⟩) (dK bs e)∧Below W.heap.size W w':=by
 obtain ⟨g,hgv,-⟩:=iK ho (.inl (by omega))
 subst hgv;obtain ⟨ss,hperm,hmap⟩:=zua (r:=⟨e,x,cc⟩) hrs rfl;have hrise:ss.Pairwise (fun x y=>Op.bytesLess x.e.path y.e.path=true):=by
  have:=oV (e:=e) hr hn;rw[←hmap]at this;exact List.pairwise_map.1 this
 have ho2:u.ownsRow w1.heap.size 91 4 (.slice (some ⟨g,0,none⟩) (bs.length+1) cv) (bs.length+1) (iJ (rs ++ [⟨e,x,cc⟩])):=by rw[xA];simpa [iJ] using ho
 have hlen:bs.length+1=(rs ++ [(⟨e,x,cc⟩:Rw)]).length:=by rw[List.length_append,←hrs,List.length_map];rfl
 have hgl:=ho.lt g rfl;refine ⟨g,rfl,(zm5 w1.heap.size g (bs.length+1) cv (rs ++ [⟨e,x,cc⟩]) ss u ho2 hlen (by omega) hperm hrise).mono ?_⟩
 rintro r w' ⟨rfl,hc,hk⟩;refine ⟨rfl,?_,hB.trans (hk.below hB.size (fun q hq hS=>by have:q=g:=hS;omega))⟩
 rw[←hmap];refine zcb hc (fun r hr=>?_) hb hk hgl.1 hgl.2
 rcases List.mem_append.1 (hperm.subset hr) with hr | hr
 ·exact hrd r hr
 ·simp only[List.mem_singleton]at hr
  subst hr;exact hx
end Go.Proofs.YtgaeikgoknoamaaGreat
