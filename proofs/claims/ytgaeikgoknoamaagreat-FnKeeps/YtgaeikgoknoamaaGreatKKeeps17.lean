/-
  Texts put together: SnpV SnqK MerP SeeJ OvrA.
-/
import Derived.Test.YtgaeikgoknoamaaGreatKKeeps16
import Derived.Test.YtgaeikgoknoamaaGreatKKeeps9
import Derived.Test.YtgaeikgoknoamaaGreatKKeeps10
import Derived.Test.YtgaeikgoknoamaaGreatKKeeps14
import Derived.Deep.RegionHeld3
import Derived.Test.YtgaeikgoknoamaaGreatKKeeps6
import Derived.Test.YtgaeikgoknoamaaGreatKKeeps7
import Derived.Test.YtgaeikgoknoamaaGreatKKeeps8
set_option linter.unusedVariables false
set_option maxHeartbeats 6400000
set_option maxRecDepth 100000
namespace Go.Proofs.YtgaeikgoknoamaaGreat
open Go.RowKit Go.Shelf
attribute [local go_sem] Oper.semAt_some
def znl (q:Int) (ls:List (List En)) (w:World) (r:Ending) (w':World):Prop :=
 ∃ av cv,r=.returned (.agg #[.int .i64 q,.slice av ls.length cv])∧LL w.heap.size w' (.slice av ls.length cv) ls∧ls.length≤cv∧Below w.heap.size w w'
theorem zx7 (a:Option Addr) (n c:Nat) (w:World) :
  Calls Tryz.prog 40 #[.slice a n c] w fun e w'=>e=.returned (.func (.func 85) #[] #[.pointer (some ⟨w.heap.size,0,none⟩)])∧w'=w.alloc (.cells #[.slice a n c] 24):=by
 go_enter Tryz.func40,Tryz.ntmps40;go_wp2
 go_ret
 exact ⟨rfl,rfl⟩
def bK {P:Rs→Prop} (pre:List (Pl P)):List (List En):=pre.map fun x=>x.2.1.s.layer
theorem zn4 {P:Rs→Prop} (pre:List (Pl P)) (x:Pl P):bK (pre ++ [x])=bK pre ++ [x.2.1.s.layer]:=by simp[bK]
theorem zi6 {P:Rs→Prop} {ys:List (Pl P)} {rs:List Rs} (h:ys.map (fun x=>x.2.1)=rs):bK ys=rs.map fun r=>r.s.layer:=by rw[←h];simp[bK]
theorem zcl {β:Type} (R B:Nat) (t:TypeId) (f:β→List (List En)):Go.Own (fun s W=>∃ v,Boxed W B t v∧LL R W v (f s)):=by
 intro s W W' row hs hg hr;obtain ⟨v,h1,h2⟩:=hs;exact ⟨v,boxed_own B t (fun (_:Unit)=>v) () W W' row h1 hg hr,h2.grown hg hr⟩
theorem zq8 {W W':World} (h:Below W.heap.size W W'):KeepsOthers W W':=⟨h.size,fun k o hk _=>(h.block k (Array.getElem?_eq_some_iff.1 hk).1).trans hk⟩
theorem dA {W W':World} {B:Nat} {t:TypeId} {v:Value} (h:Boxed W B t v) (hk:Below W.heap.size W W'):Boxed W' B t v:=(hk.block B h.lt).trans h
theorem zl0 (a:Option Addr) (c n:Nat) (l:List Sn) (nm:Bs) (s:Sn) (w:World) (h:RdS w a l) (hn:n=l.length) (hR:bH l) (hs:dF l) (ht:atS l nm=some s) :
  Calls Tryz.prog 14 #[.slice a n c,.string (str nm)] w (znl 0 (cH l s) w):=by
 subst hn;obtain ⟨i1,ki,kz0,kz1,kz2⟩:=info_parts zu5;have hl:=hR.len;have B0:=aA (aC w (.cells #[.int .i64 0,.slice none 0 0] 38));have X0:=aA (Box.new w (.int .i64 0) (.slice none 0 0) 38);have HSF:=aA (lD a c l.length l _ (h.below B0.out) rfl (by omega) hs)
 rw[oI.2 hR]at HSF;have HRd:=aA h;have HAT:=aA ht;have HNE:=aA (show ∀ y∈l,y.name≠[] from fun y hy=>iC (hR.own y hy).1)
 have HNM:=aA (iC (hR.own s (cI ht).1).1);have HSM:=aA (show ∀ y∈l,y.layer.length≤1048576∧cG y.layer from fun y hy=>(hs.2 y hy).2.2)
 have HMEM:=aA (show ∀ y∈aL l 5 (some s),y∈l from lH (fun y hy=>by cases hy;exact (cI ht).1))
 have hL5:=rN l 5 (some s);have hL0:0<(aL l 5 (some s)).length:=by simp[aL]
 clear h hR hs ht;refine (callsIn_wide (n:=4)).1 ?_;refine callsIn_of_wp_marks Tryz.func14 rfl trivial ?_ rfl;simp only[Tryz.ntmps14,List.size_toArray,List.length_cons,List.length_nil,Nat.reduceAdd,Nat.reduceSub,Array.replicate_succ,Array.replicate_zero,List.push_toArray,List.append_toArray,List.nil_append,List.cons_append];gi_wp2_with fail
 have hsz0:(w.alloc (.cells #[.int .i64 0,.slice none 0 0] 38)).heap.size=w.heap.size+1:=by simp
 generalize w.alloc (.cells #[.int .i64 0,.slice none 0 0] 38)=W0 at *;refine ⟨trivial,?_⟩;refine (callsIn_wide.2 HSF.out).mono ?_;rintro e w1 ⟨rfl,hb1⟩;have B1:=aA (aB B0.out hb1);have X1:=aA (X0.out.below hb1);have hs1:=hb1.size;clear hb1;gi_wp2_with fail
 refine ⟨trivial,?_⟩;refine (callsIn_wide.2 (uK a c l.length l nm w w1 B1.out HRd.out rfl (by omega))).mono ?_
 rintro r w2 ⟨⟨e,x2,c2,he,rfl,hx2⟩,hb2⟩;rw[HAT.out]at he;have he2:e=s:=he;subst he2;have HX2:=aA hx2;have B2:=aA (aB B1.out (aB hb2 (aC w2 (.cells #[.string (str e.name),.string (str e.parent),.int .i64 e.kind,.bool e.lease,.slice x2 e.layer.length c2] 42))));have X2:=aA (X1.out.below (aB hb2 (aC w2 (.cells #[.string (str e.name),.string (str e.parent),.int .i64 e.kind,.bool e.lease,.slice x2 e.layer.length c2] 42))));have F2:=aA (gT.new w2 (.string (str e.name)) (.string (str e.parent)) (.int .i64 e.kind) (.bool e.lease) (.slice x2 e.layer.length c2) 42)
 have hs2:=hb2.size;clear hb2 he hx2;gi_wp2_with fail
 have hsz2:(w2.alloc (.cells #[.string (str e.name),.string (str e.parent),.int .i64 e.kind,.bool e.lease,.slice x2 e.layer.length c2] 42)).heap.size=w2.heap.size+1:=by simp
 generalize w2.alloc (.cells #[.string (str e.name),.string (str e.parent),.int .i64 e.kind,.bool e.lease,.slice x2 e.layer.length c2] 42)=W2 at *;refine ⟨trivial,?_⟩;refine (callsIn_wide.2 (vQ e _ _ _ HNM.out)).mono ?_;rintro r w3 ⟨rfl,hb3⟩;have B3:=aA (aB B2.out (aB hb3 (aC w3 (.cells #[.slice none 0 0] 36))));have X3:=aA (X2.out.below (aB hb3 (aC w3 (.cells #[.slice none 0 0] 36))));have F3:=aA (F2.out.below (aB hb3 (aC w3 (.cells #[.slice none 0 0] 36))));have V3:=aA (Boxed.new w3 36 (.slice none 0 0));have hs3:=hb3.size
 obtain ⟨f0,f1,f2,f3,f4⟩:=F3.out;clear hb3;gi_wp2_with fail
 have hsz3:(w3.alloc (.cells #[.slice none 0 0] 36)).heap.size=w3.heap.size+1:=by simp
 generalize w3.alloc (.cells #[.slice none 0 0] 36)=W3 at *;refine ⟨trivial,?_⟩;refine (callsIn_wide.2 (zz0 a c l.length l e x2 c2 w W3 B3.out HRd.out HX2.out rfl (by omega) HNE.out HNM.out)).mono ?_
 rintro r w4 ⟨av4,cv4,rfl,hL4,hb4⟩;have HL4:=aA hL4;have B4:=aA (aB B3.out hb4);have X4:=aA (X3.out.below hb4);have V4:=aA (dA V3.out hb4);have hs4:=hb4.size;clear hL4 hb4 f0 f1 f2 f3 f4;gi_wp2_with fail
 refine ⟨trivial,?_⟩;refine (callsIn_wide.2 (zx7 _ _ _ _)).mono ?_;rintro r w5 ⟨rfl,rfl⟩;gi_wp2_with fail
 obtain ⟨rs,g1,g2,g3⟩:=HL4.out;obtain ⟨g,hgv,-⟩:=jO g2 (.inl hL0);subst hgv;have hgl:=g2.lt g rfl;have hrsl:rs.length=(aL l 5 (some e)).length:=by rw[←g1,List.length_map]
 have hgc:∃ o:Obj,(w4.alloc (.cells #[.slice (some ⟨g,0,none⟩) (aL l 5 (some e)).length cv4] 24)).heap[g]?=some o∧o.isCells=true:=by
  rcases g2.2 with ⟨h9,_⟩ | ⟨g',cap,cur,h9,_,hh,_⟩
  ·cases h9
  ·simp only[Value.slice.injEq,Option.some.injEq,Addr.mk.injEq]at h9
   obtain ⟨⟨rfl,-⟩,-⟩:=h9;exact ⟨_,(Below.heap_alloc _ _ _ hgl.2).trans hh,rfl⟩
 have hbc:∃ o:Obj,(w4.alloc (.cells #[.slice (some ⟨g,0,none⟩) (aL l 5 (some e)).length cv4] 24)).heap[w4.heap.size]?=some o∧o.isCells=true:=⟨_,World.alloc_heap_new w4 _,rfl⟩;have hrow:∀ i r,rs[i]?=some r→(w4.alloc (.cells #[.slice (some ⟨g,0,none⟩) (aL l 5 (some e)).length cv4] 24)).cell? ⟨g,i * 5,none⟩=some (.string (str r.s.name))∧(w4.alloc (.cells #[.slice (some ⟨g,0,none⟩) (aL l 5 (some e)).length cv4] 24)).cell? ⟨g,i * 5+1,none⟩=some (.string (str r.s.parent))∧(w4.alloc (.cells #[.slice (some ⟨g,0,none⟩) (aL l 5 (some e)).length cv4] 24)).cell? ⟨g,i * 5+2,none⟩=some (.int .i64 r.s.kind)∧(w4.alloc (.cells #[.slice (some ⟨g,0,none⟩) (aL l 5 (some e)).length cv4] 24)).cell? ⟨g,i * 5+3,none⟩=some (.bool r.s.lease)∧(w4.alloc (.cells #[.slice (some ⟨g,0,none⟩) (aL l 5 (some e)).length cv4] 24)).cell? ⟨g,i * 5+4,none⟩=some (.slice r.a r.s.layer.length r.c):=fun i r hr=>by
  have hi:=(List.getElem?_eq_some_iff.1 hr).1;have hc:=fun q hq=>((aC w4 (.cells #[.slice (some ⟨g,0,none⟩) (aL l 5 (some e)).length cv4] 24)).cell (p:=⟨g,i * 5+q,none⟩) hgl.2).trans ((g2.cellAt (i * 5+q) (by omega)).trans (oG rs i q r hr hq))
  exact ⟨hc 0 (by decide),hc 1 (by decide),hc 2 (by decide),hc 3 (by decide),hc 4 (by decide)⟩
 have HREV:=aA (show (rs.reverse.map fun r=>r.s.layer)=cH l e by unfold cH;rw[←g1,List.map_reverse,List.map_map];rfl)
 have hPP:∀ r∈rs,RdE w r.a r.s.layer∧r.s∈l:=fun r hr=>⟨g3 r hr,HMEM.out _ (by rw[←g1];exact List.mem_map_of_mem hr)⟩
 have B5:Below w.heap.size w (w4.alloc (.cells #[.slice (some ⟨g,0,none⟩) (aL l 5 (some e)).length cv4] 24)):=aB B4.out (aC _ _);have X5:=X4.out.below (aC w4 (.cells #[.slice (some ⟨g,0,none⟩) (aL l 5 (some e)).length cv4] 24));have V5:=dA V4.out (aC w4 (.cells #[.slice (some ⟨g,0,none⟩) (aL l 5 (some e)).length cv4] 24));have C5:(w4.alloc (.cells #[.slice (some ⟨g,0,none⟩) (aL l 5 (some e)).length cv4] 24)).cell? ⟨w4.heap.size,0,none⟩=some (.slice (some ⟨g,0,none⟩) rs.length cv4):=by rw[hrsl];simp
 have hsz5:(w4.alloc (.cells #[.slice (some ⟨g,0,none⟩) (aL l 5 (some e)).length cv4] 24)).heap.size=w4.heap.size+1:=by simp
 clear HL4 g1 g2 g3;generalize w4.alloc (.cells #[.slice (some ⟨g,0,none⟩) (aL l 5 (some e)).length cv4] 24)=W5 at *;refine wpIn_rangeFunc_ownH (α:=Pl (fun r=>RdE w r.a r.s.layer∧r.s∈l)) rfl (by decide) (gf:=85) (lb:=#[.pointer (some ⟨w4.heap.size,0,none⟩)]) rfl trivial (enters_of Tryz.func85 (by kernel_rfl) rfl)
  (encs:=plV) (Kp:=KpR w4.heap.size g) (S:=fun ys=>ys.map (fun x=>x.2.1)=rs.reverse) (Sp:=fun _=>True) (N:=rs.length) (w0:=W5)
  (fun l' J Jx W hW hJ _ hY h0=>zu4 _ l' w4.heap.size g cv4 _ rs hPP (by omega) J Jx _ hJ hY W
   (by obtain ⟨o,h1,h2⟩:=hbc;exact ⟨o,(hW.block _ (by omega)).trans h1,h2⟩) (by obtain ⟨o,h1,h2⟩:=hgc;exact ⟨o,(hW.block _ (by omega)).trans h1,h2⟩) ((hW.cell (p:=⟨w4.heap.size,0,none⟩) (by show w4.heap.size<_;omega)).trans C5)
   (fun i r hr=>by obtain ⟨c0,c1,c2,c3,c4⟩:=hrow i r hr;exact ⟨(hW.cell (p:=⟨g,_,none⟩) (by show g<_;omega)).trans c0,(hW.cell (p:=⟨g,_,none⟩) (by show g<_;omega)).trans c1,(hW.cell (p:=⟨g,_,none⟩) (by show g<_;omega)).trans c2,(hW.cell (p:=⟨g,_,none⟩) (by show g<_;omega)).trans c3,(hW.cell (p:=⟨g,_,none⟩) (by show g<_;omega)).trans c4⟩) h0)
  KpR.trans (fun W l' o o' _ hl hc _=>KpR.put W l' o o' hl hc) (Below.refl _ _) (fun _=>rfl)
  (fun pre W=>((∃ v,Boxed W w3.heap.size 36 v∧LL (w4.heap.size+1) W v (bK pre))∧Box W w.heap.size (.int .i64 0) (.slice none 0 0)∧w4.heap.size+1≤W.heap.size)∧Below w.heap.size w W)
  (fun _ _ _=>False)
  (OwnFrom.and (OwnFrom.and (Own.from (zcl _ _ _ bK) _) (OwnFrom.and (Own.from (zz9 _ _ _) _) (fun _ _ _ _ hs hg _=>Nat.le_trans hs hg.size))) (ownFrom_below (Nat.le_refl _) (by omega)))
  (fun _ _ _ _ _ hs _ _=>hs)
  ⟨⟨⟨_,V5,LL.nil _ _⟩,X5,by omega⟩,B5⟩
  (fun x a' W=>∃ Bx,w4.heap.size<Bx∧gT W Bx (.string (str x.2.1.s.name)) (.string (str x.2.1.s.parent)) (.int .i64 x.2.1.s.kind) (.bool x.2.1.s.lease) (.slice x.2.1.a x.2.1.s.layer.length x.2.1.c)∧a' = { tmps:=#[.slice a l.length c,.string (str nm),undef,undef,.pointer (some ⟨w.heap.size,0,none⟩),.int .i64 0,.pointer (some ⟨w2.heap.size,0,none⟩),.pointer (some ⟨w3.heap.size,0,none⟩),undef,.pointer (some ⟨Bx,0,none⟩),.slice a l.length c,.int .i64 0,.int .i64 0,.bool false,undef,undef,.slice a l.length c,.string (str nm),.agg #[.string (str e.name),.string (str e.parent),.int .i64 e.kind,.bool e.lease,.slice x2 e.layer.length c2],.agg #[.string (str e.name),.string (str e.parent),.int .i64 e.kind,.bool e.lease,.slice x2 e.layer.length c2],.bool false,undef,.slice a l.length c,.agg #[.string (str e.name),.string (str e.parent),.int .i64 e.kind,.bool e.lease,.slice x2 e.layer.length c2],.slice (some ⟨g,0,none⟩) (aL l 5 (some e)).length cv4,.func (.func 85) #[] #[.pointer (some ⟨w4.heap.size,0,none⟩)],.int .i64 x.1,.agg #[.string (str x.2.1.s.name),.string (str x.2.1.s.parent),.int .i64 x.2.1.s.kind,.bool x.2.1.s.lease,.slice x.2.1.a x.2.1.s.layer.length x.2.1.c],undef,undef,undef,undef,undef,undef,undef,undef],defers:=[] })
  (fun x a' _ X Y row hs hg hr=>by
   obtain ⟨Bx,h1,h2,h3⟩:=hs;have hr2:=fun r e=>(hr r e).2
   exact ⟨Bx,h1,⟨cell_kept h2.1 hg hr2,cell_kept h2.2.1 hg hr2,cell_kept h2.2.2.1 hg hr2,cell_kept h2.2.2.2.1 hg hr2,cell_kept h2.2.2.2.2 hg hr2⟩,h3⟩)
  ?assign ?body ?done ?stop
 case assign =>
  rintro l' pre ⟨xi,⟨xr,hxr⟩⟩ W K ⟨⟨⟨v,hv,hLL⟩,hX,hsz⟩,hB⟩ hK;dsimp only[plV]
  gi_wp2_with fail
  refine hK _ _ ((KeepsOthers.alloc _ _).from _) (KpR.kept (S:=fun _=>False) (aD.of_below (aC W _)) id id) ⟨⟨⟨v,dA hv (aC W _),hLL.below (aC W _)⟩,hX.below (aC W _),by simp;omega⟩,(hB.trans ((aC W _).mono hB.size))⟩ ⟨W.heap.size,by omega,gT.new W _ _ _ _ _ _,?_⟩
  first | rfl | trace_state
 case body =>
  rintro l' pre ⟨xi,⟨xr,hxr⟩⟩ a' W hl' ⟨rc,hrc⟩ ⟨⟨⟨v,hv,hLL⟩,hX,hsz⟩,hB⟩ ⟨Bx,hBx,hF,rfl⟩ hlt;obtain ⟨xs,q1,q2,q3⟩:=hLL;have hmx:Tryz.prog.follows .mixedOrders=true:=by kernel_rfl
  obtain ⟨va,vc,rfl⟩:=aQ q2;have HV:=aA hv;have HX:=aA hX;have HB:=aA hB;have HFV:=aA (show gT W Bx (.string (str xr.s.name)) (.string (str xr.s.parent)) (.int .i64 xr.s.kind) (.bool xr.s.lease) (.slice xr.a xr.s.layer.length xr.c) from hF)
  have HQ1:=aA q1;have HQ2:=aA q2;have HQ3:=aA q3;have HXR:=aA hxr.1;have hsm:=HSM.out _ hxr.2;have HLN:=aA (show (bK pre).length=pre.length by simp[bK])
  have hm1:(bK pre).length+1≤maxLen:=by have:=HLN.out;unfold maxLen;omega
  have hm2:((bK pre).length+1) * 24≤140737488355328:=by have:=HLN.out;omega
  have HVD:Hid (Boxed W.drew w3.heap.size 36 (.slice va (bK pre).length vc)):=aA HV.out;have hv0:=HVD.out.cell;have BD:Below w.heap.size w W.drew:=HB.out.drew;have HCE:=aA (xO xr.a xr.c xr.s.layer.length xr.s.layer W.drew (HXR.out.below BD) rfl hsm.1 hsm.2);have hf4:W.drew.cell? ⟨Bx,4,none⟩=some (.slice xr.a xr.s.layer.length xr.c):=HFV.out.2.2.2.2;have HROW:Hid (∀ w6:World,Below W.drew.heap.size W.drew w6→∀ {o:Obj},(w6.alloc o).ownsRow (w4.heap.size+1) 40 1 (.slice va (bK pre).length vc) (bK pre).length (xs.map lyV)):=aA (fun w6 hb6 o=>aG (aG (show W.drew.ownsRow _ _ _ _ _ _ from HQ2.out) hb6) (aC w6 o))
  have HFIN:Hid (∀ (w6:World) (av6:Option Addr) (cv6:Nat),GW W.drew.heap.size w6 (.slice av6 xr.s.layer.length cv6) xr.s.layer→Below W.drew.heap.size W.drew w6→∀ (av8:Option Addr) (cv8:Nat) (w8:World),w8.ownsRow (w4.heap.size+1) 40 1 (.slice av8 ((bK pre).length+1) cv8) ((bK pre).length+1) (xs.map lyV ++ [lyV ⟨xr.s.layer,av6,cv6⟩])→(w6.alloc (.cells #[.slice av6 xr.s.layer.length cv6] 40)).grownBy w8 (Value.slice va (bK pre).length vc).ownBlock →
    w8.cell? ⟨w3.heap.size,0,none⟩=some (.slice va (bK pre).length vc)∧w8.frozen? ⟨w3.heap.size,0,none⟩=false∧(KeepsFrom W5.heap.size W (w8.setCell ⟨w3.heap.size,0,none⟩ (.slice av8 ((bK pre).length+1) cv8))∧KpR w4.heap.size g W (w8.setCell ⟨w3.heap.size,0,none⟩ (.slice av8 ((bK pre).length+1) cv8))∧(((∃ v,Boxed (w8.setCell ⟨w3.heap.size,0,none⟩ (.slice av8 ((bK pre).length+1) cv8)) w3.heap.size 36 v∧LL (w4.heap.size+1) (w8.setCell ⟨w3.heap.size,0,none⟩ (.slice av8 ((bK pre).length+1) cv8)) v (bK (pre ++ [(xi,⟨xr,hxr⟩)])))∧Box (w8.setCell ⟨w3.heap.size,0,none⟩ (.slice av8 ((bK pre).length+1) cv8)) w.heap.size (.int .i64 0) (.slice none 0 0)∧w4.heap.size+1≤(w8.setCell ⟨w3.heap.size,0,none⟩ (.slice av8 ((bK pre).length+1) cv8)).heap.size)∧Below w.heap.size w (w8.setCell ⟨w3.heap.size,0,none⟩ (.slice av8 ((bK pre).length+1) cv8))))):=aA (by
   intro w6 av6 cv6 hG6 hb6 av8 cv8 w8 ho8 hg8;have hdr:W.drew.heap.size=W.heap.size:=rfl;have hk8:=zs0 hg8;have BA:Below W.drew.heap.size W.drew (w6.alloc (.cells #[.slice av6 xr.s.layer.length cv6] 40)):=aB hb6 (aC w6 _);have hlow:∀ b,b<w4.heap.size+1→¬ (Value.slice va (bK pre).length vc).ownBlock=some b:=fun b hb hS=>by have:=(HQ2.out.lt b hS).1;omega
   have HV8:=tA (dA HVD.out BA) hk8 (hlow _ (by omega))
   have KS:=aD.setCell (S:=fun b=>b=w3.heap.size) (p:=⟨w3.heap.size,0,none⟩) (aD.refl _ w8) (fun _=>rfl) (.slice av8 ((bK pre).length+1) cv8)
   have hsA:=BA.size;have hs8:=hk8.size;have hsS:=KS.size;have hKO:KeepsOthers (w6.alloc (.cells #[.slice av6 xr.s.layer.length cv6] 40)) w8:=KeepsOthers.of_grownBy hg8 (fun j o ej hj=>by
    rcases (HROW.out w6 hb6 (o:=.cells #[.slice av6 xr.s.layer.length cv6] 40)).2 with ⟨h9,_⟩ | ⟨g',cap,cur,h9,_,hgb,_⟩
    ·rw[h9]at ej;simp[Value.ownBlock]at ej
    ·rw[h9]at ej
     obtain rfl:g'=j:=by simpa [Value.ownBlock] using ej
     rw[hgb]at hj;cases hj;rfl)
   have hKA:KeepsOthers W (w6.alloc (.cells #[.slice av6 xr.s.layer.length cv6] 40)):=(KeepsOthers.drew W).trans (zq8 BA);have hLL8:=LL.push (x:=⟨xr.s.layer,av6,cv6⟩) HQ1.out (HROW.out w6 hb6) (fun x hx=>(show GW (w4.heap.size+1) W.drew (lyV x) x.es from HQ3.out x hx).below BA) ((hG6.mono (by omega)).below (aC w6 _)) ho8 hk8
   refine ⟨HV8.cell,HV8.frozen,((hKA.trans hKO).trans (KeepsOthers.setCell _ _ _)).from _,?_,⟨⟨_,HV8.set _,?_⟩,?_,by omega⟩,?_⟩
   ·exact ((show KpR w4.heap.size g W _ from KpR.kept (W:=W.drew) (S:=fun _=>False) (aD.of_below BA) id id).trans (KpR.kept hk8 (hlow _ (by omega)) (hlow _ (by omega)))).trans (KpR.kept KS (by omega) (by omega))
   ·rw[zn4]
    exact hLL8.kept KS (fun b hb e=>by omega)
   ·exact (((show Box W.drew w.heap.size (.int .i64 0) (.slice none 0 0) from HX.out).below BA).kept hk8 (hlow _ (by omega))).kept KS (by omega)
   ·exact ((BD.trans (BA.mono (by have:=BD.size;omega))).trans (hk8.below (by have:=BD.size;omega) (fun q hq=>hlow q (by omega)))).trans (KS.below (by have:=BD.size;omega) (fun q hq e=>by omega)))
  dsimp only
  clear hv hX hB hF q1 q2 q3;gi_wp2_with fail
  refine wpIn_region_any hmx ?_;try (change wpAnyIn _ _ _ _ _ _ _ _ _ (World.drew _))
  refine wpAnyIn_ready (rs:=[0,1]) (by kernel_rfl) (by simp) ?_
  refine AllReadyIn.cons rfl (fun K hK=>?_) (AllReadyIn.cons rfl (fun K hK=>?_) AllReadyIn.nil)
  ·go_simp
   refine hK _ _ ?_;clear hK K;try simp only[Act.put,zsE]
   refine wpAnyIn_ready (rs:=[1]) (by kernel_rfl) (by simp) ?_
   refine AllReadyIn.cons rfl (fun K hK=>?_) AllReadyIn.nil
   go_simp
   refine hK _ _ ?_;clear hK K;try simp only[Act.put,zsE]
   refine wpAnyIn_ready (rs:=[2]) (by kernel_rfl) (by simp) ?_
   refine AllReadyIn.cons rfl (fun K hK=>?_) AllReadyIn.nil
   go_simp
   refine hK _ _ ?_;clear hK K;try simp only[Act.put,zsE]
   refine wpAnyIn_ready (rs:=[3]) (by kernel_rfl) (by simp) ?_
   refine AllReadyIn.cons rfl (fun K hK=>?_) AllReadyIn.nil
   go_simp
   refine ⟨trivial,?_⟩;refine (CallsIn.inRound l' (callsIn_wide.2 HCE.out)).mono ?_;rintro r w6 ⟨av6,cv6,rfl,hG6,hb6⟩;have hv6:=(dA HVD.out hb6).cell;gi_wp2_with fail
   try simp only[Act.put,zsE]
   refine wpAnyIn_ready (rs:=[4]) (by kernel_rfl) (by simp) ?_
   refine AllReadyIn.cons rfl (fun K hK=>?_) AllReadyIn.nil
   have hv7:=(dA (dA HVD.out hb6) (aC w6 (.cells #[.slice av6 xr.s.layer.length cv6] 40))).cell;go_simp
   refine hK _ _ ?_;clear hK K;try simp only[Act.put,zsE]
   refine wpAnyIn_ready (rs:=[5]) (by kernel_rfl) (by simp) ?_
   refine AllReadyIn.cons (o:=⟨some 33,_,_,_,_,_⟩) rfl (fun K hK=>?_) AllReadyIn.nil
   refine nU (by rfl) (.tmp 28) (.tmp 32) 36 (by rfl) (w4.heap.size+1) 40 i1 (.slice none 0 0) 1 24 Tryz.underlying36 ki kz0 kz1 kz2 rfl (by decide) (.slice va (bK pre).length vc) (bK pre).length (xs.map lyV) (by rfl) (HROW.out w6 hb6) ⟨w6.heap.size,0,none⟩ 1 1 [lyV ⟨xr.s.layer,av6,cv6⟩] (by rfl) (by rfl) (cell_one_new _ _ _) (by simp[lyV,Value.oneCell']) ((bK pre).length+1) rfl hm1 hm2 (by have h1:=hb6.size;have h2:W.drew.heap.size=W.heap.size:=rfl;rw[World.size_alloc];omega) ?_
   intro av8 cv8 w8 ho8 hg8;obtain ⟨hv8,hf8,hp8⟩:=HFIN.out w6 av6 cv6 hG6 hb6 av8 cv8 w8 ho8 hg8;have HP:=aA hp8;refine hK _ _ ?_;clear hK K ho8 hg8 hp8;try simp only[Act.put,zsE]
   refine wpAnyIn_ready (rs:=[6]) (by kernel_rfl) (by simp) ?_
   refine AllReadyIn.cons rfl (fun K hK=>?_) AllReadyIn.nil
   go_simp
   refine hK _ _ ?_;clear hK K;try simp only[Act.put,zsE]
   refine wpAnyIn_done (by kernel_rfl) ?_ _
   exact HP.out
  ·go_simp
   refine hK _ _ ?_;clear hK K;try simp only[Act.put,zsE]
   refine wpAnyIn_ready (rs:=[0,2]) (by kernel_rfl) (by simp) ?_
   refine AllReadyIn.cons rfl (fun K hK=>?_) (AllReadyIn.cons rfl (fun K hK=>?_) AllReadyIn.nil)
   ·go_simp
    refine hK _ _ ?_;clear hK K;try simp only[Act.put,zsE]
    refine wpAnyIn_ready (rs:=[2]) (by kernel_rfl) (by simp) ?_
    refine AllReadyIn.cons rfl (fun K hK=>?_) AllReadyIn.nil
    go_simp
    refine hK _ _ ?_;clear hK K;try simp only[Act.put,zsE]
    refine wpAnyIn_ready (rs:=[3]) (by kernel_rfl) (by simp) ?_
    refine AllReadyIn.cons rfl (fun K hK=>?_) AllReadyIn.nil
    go_simp
    refine ⟨trivial,?_⟩;refine (CallsIn.inRound l' (callsIn_wide.2 HCE.out)).mono ?_;rintro r w6 ⟨av6,cv6,rfl,hG6,hb6⟩;have hv6:=(dA HVD.out hb6).cell;gi_wp2_with fail
    try simp only[Act.put,zsE]
    refine wpAnyIn_ready (rs:=[4]) (by kernel_rfl) (by simp) ?_
    refine AllReadyIn.cons rfl (fun K hK=>?_) AllReadyIn.nil
    have hv7:=(dA (dA HVD.out hb6) (aC w6 (.cells #[.slice av6 xr.s.layer.length cv6] 40))).cell;go_simp
    refine hK _ _ ?_;clear hK K;try simp only[Act.put,zsE]
    refine wpAnyIn_ready (rs:=[5]) (by kernel_rfl) (by simp) ?_
    refine AllReadyIn.cons (o:=⟨some 33,_,_,_,_,_⟩) rfl (fun K hK=>?_) AllReadyIn.nil
    refine nU (by rfl) (.tmp 28) (.tmp 32) 36 (by rfl) (w4.heap.size+1) 40 i1 (.slice none 0 0) 1 24 Tryz.underlying36 ki kz0 kz1 kz2 rfl (by decide) (.slice va (bK pre).length vc) (bK pre).length (xs.map lyV) (by rfl) (HROW.out w6 hb6) ⟨w6.heap.size,0,none⟩ 1 1 [lyV ⟨xr.s.layer,av6,cv6⟩] (by rfl) (by rfl) (cell_one_new _ _ _) (by simp[lyV,Value.oneCell']) ((bK pre).length+1) rfl hm1 hm2 (by have h1:=hb6.size;have h2:W.drew.heap.size=W.heap.size:=rfl;rw[World.size_alloc];omega) ?_
    intro av8 cv8 w8 ho8 hg8;obtain ⟨hv8,hf8,hp8⟩:=HFIN.out w6 av6 cv6 hG6 hb6 av8 cv8 w8 ho8 hg8;have HP:=aA hp8;refine hK _ _ ?_;clear hK K ho8 hg8 hp8;try simp only[Act.put,zsE]
    refine wpAnyIn_ready (rs:=[6]) (by kernel_rfl) (by simp) ?_
    refine AllReadyIn.cons rfl (fun K hK=>?_) AllReadyIn.nil
    go_simp
    refine hK _ _ ?_;clear hK K;try simp only[Act.put,zsE]
    refine wpAnyIn_done (by kernel_rfl) ?_ _
    exact HP.out
   ·go_simp
    refine hK _ _ ?_;clear hK K;try simp only[Act.put,zsE]
    refine wpAnyIn_ready (rs:=[0,3]) (by kernel_rfl) (by simp) ?_
    refine AllReadyIn.cons rfl (fun K hK=>?_) (AllReadyIn.cons rfl (fun K hK=>?_) AllReadyIn.nil)
    ·go_simp
     refine hK _ _ ?_;clear hK K;try simp only[Act.put,zsE]
     refine wpAnyIn_ready (rs:=[3]) (by kernel_rfl) (by simp) ?_
     refine AllReadyIn.cons rfl (fun K hK=>?_) AllReadyIn.nil
     go_simp
     refine ⟨trivial,?_⟩;refine (CallsIn.inRound l' (callsIn_wide.2 HCE.out)).mono ?_;rintro r w6 ⟨av6,cv6,rfl,hG6,hb6⟩;have hv6:=(dA HVD.out hb6).cell;gi_wp2_with fail
     try simp only[Act.put,zsE]
     refine wpAnyIn_ready (rs:=[4]) (by kernel_rfl) (by simp) ?_
     refine AllReadyIn.cons rfl (fun K hK=>?_) AllReadyIn.nil
     have hv7:=(dA (dA HVD.out hb6) (aC w6 (.cells #[.slice av6 xr.s.layer.length cv6] 40))).cell;go_simp
     refine hK _ _ ?_;clear hK K;try simp only[Act.put,zsE]
     refine wpAnyIn_ready (rs:=[5]) (by kernel_rfl) (by simp) ?_
     refine AllReadyIn.cons (o:=⟨some 33,_,_,_,_,_⟩) rfl (fun K hK=>?_) AllReadyIn.nil
     refine nU (by rfl) (.tmp 28) (.tmp 32) 36 (by rfl) (w4.heap.size+1) 40 i1 (.slice none 0 0) 1 24 Tryz.underlying36 ki kz0 kz1 kz2 rfl (by decide) (.slice va (bK pre).length vc) (bK pre).length (xs.map lyV) (by rfl) (HROW.out w6 hb6) ⟨w6.heap.size,0,none⟩ 1 1 [lyV ⟨xr.s.layer,av6,cv6⟩] (by rfl) (by rfl) (cell_one_new _ _ _) (by simp[lyV,Value.oneCell']) ((bK pre).length+1) rfl hm1 hm2 (by have h1:=hb6.size;have h2:W.drew.heap.size=W.heap.size:=rfl;rw[World.size_alloc];omega) ?_
     intro av8 cv8 w8 ho8 hg8;obtain ⟨hv8,hf8,hp8⟩:=HFIN.out w6 av6 cv6 hG6 hb6 av8 cv8 w8 ho8 hg8;have HP:=aA hp8;refine hK _ _ ?_;clear hK K ho8 hg8 hp8;try simp only[Act.put,zsE]
     refine wpAnyIn_ready (rs:=[6]) (by kernel_rfl) (by simp) ?_
     refine AllReadyIn.cons rfl (fun K hK=>?_) AllReadyIn.nil
     go_simp
     refine hK _ _ ?_;clear hK K;try simp only[Act.put,zsE]
     refine wpAnyIn_done (by kernel_rfl) ?_ _
     exact HP.out
    ·go_simp
     refine ⟨trivial,?_⟩;refine (CallsIn.inRound l' (callsIn_wide.2 HCE.out)).mono ?_;rintro r w6 ⟨av6,cv6,rfl,hG6,hb6⟩;have hv6:=(dA HVD.out hb6).cell;gi_wp2_with fail
     try simp only[Act.put,zsE]
     refine wpAnyIn_ready (rs:=[0,4]) (by kernel_rfl) (by simp) ?_
     refine AllReadyIn.cons rfl (fun K hK=>?_) (AllReadyIn.cons rfl (fun K hK=>?_) AllReadyIn.nil)
     ·go_simp
      refine hK _ _ ?_;clear hK K;try simp only[Act.put,zsE]
      refine wpAnyIn_ready (rs:=[4]) (by kernel_rfl) (by simp) ?_
      refine AllReadyIn.cons rfl (fun K hK=>?_) AllReadyIn.nil
      have hv7:=(dA (dA HVD.out hb6) (aC w6 (.cells #[.slice av6 xr.s.layer.length cv6] 40))).cell;go_simp
      refine hK _ _ ?_;clear hK K;try simp only[Act.put,zsE]
      refine wpAnyIn_ready (rs:=[5]) (by kernel_rfl) (by simp) ?_
      refine AllReadyIn.cons (o:=⟨some 33,_,_,_,_,_⟩) rfl (fun K hK=>?_) AllReadyIn.nil
      refine nU (by rfl) (.tmp 28) (.tmp 32) 36 (by rfl) (w4.heap.size+1) 40 i1 (.slice none 0 0) 1 24 Tryz.underlying36 ki kz0 kz1 kz2 rfl (by decide) (.slice va (bK pre).length vc) (bK pre).length (xs.map lyV) (by rfl) (HROW.out w6 hb6) ⟨w6.heap.size,0,none⟩ 1 1 [lyV ⟨xr.s.layer,av6,cv6⟩] (by rfl) (by rfl) (cell_one_new _ _ _) (by simp[lyV,Value.oneCell']) ((bK pre).length+1) rfl hm1 hm2 (by have h1:=hb6.size;have h2:W.drew.heap.size=W.heap.size:=rfl;rw[World.size_alloc];omega) ?_
      intro av8 cv8 w8 ho8 hg8;obtain ⟨hv8,hf8,hp8⟩:=HFIN.out w6 av6 cv6 hG6 hb6 av8 cv8 w8 ho8 hg8;have HP:=aA hp8;refine hK _ _ ?_;clear hK K ho8 hg8 hp8;try simp only[Act.put,zsE]
      refine wpAnyIn_ready (rs:=[6]) (by kernel_rfl) (by simp) ?_
      refine AllReadyIn.cons rfl (fun K hK=>?_) AllReadyIn.nil
      go_simp
      refine hK _ _ ?_;clear hK K;try simp only[Act.put,zsE]
      refine wpAnyIn_done (by kernel_rfl) ?_ _
      exact HP.out
     ·have hv7:=(dA (dA HVD.out hb6) (aC w6 (.cells #[.slice av6 xr.s.layer.length cv6] 40))).cell
      go_simp
      refine hK _ _ ?_;clear hK K;try simp only[Act.put,zsE]
      refine wpAnyIn_ready (rs:=[0]) (by kernel_rfl) (by simp) ?_
      refine AllReadyIn.cons rfl (fun K hK=>?_) AllReadyIn.nil
      go_simp
      refine hK _ _ ?_;clear hK K;try simp only[Act.put,zsE]
      refine wpAnyIn_ready (rs:=[5]) (by kernel_rfl) (by simp) ?_
      refine AllReadyIn.cons (o:=⟨some 33,_,_,_,_,_⟩) rfl (fun K hK=>?_) AllReadyIn.nil
      refine nU (by rfl) (.tmp 28) (.tmp 32) 36 (by rfl) (w4.heap.size+1) 40 i1 (.slice none 0 0) 1 24 Tryz.underlying36 ki kz0 kz1 kz2 rfl (by decide) (.slice va (bK pre).length vc) (bK pre).length (xs.map lyV) (by rfl) (HROW.out w6 hb6) ⟨w6.heap.size,0,none⟩ 1 1 [lyV ⟨xr.s.layer,av6,cv6⟩] (by rfl) (by rfl) (cell_one_new _ _ _) (by simp[lyV,Value.oneCell']) ((bK pre).length+1) rfl hm1 hm2 (by have h1:=hb6.size;have h2:W.drew.heap.size=W.heap.size:=rfl;rw[World.size_alloc];omega) ?_
      intro av8 cv8 w8 ho8 hg8;obtain ⟨hv8,hf8,hp8⟩:=HFIN.out w6 av6 cv6 hG6 hb6 av8 cv8 w8 ho8 hg8;have HP:=aA hp8;refine hK _ _ ?_;clear hK K ho8 hg8 hp8;try simp only[Act.put,zsE]
      refine wpAnyIn_ready (rs:=[6]) (by kernel_rfl) (by simp) ?_
      refine AllReadyIn.cons rfl (fun K hK=>?_) AllReadyIn.nil
      go_simp
      refine hK _ _ ?_;clear hK K;try simp only[Act.put,zsE]
      refine wpAnyIn_done (by kernel_rfl) ?_ _
      exact HP.out
 case done =>
  rintro D ys W hD hys ⟨⟨⟨v,hv,hLL⟩,hX,hsz⟩,hB⟩ hK;rw[zi6 hys,HREV.out]at hLL;obtain ⟨va,vc,rfl⟩:=hLL.shape;have hv0:=hv.cell;have HX:=aA hX;have HB':=aA hB;have HK:=aA hK;have HLL:=aA hLL;clear hX hB hK hLL hys hv;obtain ⟨⟨q0,q1⟩,q2,q3⟩:=HX.out;gi_wp2_with fail
  obtain ⟨k1,k2,k3⟩:=zea HX.out.1 HK.out (.int .i64 0) (.slice va (cH l e).length vc);refine ⟨by simp,.inl ⟨_,_,rfl,run_takeDeferred k1,?_⟩⟩
  have hcap:(cH l e).length≤vc:=by
   obtain ⟨xs,-,h2,-⟩:=HLL.out;rcases h2.2 with ⟨-,h0⟩ | ⟨g',cap,cur,h9,-,-,h8,-⟩
   ·omega
   ·simp only[Value.slice.injEq]at h9
    omega
  refine ⟨.agg #[.int .i64 0,.slice va (cH l e).length vc],by simp[results,Tryz.results14,go_sem,k2,k3],va,vc,rfl,?_,hcap,?_⟩
  ·exact (((HLL.out.kept (aD.two W w.heap.size 0 1 _ _) (fun b hb e=>by omega)).grown (grownBy_putObj' _ _ _) (fun r e=>by cases e;exact ⟨_,k1,rfl⟩))).mono (by omega)
  ·exact ((HB'.out.setCell (p:=⟨w.heap.size,0,none⟩) (Nat.le_refl _) _).setCell (p:=⟨w.heap.size,1,none⟩) (Nat.le_refl _) _).trans (belowK_b (w:=w) (Nat.le_refl _) _ D _ _ (by omega) k1 rfl rfl)
 case stop =>
  rintro D c' pre W hD hpre hc hK;exact hc.elim
end Go.Proofs.YtgaeikgoknoamaaGreat
namespace Go.Proofs.YtgaeikgoknoamaaGreat
open Go.RowKit Go.Maps
attribute [local go_sem ↓] Go.wp_at_zero Go.wp_at_succ
def zbl:Value→Nat
 | .slice _ n _=>n
 | _=>0
structure sY (l:List Sn) (s:Sn) (done:List Sn) (f:Nat) (p:Bs) (o:Option Sn):Prop where
 line:aL l 5 (some s)=done++aL l f o
 num:done.length+f=5
 here:o=if p=[] then none else atS l p
 found:p≠[]→∃ t,o=some t∧t∈l∧t.name=p
theorem sY.end {l:List Sn} {s:Sn} {done:List Sn} {f:Nat} {o:Option Sn} (h:sY l s done f [] o):cH l s=(done.map Sn.layer).reverse:=by
 have h1:=h.here;rw[if_pos rfl]at h1;unfold cH;rw[h.line,h1,jC,List.append_nil]
theorem sY.short {l:List Sn} {s:Sn} {done:List Sn} {f:Nat} {p:Bs} {o:Option Sn} (hR:bH l) (hs:s∈l) (h:sY l s done f p o):done.length≤4:=by
 have h1:=hR.line hs;rw[h.line,List.length_append]at h1;omega
theorem sY.step {l:List Sn} {s:Sn} {done:List Sn} {f:Nat} {p:Bs} {o:Option Sn} (hR:bH l) (hs:s∈l) (h:sY l s done f p o) {t:Sn} (ho:o=some t) (ht:t∈l):∃ f' o',sY l s (done ++ [t]) f' t.parent o':=by
 have h4:=h.short hR hs;have h5:=h.num;obtain ⟨f',rfl⟩:∃ f',f=f'+1:=⟨f - 1,by omega⟩
 have hl:=h.line;rw[ho,show aL l (f'+1) (some t)=t :: aL l f' (atS l t.parent) from rfl]at hl
 have hn0:t.parent=[]→atS l t.parent=none:=fun e=>jZ.2 fun x hx e2=>iC (hR.own x hx).1 (e2.trans e)
 refine ⟨f',atS l t.parent,by rw[hl];simp,by simp;omega,?_,fun hp=>?_⟩
 ·by_cases hp:t.parent=[]
  ·rw[if_pos hp,hn0 hp]
  ·rw[if_neg hp]
 ·rcases hR.stand t ht with e | ⟨q,hq,-⟩
  ·exact absurd e hp
  ·exact ⟨q,hq,(cI hq).1,(cI hq).2⟩
theorem LL.front {B:Nat} {w w2:World} {v v':Value} {ls:List (List En)} {xs:List Ly} {x:Ly} (hx:xs.map Ly.es=ls) (h2:∀ x∈xs,GW B w (lyV x) x.es) (hG:GW B w (lyV x) x.es) (h1:w.ownsRow B 40 1 v 1 [lyV x])
  (ho:w2.ownsRow B 40 1 v' (ls.length+1) ([lyV x]++xs.map lyV)) (hk:aD (fun b=>v.ownBlock=some b) w w2):LL B w2 v' (x.es :: ls):=by
 refine ⟨x :: xs,by rw[List.map_cons,hx],by simpa using ho,fun y hy=>?_⟩
 rcases List.mem_cons.1 hy with rfl | hy
 ·exact hG.apart h1 (by decide) (by decide) hk
 ·exact (h2 y hy).apart h1 (by decide) (by decide) hk
theorem zx5 (a:Option Addr) (c n:Nat) (l:List Sn) (s:Sn) (nm:Bs) (w:World) (h:RdS w a l) (hn:n=l.length) (hR:bH l) (hs:dF l) (hat:atS l nm=some s) :
  Calls Tryz.prog 221 #[.slice a n c,.string (str nm)] w fun r w'=>∃ g cv,r=.returned (.slice (some ⟨g,0,none⟩) (cH l s).length cv)∧(cH l s).length≤cv∧LL w.heap.size w' (.slice (some ⟨g,0,none⟩) (cH l s).length cv) (cH l s)∧Below w.heap.size w w':=by
 subst hn;obtain ⟨i1,ki,kz0,kz1,kz2⟩:=info_parts zu5;have hl:=hR.len;have hne:nm≠[]:=fun e=>iC (hR.own s (cI hat).1).1 ((cI hat).2.trans e)
 have W0:Hid (sY l s [] 5 nm (some s)):=aA ⟨rfl,rfl,by rw[if_neg hne,hat],fun _=>⟨s,rfl,(cI hat).1,(cI hat).2⟩⟩
 have HSL:=aA (cI hat).1;have HRd:=aA h;have HR:=aA hR;have HSM:=aA hs;clear h hR hs hat hne;go_enter Tryz.func221,Tryz.ntmps221;go_wp2_with fail
 go_loopw [1,5] (fun nv v wr=>∃ (p:Bs) (done:List Sn) (f:Nat) (o:Option Sn) (g cv:Nat),nv=.string (str p)∧v=.slice (some ⟨g,0,none⟩) done.length cv∧done.length≤4∧done.length≤cv∧Hid (sY l s done f p o)∧Hid (LL w.heap.size wr v (done.map Sn.layer).reverse)∧Hid (Below w.heap.size w wr)) (fun _ v _=>5 - zbl v)
 case atStart=>exact ⟨nm,[],5,some s,w.heap.size,0,rfl,rfl,by decide,by decide,W0,aA ⟨[],rfl,World.ownsRow_made w #[] 0 (Nat.le_refl _) (Nat.zero_le _) rfl,fun x hx=>by simp at hx⟩,aA (aC _ _)⟩
 case round =>
  obtain ⟨p,done,f,o,g,cv,rfl,rfl,hd4,hdc,HWE,HLL,HW⟩:=hrel;have hsz:=HW.out.size;by_cases hp:p=[]
  ·have hpe:(str p).toList.isEmpty=true:=by rw[hp,aN];rfl
   subst hp;have HCE:=aA HWE.out.end;have HCL:=aA (show (cH l s).length=done.length by rw[HCE.out];simp)
   go_wp2_with fail
   go_ret
   exact ⟨g,cv,by rw[HCL.out];rfl,by rw[HCL.out];exact hdc,by rw[HCL.out,HCE.out];exact HLL.out,HW.out⟩
  ·have hpe:(str p).toList.isEmpty=false:=by
    rw[aN];cases hq:p with | nil=>exact absurd hq hp | cons _ _=>rfl
   obtain ⟨t,hot,htl,htn⟩:=HWE.out.found hp;obtain ⟨f2,o2,hw2⟩:=HWE.out.step HR.out HSL.out hot htl;have HW2:=aA hw2;have HPT:=aA (show plS l p=(plS l p) from rfl)
   have hatp:atS l p=some t:=by rw[←htn];exact nZ HR.out.rise htl
   go_wp2_with fail
   refine (gW a c l.length l p wr (HRd.out.below HW.out) rfl (by omega)).mono ?_
   rintro r w1 ⟨rfl,hw1⟩;subst hw1;cases hpl:plS l p with
   | none=>have:=jK hpl;rw[hatp]at this;cases this
   | some j =>
    obtain ⟨t2,hq,hat2⟩:=nR hpl;have htt:t2=t:=by rw[hatp]at hat2;exact (Option.some.inj hat2).symm
    subst htt;have hjl:=(List.getElem?_eq_some_iff.1 hq).1;obtain ⟨b2,off2,e,x2,cc2,hbb,hb2,he,d0,d1,d2,d3,d4,hr2⟩:=(HRd.out.below HW.out).at hjl;subst hbb;have heq:e=t2:=by rw[hq]at he;exact (Option.some.inj he).symm
    subst heq;have hj0:¬ (j:Int)<0:=by omega
    have hj1:(j:Int)<(l.length:Int):=by omega
    have hsm:=HSM.out.2 e htl;have hs3:=hsm.2.2.1;have HSE:=aA hsm.2.2.2;have HRE:=aA hr2;clear hpl hq hat2 he hr2 d0 d2 d3 hsm hatp hot;simp only[cR];go_wp2_with fail
    refine (iN x2 cc2 e.layer.length e.layer w1 HRE.out rfl hs3 HSE.out).mono ?_;rintro r w2 ⟨g2,cv2,rfl,hcv2,hG2,hb2'⟩;have G2:=aA ((GW.of hG2).mono hsz);have B2:=aA (aB HW.out hb2');have L2:=aA (HLL.out.below hb2');have d1:=(hb2'.cell (p:=⟨b2,off2+j * 5+1,none⟩) hb2).trans d1;have hs2:=hb2'.size;have hb3:b2<w2.heap.size:=by omega
    clear hG2 hb2' d4;obtain ⟨xs,q1,q2,q3⟩:=(L2.out.below (aC w2 (.cells #[.slice (some ⟨g2,0,none⟩) e.layer.length cv2] 40)));have Q1:=aA q1;rw[show ((done.map Sn.layer).reverse).length=done.length by simp]at q2
    have Q2:=aA q2;have Q3:=aA q3;have hxl:xs.length=done.length:=by have:=congrArg List.length q1;simpa using this
    have OWN:Hid ((w2.alloc (.cells #[.slice (some ⟨g2,0,none⟩) e.layer.length cv2] 40)).ownsRow w.heap.size 40 1 (.slice (some ⟨w2.heap.size,0,none⟩) 1 1) 1 [lyV ⟨e.layer,some ⟨g2,0,none⟩,cv2⟩]):=aA ⟨rfl,.inr ⟨w2.heap.size,1,#[.slice (some ⟨g2,0,none⟩) e.layer.length cv2],rfl,by omega,heap_alloc_new w2 _,Nat.le_refl _,by unfold maxLen;omega,rfl,rfl⟩⟩
    have NEWS:Hid (∀ q u,(xs.map lyV)[q]?=some u→(w2.alloc (.cells #[.slice (some ⟨g2,0,none⟩) e.layer.length cv2] 40)).cell? ((⟨g,0,none⟩:Addr).add q)=some u):=aA (fun q u hu=>by
     rw[eU,Nat.zero_add];have hlt:q<(xs.map lyV).length:=(List.getElem?_eq_some_iff.1 hu).1;rw[Q2.out.cellAt q (by rw[List.length_map]at hlt;omega)]
     exact hu)
    have G3:=aA (G2.out.below (aC w2 (.cells #[.slice (some ⟨g2,0,none⟩) e.layer.length cv2] 40)));have B3:=aA (aB B2.out (aC w2 (.cells #[.slice (some ⟨g2,0,none⟩) e.layer.length cv2] 40)));have hxn:(xs.map lyV).length=done.length * 1:=by rw[List.length_map];omega
    have hm1:1+done.length≤maxLen:=by unfold maxLen;omega
    have hm1':(1+done.length) * 24≤140737488355328:=by omega
    have hsA:(w2.alloc (.cells #[.slice (some ⟨g2,0,none⟩) e.layer.length cv2] 40)).heap.size=w2.heap.size+1:=by simp
    clear q1 q2 q3 L2 HLL;go_wp2_with (at_builtin;refine eK rfl (.tmp 19) (.tmp 20) 36 rfl w.heap.size 40 i1 (.slice none 0 0) 1 24 Tryz.underlying36 ki kz0 kz1 kz2 rfl (by decide) (.slice (some ⟨w2.heap.size,0,none⟩) 1 1) 1 [lyV ⟨e.layer,some ⟨g2,0,none⟩,cv2⟩] rfl OWN.out ⟨g,0,none⟩ done.length cv (xs.map lyV) rfl hxn NEWS.out (by intro u hu;obtain ⟨y,-,rfl⟩:=List.mem_map.1 hu;rfl) (done.length+1) (by omega) hm1 hm1' (by omega) ?_;intro av6 cv6 w6 hown6 hk6;have O6:=aA hown6;have K6:=aA hk6;have d1:=(hk6.cell (p:=⟨b2,off2+j * 5+1,none⟩) (by rw[hsA];show b2<_;omega) (fun e=>by simp[Value.ownBlock]at e;omega)).trans (((aC w2 (.cells #[.slice (some ⟨g2,0,none⟩) e.layer.length cv2] 40)).cell (p:=⟨b2,off2+j * 5+1,none⟩) hb3).trans d1);clear hown6 hk6)
    obtain ⟨g6,hg6,hc6⟩:=jO O6.out (.inl (by omega))
    subst hg6;go_roundw
    case rel =>
     refine ⟨e.parent,done ++ [e],f2,o2,g6,cv6,rfl,by simp,HW2.out.short HR.out HSL.out,by simpa using hc6,HW2,aA ?_,aA ?_⟩
     ·have:=LL.front (x:=⟨e.layer,some ⟨g2,0,none⟩,cv2⟩) Q1.out Q3.out G3.out OWN.out (by simpa using O6.out) K6.out
      simpa using this
     ·exact B3.out.trans (K6.out.below (by omega) (fun q hq hS=>by simp[Value.ownBlock]at hS;omega))
    case measure=>simp[zbl];omega
theorem zli {es:List En} {p:Bs} (h:∀ x∈es,aF x.path=0) (hp:aF p=0):(es.filter fun e=>!(sO e.path p))=bO es p true:=by
 unfold bO;apply List.filter_congr
 intro x hx;rw[sO,tK (h x hx) hp,kF,Bool.true_and,Bool.or_comm]
theorem fB.set {w:World} {b:Nat} {u0 u1 u2:Value} (h:fB w b u0 u1 u2) (v0 v1 v2:Value):fB (((w.setCell ⟨b,0,none⟩ v0).setCell ⟨b,1,none⟩ v1).setCell ⟨b,2,none⟩ v2) b v0 v1 v2:=by
 obtain ⟨⟨c0,c1,c2⟩,f0,f1,f2⟩:=h;refine ⟨⟨?_,?_,?_⟩,?_,?_,?_⟩ <;> simp[go_sem,c0,c1,c2,f0,f1,f2]
theorem nW (a:Option Addr) (c n:Nat) (ls:List (List En)) (w:World) (h:RdL w a ls) (hn:n=ls.length) (hl:ls.length≤1048576) (hs:fV ls) (hg:∀ es∈ls,cD es=bE es) :
  Calls Tryz.prog 264 #[.slice a n c] w fun r w'=>r=.returned (.int .i64 (bY ls))∧Below w.heap.size w w':=by
 subst hn;have HR:=aA h;have HS:=aA hs;have HG:=aA hg;clear h hs hg;by_cases h4:4<ls.length
 ·have HZ:=aA (show bY ls=2 by simp[bY,h4])
  have h4':(4:Int)<(ls.length:Int):=by omega
  go_enter Tryz.func264,Tryz.ntmps264;go_wp2_with fail
  go_wp2_with fail
  go_ret
  exact ⟨by rw[HZ.out];rfl,Below.refl _ _⟩
 ·have HZ:=aA (show bY ls=jD (ls.drop 0) by simp[bY,h4])
  have h4':¬ (4:Int)<(ls.length:Int):=by omega
  clear h4;generalize bY ls=V at *;go_enter Tryz.func264,Tryz.ntmps264;go_wp2_with fail
  go_loopw [3] (fun i wr=>∃ k:Nat,k≤ls.length∧i=.int .i64 k∧Hid (V=jD (ls.drop k))∧Hid (Below w.heap.size w wr)) (fun i _=>ls.length - (intOf i).toNat)
  case atStart=>exact ⟨0,Nat.zero_le _,rfl,HZ,aA (Below.refl _ _)⟩
  case round =>
   obtain ⟨k,hk,rfl,HV,HW⟩:=hrel;by_cases hlt:k<ls.length
   ·obtain ⟨b,off,es,x,cc,rfl,hb,he,c0,hr⟩:=(HR.out.below HW.out).at hlt
    obtain ⟨hel,hsm⟩:=HS.out es (List.mem_of_getElem? he);have HLF:=aA (mB x cc es.length es wr hr rfl (by omega) hsm)
    rw[HG.out es (List.mem_of_getElem? he)]at HLF;have HX:=aA he;clear he hr hsm;by_cases hf:bE es=0
    ·have HN:=aA (HV.out.trans (yK HX.out hf))
     rw[hf]at HLF;clear hf;go_wp2_with fail
     refine HLF.out.mono ?_;rintro r w1 ⟨rfl,hb1⟩;have B1:=aA (aB HW.out hb1);clear hb1 c0;go_wp2_with fail
     go_roundw
     case rel=>exact ⟨k+1,by omega,by go_num,HN,B1⟩
     case measure=>simp[intOf];omega
    ·have HN:=aA (HV.out.trans (zb1 HX.out hf))
     generalize bE es=F at *;have hf2:(F != 0)=true:=by simp;exact hf
     clear hf;go_wp2_with fail
     refine HLF.out.mono ?_;rintro r w1 ⟨rfl,hb1⟩;have B1:=aA (aB HW.out hb1);clear hb1 c0;go_wp2_with fail
     go_ret
     exact ⟨by rw[HN.out];rfl,B1.out⟩
   ·have HN:=aA (show V=0 by rw[HV.out,List.drop_eq_nil_of_le (by omega)];rfl)
    go_wp2_with fail
    go_ret
    exact ⟨by rw[HN.out];rfl,HW.out⟩
end Go.Proofs.YtgaeikgoknoamaaGreat
