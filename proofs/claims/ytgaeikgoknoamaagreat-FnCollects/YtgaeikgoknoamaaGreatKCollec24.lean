/-
  Texts put together: SnqL MntN MntO MntP MntR MntS DrawF MntU MntV SnqM SnqN SnqP SnqO.
-/
import Derived.Test.YtgaeikgoknoamaaGreatKCollec17
import Derived.Test.YtgaeikgoknoamaaGreatKCollec23
import Derived.Test.YtgaeikgoknoamaaGreatKCollec22
import Derived.Test.YtgaeikgoknoamaaGreatKCollec21
import Derived.Test.YtgaeikgoknoamaaGreatKCollec9
import Derived.Test.YtgaeikgoknoamaaGreatKCollec8
import Derived.Test.YtgaeikgoknoamaaGreatKCollec16
import Derived.Test.YtgaeikgoknoamaaGreatKCollec14
import Derived.Test.YtgaeikgoknoamaaGreatKCollec10
set_option linter.unusedVariables false
set_option maxHeartbeats 6400000
set_option maxRecDepth 100000
namespace Go.Proofs.YtgaeikgoknoamaaGreat
open Go.RowKit Go.Maps
attribute [local go_sem ↓] Go.wp_at_zero Go.wp_at_succ
def jF (ls:List (List En)) (U:List En) (p:Bs) (zs:List Int) (k q rep:Int) (V:List En):Prop :=
 (k=1→gN (kQ (ls ++ [U]) p zs) (WrS (aT (ls ++ [U])) U p (dT p zs)) q rep V)∧(k=2→gN (gH (ls ++ [U]) p) (MkS (aT (ls ++ [U])) U p) q rep V)∧(k=3→gN (gH (ls ++ [U]) p) (RmS ls (aT (ls ++ [U])) U p) q rep V)
theorem jF.one {ls:List (List En)} {U:List En} {p:Bs} {zs:List Int} {q rep:Int} {V:List En} (h:gN (kQ (ls ++ [U]) p zs) (WrS (aT (ls ++ [U])) U p (dT p zs)) q rep V):jF ls U p zs 1 q rep V:=⟨fun _=>h,fun e=>absurd e (by decide),fun e=>absurd e (by decide)⟩
theorem jF.two {ls:List (List En)} {U:List En} {p:Bs} {zs:List Int} {q rep:Int} {V:List En} (h:gN (gH (ls ++ [U]) p) (MkS (aT (ls ++ [U])) U p) q rep V):jF ls U p zs 2 q rep V:=⟨fun e=>absurd e (by decide),fun _=>h,fun e=>absurd e (by decide)⟩
theorem jF.three {ls:List (List En)} {U:List En} {p:Bs} {zs:List Int} {q rep:Int} {V:List En} (h:gN (gH (ls ++ [U]) p) (RmS ls (aT (ls ++ [U])) U p) q rep V):jF ls U p zs 3 q rep V:=⟨fun e=>absurd e (by decide),fun e=>absurd e (by decide),fun _=>h⟩
theorem GS.lay {B:Nat} {w:World} {g n c k:Nat} {l:List Sn} {s:Sn} {a2:Option Addr} {c2:Nat} {V:List En} (h:GS B w (.slice (some ⟨g,0,none⟩) n c) l) (hs:l[k]?=some s) (hV:GW B w (.slice a2 V.length c2) V):GS B (w.setCell ⟨g,k * 5+4,none⟩ (.slice a2 V.length c2)) (.slice (some ⟨g,0,none⟩) n c) (l.set k ⟨s.name,s.parent,s.kind,s.lease,V⟩):=by
 obtain ⟨rs,h1,h2,h3⟩:=h;have hk:k<l.length:=(List.getElem?_eq_some_iff.1 hs).1;have hl:rs.length=l.length:=by rw[←h1,List.length_map]
 obtain ⟨r,hr⟩:∃ r,rs[k]?=some r:=⟨_,List.getElem?_eq_getElem (by omega)⟩
 have hrs:r.s=s:=by
  have:(rs.map Rs.s)[k]?=some r.s:=by rw[List.getElem?_map,hr];rfl
  rw[h1,hs]at this;exact (Option.some.inj this).symm
 obtain ⟨m,c',e⟩:=aR h2;simp only[Value.slice.injEq]at e;obtain ⟨-,rfl,-⟩:=e;have s1:=(h2.stored (k * 5+4) (.slice a2 V.length c2)).1;rw[uV rs k 4 r ⟨⟨s.name,s.parent,s.kind,s.lease,V⟩,a2,c2⟩ _ hr (by decide) (by rw[←hrs];rfl)]at s1
 have hkp:aE (fun b=>(Value.slice (some ⟨g,0,none⟩) l.length c).ownBlock=some b) w (w.setCell ⟨g,k * 5+4,none⟩ (.slice a2 V.length c2)):=aE.setCell (S:=fun b=>(Value.slice (some ⟨g,0,none⟩) l.length c).ownBlock=some b) (p:=⟨g,k * 5+4,none⟩) (aE.refl _ _) (fun _=>rfl) _
 refine ⟨rs.set k ⟨⟨s.name,s.parent,s.kind,s.lease,V⟩,a2,c2⟩,by rw[List.map_set,h1],by rw[List.length_set];exact s1,fun r0 hr0=>?_⟩
 rcases List.mem_or_eq_of_mem_set hr0 with hr1 | rfl
 ·exact (h3 r0 hr1).apart h2 (by decide) (by decide) hkp
 ·exact hV.apart h2 (by decide) (by decide) hkp
theorem LL.last {B:Nat} {w:World} {g n c:Nat} {ls:List (List En)} {U:List En} (h:LL B w (.slice (some ⟨g,0,none⟩) n c) (ls ++ [U])):∃ xa xc,w.cell? ⟨g,ls.length,none⟩=some (.slice xa U.length xc)∧RdE w xa U∧RdL w (some ⟨g,0,none⟩) ls∧g<w.heap.size:=by
 have hrd:=h.rd;obtain ⟨b,off,A,C,e,hb,hc⟩:=hrd (by simp)
 simp only[Option.some.injEq,Addr.mk.injEq,and_true]at e;obtain ⟨rfl,rfl⟩:=e;obtain ⟨c1,c2⟩:=hc ls.length U (by simp)
 rw[Nat.zero_add]at c1;refine ⟨A ls.length,C ls.length,c1,c2,fun hz=>⟨g,0,A,C,rfl,hb,fun i es hi=>hc i es ?_⟩,hb⟩
 rw[List.getElem?_append_left (List.getElem?_eq_some_iff.1 hi).1]
 exact hi
theorem zz3 (a:Option Addr) (c n:Nat) (l:List Sn) (s:Sn) (j:Nat) (p:Bs) (zs:List Int) (d:Option Addr) (dn dc:Nat) (k:Int) (w:World) (h:RdS w a l) (hn:n=l.length) (hR:aP l) (hs:bW l) (hq:l[j]?=some s) (hk:k=1∨k=2∨k=3) (hpl:p.length≤1048576) (hd:aZ .u8 w d zs) (hdn:dn=zs.length) (hu8:U8 zs) (hdc:zs.length≤dc) (hdl:zs.length≤1048576)
  (hw:∀ q rep V,jF (iL l s) s.layer p zs k q rep V→IntKind.i64.wrap (q+rep)=q+rep) :
  Calls Tryz.prog 195 #[.slice a n c,.int .i64 j,.string (str p),.slice d dn dc,.int .i64 k] w fun r w'=>∃ q rep V,jF (iL l s) s.layer p zs k q rep V∧((q+rep≠0∧bG 0 (q+rep) l w r w')∨(q+rep=0∧bG 0 0 (dD l ⟨s.name,s.parent,s.kind,s.lease,V⟩) w r w')):=by
 subst hn;subst hdn;have hl:=hR.len;have hmem:=List.mem_of_getElem? hq;have hjl:=(List.getElem?_eq_some_iff.1 hq).1;have X0:=aA (dE.new w (.int .i64 0) (.int .i64 0) (.slice none 0 0) 29);have B0:=aA (aC w (.cells #[.int .i64 0,.int .i64 0,.slice none 0 0] 29));have HCH:=aA (zx3 a c l.length l s s.name _ (h.below B0.out) rfl hR hs (jX hR.rise hmem));rw[nP]at HCH;have hK4:(iL l s).length+1≤4:=by have:=rO hR hmem;rw[nP]at this;simpa using this
 have HSL:=aA (show mE (iL l s ++ [s.layer]) by
  rw[←nP];intro es hes;unfold dF at hes;rw[List.mem_reverse,List.mem_map]at hes;obtain ⟨y,hy,rfl⟩:=hes;have hy2:=hs.2 y (jP (fun s0 hs0=>by cases hs0;exact hmem) y hy)
  exact ⟨hy2.2.2.1,hy2.2.2.2⟩)
 have HGL:=aA (show ∀ es∈iL l s ++ [s.layer],bY es=aQ es by
  rw[←nP];intro es hes;unfold dF at hes;rw[List.mem_reverse,List.mem_map]at hes;obtain ⟨y,hy,rfl⟩:=hes;have h9:=(hR.own y (jP (fun s0 hs0=>by cases hs0;exact hmem) y hy)).2.2
  rw[h9,mZ.2 (dM.1 h9)])
 have HRd:=aA h;have HRI:=aA hR.rise;have HSM:=aA hs;have HQ:=aA hq;have HD:=aA hd;have HU8:=aA hu8;have HWR:=aA hw;obtain ⟨b2,off2,e,x2,cc2,hbb,hb2,he,d0,-,-,-,-,-⟩:=(h.below B0.out).at hjl;subst hbb;have heq:e=s:=by rw[hq]at he;exact (Option.some.inj he).symm
 subst heq;have hj0:¬ (j:Int)<0:=by omega
 have hj1:(j:Int)<(l.length:Int):=by omega
 have hlen:(iL l e ++ [e.layer]).length=(iL l e).length+1:=by simp
 rw[hlen]at HCH;clear h hs hR hq hd hu8 hw he hlen;generalize iL l e=ls at *;go_enter Tryz.func195,Tryz.ntmps195;go_wp2_with fail
 have hsz0:(w.alloc (.cells #[.int .i64 0,.int .i64 0,.slice none 0 0] 29)).heap.size=w.heap.size+1:=by simp
 generalize w.alloc (.cells #[.int .i64 0,.int .i64 0,.slice none 0 0] 29)=W0 at *;refine HCH.out.mono ?_;rintro r w1 ⟨g,cv,rfl,hcv,hLL,hb1⟩;have B1:=aA (aB B0.out hb1);have X1:=aA (X0.out.below hb1);have hs1:=hb1.size;obtain ⟨u,xc,hcell,hRU,hRL,hgl⟩:=hLL.last;have RU:=aA hRU;have RL:=aA hRL;clear hb1 hLL hRU hRL d0;have hwk:IntKind.i64.wrap ((ls.length:Int)+1 - 1)=(ls.length:Int):=by simp[IntKind.wrap,IntKind.signed,IntKind.bits];omega
 have hwk2:IntKind.i64.wrap (ls.length:Int)=(ls.length:Int):=by simp[IntKind.wrap,IntKind.signed,IntKind.bits];omega
 have hI0:(0:Int)≤(ls.length:Int):=by omega
 have hI1:(ls.length:Int)≤(cv:Int):=by omega
 have hI2:(ls.length:Int)<(ls.length:Int)+1:=by omega
 have hI3:¬ (ls.length:Int)<0:=by omega
 have BW:=aA (aC w1 (.cells #[.int .i64 0,.int .i64 0,.slice none 0 0] 267));have B2:=aA (aB B1.out BW.out);have Y2:=aA (dE.new w1 (.int .i64 0) (.int .i64 0) (.slice none 0 0) 267);have X2:=aA (X1.out.below BW.out);rcases hk with rfl | rfl | rfl
 ·go_wp2_with fail
  have hs2:(w1.alloc (.cells #[.int .i64 0,.int .i64 0,.slice none 0 0] 267)).heap.size=w1.heap.size+1:=by simp
  generalize w1.alloc (.cells #[.int .i64 0,.int .i64 0,.slice none 0 0] 267)=W2 at *;refine (wD (some ⟨g,0,none⟩) cv ls.length ls u xc e.layer.length e.layer p zs d zs.length dc _ (RL.out.below BW.out) rfl (by omega) (RU.out.below BW.out) rfl HSL.out HGL.out hpl (HD.out.below B2.out) rfl HU8.out hdc hdl).mono ?_
  rintro r w3 ⟨q,rep,V,hF,av,cv3,rfl,hG3,hb3⟩;have HF:=aA (jF.one (zs:=zs) hF);have hwr:=HWR.out q rep V HF.out;have G3:=aA hG3;have B3:=aA (aB B2.out hb3);have X3:=aA (X2.out.below hb3);have Y3:=aA (Y2.out.below hb3);have hs3:=hb3.size;clear hG3 hb3 hF;obtain ⟨⟨y0,y1,y2⟩,y3,y4,y5⟩:=Y3.out;have Y4:=aA (Y3.out.set (.int .i64 q) (.int .i64 rep) (.slice av V.length cv3));have K4:=aA (aE.three' w3 w1.heap.size (.int .i64 q) (.int .i64 rep) (.slice av V.length cv3));have B4:=aA (B3.out.trans (K4.out.below B3.out.size (fun q hq e=>by omega)))
  have X4:=aA (X3.out.kept K4.out (by omega))
  have G4:=aA ((G3.out.kept K4.out (fun b hb e=>by omega)).mono (B':=w1.heap.size) (by omega))
  have hs4:=K4.out.size;obtain ⟨⟨z0,z1,z2⟩,z3,z4,z5⟩:=Y4.out;by_cases hz:q+rep=0
  ·have HZ:=aA hz
   rw[hz]at hwr;go_wp2_with fail
   clear hz hwr;generalize ((w3.setCell ⟨w1.heap.size,0,none⟩ (.int .i64 q)).setCell ⟨w1.heap.size,1,none⟩ (.int .i64 rep)).setCell ⟨w1.heap.size,2,none⟩ (.slice av V.length cv3)=W4 at *;refine (dI (some ⟨b2,off2,none⟩) c l.length l W4 (HRd.out.below B4.out) rfl (by omega) HSM.out).mono ?_
   rintro r w5 ⟨av5,cv5,rfl,hG5,hb5⟩;have G5:=aA (hG5.mono (B':=w1.heap.size) (by omega))
   have B5:=aA (aB B4.out hb5);have G6:=aA (G4.out.below hb5);have X5:=aA (X4.out.below hb5);have hs5:=hb5.size;obtain ⟨⟨z0,z1,z2⟩,z3,z4,z5⟩:=Y4.out.below hb5;obtain ⟨g5,hgv,hgB,hgl,hfz,r5,hrs5,hcl⟩:=hG5.at HQ.out;subst hgv;have hz2:w5.cell? ⟨g5,j * 5+4,none⟩=some (.slice r5.a r5.s.layer.length r5.c):=hcl 4 (by decide)
   have hf2:=hfz (j * 5+4);clear hG5 hb5 hcl hfz;have GP:=aA (G5.out.lay HQ.out G6.out);rw[←jD HRI.out HQ.out (s':=⟨e.name,e.parent,e.kind,e.lease,V⟩) rfl]at GP;have HLN:=aA (show (dD l ⟨e.name,e.parent,e.kind,e.lease,V⟩).length=l.length by rw[jD HRI.out HQ.out (s':=⟨e.name,e.parent,e.kind,e.lease,V⟩) rfl,List.length_set])
   have KS:=aA (aE.setCell (S:=fun q=>q=g5) (p:=⟨g5,j * 5+4,none⟩) (aE.refl _ w5) (fun _=>rfl) (.slice av V.length cv3))
   have BP:=aA (B5.out.trans (KS.out.below B5.out.size (fun q hq e=>by omega)))
   obtain ⟨⟨t0,t1,t2⟩,t3,t4,t5⟩:=X5.out.kept KS.out (by omega)
   go_wp2_with fail
   exact bodyPost_ret (v:=.agg #[.int .i64 0,.int .i64 0,.slice (some ⟨g5,0,none⟩) l.length cv5]) (by simp[results,Tryz.results195,go_sem,t0,t1,t2]) rfl ⟨q,rep,V,HF.out,.inr ⟨HZ.out,bG.of (B:=w1.heap.size) (by omega) (Nat.le_refl _) HLN.out.symm GP.out BP.out⟩⟩
  ·have HZ:=aA hz
   go_wp2_with fail
   generalize ((w3.setCell ⟨w1.heap.size,0,none⟩ (.int .i64 q)).setCell ⟨w1.heap.size,1,none⟩ (.int .i64 rep)).setCell ⟨w1.heap.size,2,none⟩ (.slice av V.length cv3)=W4 at *;refine (cA (some ⟨b2,off2,none⟩) c l.length l (q+rep) W4 (HRd.out.below B4.out) rfl (by omega) HSM.out).mono ?_
   rintro r w9 ⟨av9,cv9,rfl,hG,hb9⟩;have G9:=aA hG;have B9:=aA (aB B4.out hb9);obtain ⟨⟨t0,t1,t2⟩,t3,t4,t5⟩:=X4.out.below hb9;clear hG hb9;go_wp2_with fail
   exact bodyPost_ret (v:=.agg #[.int .i64 0,.int .i64 (q+rep),.slice av9 l.length cv9]) (by simp[results,Tryz.results195,go_sem,t0,t1,t2]) rfl ⟨q,rep,V,HF.out,.inl ⟨HZ.out,bG.of (B:=W4.heap.size) (by omega) (Nat.le_refl _) rfl G9.out B9.out⟩⟩
 ·go_wp2_with fail
  have hs2:(w1.alloc (.cells #[.int .i64 0,.int .i64 0,.slice none 0 0] 267)).heap.size=w1.heap.size+1:=by simp
  generalize w1.alloc (.cells #[.int .i64 0,.int .i64 0,.slice none 0 0] 267)=W2 at *;refine (yC (some ⟨g,0,none⟩) cv ls.length ls u xc e.layer.length e.layer p _ (RL.out.below BW.out) rfl (by omega) (RU.out.below BW.out) rfl HSL.out HGL.out hpl).mono ?_
  rintro r w3 ⟨q,rep,V,hF,av,cv3,rfl,hG3,hb3⟩;have HF:=aA (jF.two (zs:=zs) hF);have hwr:=HWR.out q rep V HF.out;have G3:=aA hG3;have B3:=aA (aB B2.out hb3);have X3:=aA (X2.out.below hb3);have Y3:=aA (Y2.out.below hb3);have hs3:=hb3.size;clear hG3 hb3 hF;obtain ⟨⟨y0,y1,y2⟩,y3,y4,y5⟩:=Y3.out;have Y4:=aA (Y3.out.set (.int .i64 q) (.int .i64 rep) (.slice av V.length cv3));have K4:=aA (aE.three' w3 w1.heap.size (.int .i64 q) (.int .i64 rep) (.slice av V.length cv3));have B4:=aA (B3.out.trans (K4.out.below B3.out.size (fun q hq e=>by omega)))
  have X4:=aA (X3.out.kept K4.out (by omega))
  have G4:=aA ((G3.out.kept K4.out (fun b hb e=>by omega)).mono (B':=w1.heap.size) (by omega))
  have hs4:=K4.out.size;obtain ⟨⟨z0,z1,z2⟩,z3,z4,z5⟩:=Y4.out;by_cases hz:q+rep=0
  ·have HZ:=aA hz
   rw[hz]at hwr;go_wp2_with fail
   clear hz hwr;generalize ((w3.setCell ⟨w1.heap.size,0,none⟩ (.int .i64 q)).setCell ⟨w1.heap.size,1,none⟩ (.int .i64 rep)).setCell ⟨w1.heap.size,2,none⟩ (.slice av V.length cv3)=W4 at *;refine (dI (some ⟨b2,off2,none⟩) c l.length l W4 (HRd.out.below B4.out) rfl (by omega) HSM.out).mono ?_
   rintro r w5 ⟨av5,cv5,rfl,hG5,hb5⟩;have G5:=aA (hG5.mono (B':=w1.heap.size) (by omega))
   have B5:=aA (aB B4.out hb5);have G6:=aA (G4.out.below hb5);have X5:=aA (X4.out.below hb5);have hs5:=hb5.size;obtain ⟨⟨z0,z1,z2⟩,z3,z4,z5⟩:=Y4.out.below hb5;obtain ⟨g5,hgv,hgB,hgl,hfz,r5,hrs5,hcl⟩:=hG5.at HQ.out;subst hgv;have hz2:w5.cell? ⟨g5,j * 5+4,none⟩=some (.slice r5.a r5.s.layer.length r5.c):=hcl 4 (by decide)
   have hf2:=hfz (j * 5+4);clear hG5 hb5 hcl hfz;have GP:=aA (G5.out.lay HQ.out G6.out);rw[←jD HRI.out HQ.out (s':=⟨e.name,e.parent,e.kind,e.lease,V⟩) rfl]at GP;have HLN:=aA (show (dD l ⟨e.name,e.parent,e.kind,e.lease,V⟩).length=l.length by rw[jD HRI.out HQ.out (s':=⟨e.name,e.parent,e.kind,e.lease,V⟩) rfl,List.length_set])
   have KS:=aA (aE.setCell (S:=fun q=>q=g5) (p:=⟨g5,j * 5+4,none⟩) (aE.refl _ w5) (fun _=>rfl) (.slice av V.length cv3))
   have BP:=aA (B5.out.trans (KS.out.below B5.out.size (fun q hq e=>by omega)))
   obtain ⟨⟨t0,t1,t2⟩,t3,t4,t5⟩:=X5.out.kept KS.out (by omega)
   go_wp2_with fail
   exact bodyPost_ret (v:=.agg #[.int .i64 0,.int .i64 0,.slice (some ⟨g5,0,none⟩) l.length cv5]) (by simp[results,Tryz.results195,go_sem,t0,t1,t2]) rfl ⟨q,rep,V,HF.out,.inr ⟨HZ.out,bG.of (B:=w1.heap.size) (by omega) (Nat.le_refl _) HLN.out.symm GP.out BP.out⟩⟩
  ·have HZ:=aA hz
   go_wp2_with fail
   generalize ((w3.setCell ⟨w1.heap.size,0,none⟩ (.int .i64 q)).setCell ⟨w1.heap.size,1,none⟩ (.int .i64 rep)).setCell ⟨w1.heap.size,2,none⟩ (.slice av V.length cv3)=W4 at *;refine (cA (some ⟨b2,off2,none⟩) c l.length l (q+rep) W4 (HRd.out.below B4.out) rfl (by omega) HSM.out).mono ?_
   rintro r w9 ⟨av9,cv9,rfl,hG,hb9⟩;have G9:=aA hG;have B9:=aA (aB B4.out hb9);obtain ⟨⟨t0,t1,t2⟩,t3,t4,t5⟩:=X4.out.below hb9;clear hG hb9;go_wp2_with fail
   exact bodyPost_ret (v:=.agg #[.int .i64 0,.int .i64 (q+rep),.slice av9 l.length cv9]) (by simp[results,Tryz.results195,go_sem,t0,t1,t2]) rfl ⟨q,rep,V,HF.out,.inl ⟨HZ.out,bG.of (B:=W4.heap.size) (by omega) (Nat.le_refl _) rfl G9.out B9.out⟩⟩
 ·go_wp2_with fail
  have hs2:(w1.alloc (.cells #[.int .i64 0,.int .i64 0,.slice none 0 0] 267)).heap.size=w1.heap.size+1:=by simp
  generalize w1.alloc (.cells #[.int .i64 0,.int .i64 0,.slice none 0 0] 267)=W2 at *;refine (vB (some ⟨g,0,none⟩) cv ls.length ls u xc e.layer.length e.layer p _ (RL.out.below BW.out) rfl (by omega) (RU.out.below BW.out) rfl HSL.out HGL.out hpl).mono ?_
  rintro r w3 ⟨q,rep,V,hF,av,cv3,rfl,hG3,hb3⟩;have HF:=aA (jF.three (zs:=zs) hF);have hwr:=HWR.out q rep V HF.out;have G3:=aA hG3;have B3:=aA (aB B2.out hb3);have X3:=aA (X2.out.below hb3);have Y3:=aA (Y2.out.below hb3);have hs3:=hb3.size;clear hG3 hb3 hF;obtain ⟨⟨y0,y1,y2⟩,y3,y4,y5⟩:=Y3.out;have Y4:=aA (Y3.out.set (.int .i64 q) (.int .i64 rep) (.slice av V.length cv3));have K4:=aA (aE.three' w3 w1.heap.size (.int .i64 q) (.int .i64 rep) (.slice av V.length cv3));have B4:=aA (B3.out.trans (K4.out.below B3.out.size (fun q hq e=>by omega)))
  have X4:=aA (X3.out.kept K4.out (by omega))
  have G4:=aA ((G3.out.kept K4.out (fun b hb e=>by omega)).mono (B':=w1.heap.size) (by omega))
  have hs4:=K4.out.size;obtain ⟨⟨z0,z1,z2⟩,z3,z4,z5⟩:=Y4.out;by_cases hz:q+rep=0
  ·have HZ:=aA hz
   rw[hz]at hwr;go_wp2_with fail
   clear hz hwr;generalize ((w3.setCell ⟨w1.heap.size,0,none⟩ (.int .i64 q)).setCell ⟨w1.heap.size,1,none⟩ (.int .i64 rep)).setCell ⟨w1.heap.size,2,none⟩ (.slice av V.length cv3)=W4 at *;refine (dI (some ⟨b2,off2,none⟩) c l.length l W4 (HRd.out.below B4.out) rfl (by omega) HSM.out).mono ?_
   rintro r w5 ⟨av5,cv5,rfl,hG5,hb5⟩;have G5:=aA (hG5.mono (B':=w1.heap.size) (by omega))
   have B5:=aA (aB B4.out hb5);have G6:=aA (G4.out.below hb5);have X5:=aA (X4.out.below hb5);have hs5:=hb5.size;obtain ⟨⟨z0,z1,z2⟩,z3,z4,z5⟩:=Y4.out.below hb5;obtain ⟨g5,hgv,hgB,hgl,hfz,r5,hrs5,hcl⟩:=hG5.at HQ.out;subst hgv;have hz2:w5.cell? ⟨g5,j * 5+4,none⟩=some (.slice r5.a r5.s.layer.length r5.c):=hcl 4 (by decide)
   have hf2:=hfz (j * 5+4);clear hG5 hb5 hcl hfz;have GP:=aA (G5.out.lay HQ.out G6.out);rw[←jD HRI.out HQ.out (s':=⟨e.name,e.parent,e.kind,e.lease,V⟩) rfl]at GP;have HLN:=aA (show (dD l ⟨e.name,e.parent,e.kind,e.lease,V⟩).length=l.length by rw[jD HRI.out HQ.out (s':=⟨e.name,e.parent,e.kind,e.lease,V⟩) rfl,List.length_set])
   have KS:=aA (aE.setCell (S:=fun q=>q=g5) (p:=⟨g5,j * 5+4,none⟩) (aE.refl _ w5) (fun _=>rfl) (.slice av V.length cv3))
   have BP:=aA (B5.out.trans (KS.out.below B5.out.size (fun q hq e=>by omega)))
   obtain ⟨⟨t0,t1,t2⟩,t3,t4,t5⟩:=X5.out.kept KS.out (by omega)
   go_wp2_with fail
   exact bodyPost_ret (v:=.agg #[.int .i64 0,.int .i64 0,.slice (some ⟨g5,0,none⟩) l.length cv5]) (by simp[results,Tryz.results195,go_sem,t0,t1,t2]) rfl ⟨q,rep,V,HF.out,.inr ⟨HZ.out,bG.of (B:=w1.heap.size) (by omega) (Nat.le_refl _) HLN.out.symm GP.out BP.out⟩⟩
  ·have HZ:=aA hz
   go_wp2_with fail
   generalize ((w3.setCell ⟨w1.heap.size,0,none⟩ (.int .i64 q)).setCell ⟨w1.heap.size,1,none⟩ (.int .i64 rep)).setCell ⟨w1.heap.size,2,none⟩ (.slice av V.length cv3)=W4 at *;refine (cA (some ⟨b2,off2,none⟩) c l.length l (q+rep) W4 (HRd.out.below B4.out) rfl (by omega) HSM.out).mono ?_
   rintro r w9 ⟨av9,cv9,rfl,hG,hb9⟩;have G9:=aA hG;have B9:=aA (aB B4.out hb9);obtain ⟨⟨t0,t1,t2⟩,t3,t4,t5⟩:=X4.out.below hb9;clear hG hb9;go_wp2_with fail
   exact bodyPost_ret (v:=.agg #[.int .i64 0,.int .i64 (q+rep),.slice av9 l.length cv9]) (by simp[results,Tryz.results195,go_sem,t0,t1,t2]) rfl ⟨q,rep,V,HF.out,.inl ⟨HZ.out,bG.of (B:=W4.heap.size) (by omega) (Nat.le_refl _) rfl G9.out B9.out⟩⟩
end Go.Proofs.YtgaeikgoknoamaaGreat
namespace Go.Proofs.YtgaeikgoknoamaaGreat
theorem xG {x:En}:∀ {us:List Bs} {o:List En},x∈us.foldl cJ o→x∈o∨∃ u∈us,x=gI u
 | [],o,h=>.inl h
 | u :: us,o,h=>by
  rcases xG (us:=us) (o:=cJ o u) h with h | ⟨v,hv,e⟩
  ·unfold cJ at h
   split at h
   ·rcases jC.1 h with h | ⟨h,-⟩
    ·exact .inr ⟨u,List.mem_cons_self,h⟩
    ·exact .inl h
   ·exact .inl h
  ·exact .inr ⟨v,List.mem_cons_of_mem _ hv,e⟩
theorem zw0:∀ {us:List Bs} {o:List En},(∀ u∈us,aL o u≠none)→us.foldl cJ o=o
 | [],o,h=>rfl
 | u :: us,o,h=>by
  have h1:cJ o u=o:=by rw[cJ,if_neg (h u List.mem_cons_self)]
  rw[List.foldl_cons,h1];exact zw0 (fun v hv=>h v (List.mem_cons_of_mem _ hv))
theorem qR {es:List En} {x:En} (hx:x∈es):aL es x.path≠none:=by
 intro h;have:=List.find?_eq_none.1 h x hx;simp at this
theorem zje {U:List En} (h:Fit U) {q:Bs} (hq:aG q=0) (hf:aL U q≠none):∀ u∈bM q,aL U u≠none:=by
 intro u hu;cases hx:aL U q with
 | none=>exact absurd hx hf
 | some x =>
  obtain ⟨hm,hp⟩:=eR hx;rw[eL hq]at hu;obtain ⟨h1,h2⟩:=(jL hq).1 hu;obtain ⟨d,hd,hdp,-⟩:=h.up h1 hm (by rw[hp];exact h2)
  rw[←hdp];exact qR hd
theorem zne {q u:Bs} (hq:aG q=0) (hu:u∈bM q):u≠q:=by
 intro e;rw[eL hq]at hu;have:=eQ ((jL hq).1 hu).2;rw[e]at this;omega
theorem zih {U:List En} (h:Fit U) {e:En} (hp:aG e.path=0):gC U e=if iU U e=true then cZ (gC U (gI (aF e.path))) e else cZ U e:=by
 have hk:=lS hp rfl;by_cases h0:aF e.path=[]
 ·rw[if_pos h0]at hk
  rw[gC,hk,if_neg (by simp[iU,h0])]
  rfl
 ·rw[if_neg h0]at hk
  obtain ⟨hq,-⟩:=dX hp h0;rw[gC,hk,List.foldl_append,List.foldl_cons,List.foldl_nil];by_cases hf:aL U (aF e.path)=none
  ·rw[if_pos (by simp[iU,h0,hf])]
   have h1:aL ((bM (aF e.path)).foldl cJ U) (aF e.path)=none:=lW (fun x hx hxp=>by
    rcases xG hx with hx | ⟨u,hu,rfl⟩
    ·exact qR hx (by rw[hxp];exact hf)
    ·exact zne hq hu hxp)
   rw[cJ,if_pos h1];rfl
  ·rw[if_neg (by cases hs:aL U (aF e.path) with
    | none=>exact absurd hs hf
    | some x=>simp[iU,hs])]
   rw[zw0 (zje h hq hf),cJ,if_neg hf]
theorem zah {U:List En} (h:Fit U) {p:Bs} (hp:aG p=0) (h0:aF p≠[]) (hf:aL U (aF p)=none):∀ x∈U,x.path≠p∧bE x.path p=false:=by
 intro x hx;obtain ⟨hq,hb⟩:=dX hp h0;have key:bE x.path (aF p)=true→False:=fun hxb=>by
  obtain ⟨d,hd,hdp,-⟩:=h.up hq hx hxb;exact qR hd (by rw[hdp];exact hf)
 refine ⟨fun e=>key (by rw[e];exact hb),?_⟩
 cases hxb:bE x.path p with
 | false=>rfl
 | true=>exact absurd (nE hxb hb) (fun h=>key h)
theorem zhg {D:List En} {e:En} (h:∀ x∈D,x.path≠e.path∧bE x.path e.path=false):(cZ D e).length=D.length+1:=by
 rw[zb5]
 congr 1
 rw[gZ,List.filter_eq_self.2];intro x hx;obtain ⟨h1,h2⟩:=h x hx;simp[iR,h1,h2]
theorem zc5 {D:List En} {e:En} (h:bD D) (he:aH e=0) (hh:cI D e.path=true):(eT D e,gA D e)=if (cZ D e).length≤12 then ((0:Int),cZ D e) else (2,[]):=by
 have h1:eT D e=if 12<(cZ D e).length then 2 else 0:=by rw[eT,if_pos (dM.2 h),if_pos he,if_pos hh]
 by_cases hl:12<(cZ D e).length
 ·rw[if_neg (by omega),gA,h1,if_pos hl];rfl
 ·rw[if_pos (by omega),gA,h1,if_neg hl];rfl
theorem zr0 {U:List En} (h:bD U):∀ (n:Nat) (e:En),(bM e.path).length=n→aH e=0→(∀ u∈bM e.path,∀ x,aL U u=some x→cG x.kind=true)→iG n U e=if (gC U e).length≤12 then (0,gC U e) else (2,[])
 | n,e,hn,he,hd=>by
  have hp:=bO he;have hF:=(iV.1 h).1;have hfu:=zih hF hp;have hk:=lS hp rfl;by_cases hu:iU U e=true
  ·rw[if_pos hu]at hfu
   have h0:aF e.path≠[]:=by intro e0;simp[iU,e0]at hu
   have hf:aL U (aF e.path)=none:=by
    cases hs:aL U (aF e.path) with
    | none=>rfl
    | some x=>simp[iU,hs]at hu
   rw[if_neg h0]at hk;obtain ⟨hq,hb⟩:=dX hp h0;cases n with
   | zero=>exact absurd (zld hp hn) h0
   | succ n =>
    have ih:=zr0 h n (gI (aF e.path)) (zgj hp h0 hn) (rR hq) (fun u hu2 x hx=>hd u (by rw[hk];exact List.mem_append_left _ hu2) x hx)
    by_cases hl:(gC U (gI (aF e.path))).length≤12
    ·rw[if_pos hl]at ih
     have hz:(iG n U (gI (aF e.path))).1=0:=by rw[ih]
     have hR:=(zt0 hz).1;rw[zn3 hu hz];rw[ih]at hR ⊢;rw[hfu];exact zc5 hR he (dS.2 (.inr ⟨gI (aF e.path),jC.2 (.inl rfl),rfl,rfl⟩))
    ·rw[if_neg hl]at ih
     have hz:(iG n U (gI (aF e.path))).1≠0:=by rw[ih];decide
     rw[zm3 hu hz,ih,if_neg];rw[hfu,zhg]
     ·omega
     ·intro x hx
      rcases jC.1 hx with rfl | ⟨hx,-⟩
      ·exact ⟨uQ hp h0,by
        cases hxb:bE (aF e.path) e.path with
        | false=>exact hxb
        | true=>have a1:=eQ hxb;have a2:=eQ hb;omega⟩
      ·rcases xG hx with hx | ⟨u,hu2,rfl⟩
       ·exact zah hF hp h0 hf x hx
       ·have hu3:u∈bM (aF e.path):=hu2
        rw[eL hq]at hu3;have a1:=eQ ((jL hq).1 hu3).2;have a2:=eQ hb;refine ⟨fun e1=>?_,?_⟩
        ·have e2:u=e.path:=e1
         rw[e2]at a1;omega
        ·cases hxb:bE u e.path with
         | false=>exact hxb
         | true=>have a3:=eQ hxb;omega
  ·have hu2:iU U e=false:=by simpa using hu
   rw[if_neg hu]at hfu;rw[zs0 hu2,hfu];refine zc5 h he ?_;by_cases h0:aF e.path=[]
   ·exact dS.2 (.inl h0)
   ·cases hs:aL U (aF e.path) with
    | none=>simp[iU,h0,hs]at hu
    | some x =>
     obtain ⟨hm,hxp⟩:=eR hs;rw[if_neg h0]at hk;exact dS.2 (.inr ⟨x,hm,hxp,hd _ (by rw[hk];simp) x hs⟩)
theorem zyh {T:List En} (h:jH T) {p:Bs} (hp:aG p=0) (hh:eA T p=0):∀ u∈bM p,aL T u=some (gI u):=by
 have hk:=lS hp rfl;intro u hu;by_cases h0:aF p=[]
 ·rw[if_pos h0]at hk;rw[hk]at hu;simp at hu
 ·rw[if_neg h0]at hk
  obtain ⟨hq,-⟩:=dX hp h0;have key:∀ d∈T,cG d.kind=true→d.path=u→aL T u=some (gI u):=fun d hd hdk hdp=>by
   have h1:=eJ h.fit.rise hd;rw[hdp]at h1;rw[h1];have hup:aG u=0:=by rw[←hdp];exact h.fit.path hd
   have:=zwg (h.fit.ent d hd) (rR hup) hdp hdk rfl;rw[asT,if_neg (by rw[h.dir hd hdk];decide)]at this
   exact congrArg some this
  cases hs:aL T (aF p) with
  | none=>rw[yT h0 hs]at hh;cases hh
  | some d =>
   obtain ⟨hd,hdp⟩:=eR hs;have hdk:cG d.kind=true:=by
    have h1:=h.kind d hd;simp only[eA,if_neg h0,hs]at hh;simp only[iX,decide_eq_true_eq]at h1;rcases h1 with h1 | h1
    ·rw[if_pos h1]at hh;cases hh
    ·simp[cG,h1]
   rw[hk]at hu;rcases List.mem_append.1 hu with hu | hu
   ·rw[eL hq]at hu
    obtain ⟨h1,h2⟩:=(jL hq).1 hu;obtain ⟨d2,hd2,hdp2,hdk2⟩:=h.fit.up h1 hd (by rw[hdp];exact h2)
    exact key d2 hd2 hdk2 hdp2
   ·simp only[List.mem_singleton]at hu
    exact key d hd hdk (by rw[hdp,hu])
theorem zW {t U:List En} (ht:jH t) (hU:Fit U) {p:Bs} (hp:aG p=0) (hh:eA (cW t U) p=0):∀ u∈bM p,∀ x,aL U u=some x→cG x.kind=true:=by
 intro u hu x hx;have h1:=zyh (pZ ht hU) hp hh u hu;rw[zF ht hU,lZ hx]at h1;by_cases h3:x.kind=3
 ·rw[if_pos h3]at h1;cases h1
 ·rw[if_neg h3]at h1
  have h2:asT x=gI u:=Option.some.inj h1;have h4:(asT x).kind=2:=by rw[h2];rfl
  rcases kJ (hU.ent x (eR hx).1) with hk | hk | hk | hk
  ·rw[asT,if_neg (by rw[hk];decide),hk]at h4;cases h4
  ·simp[cG,hk]
  ·exact absurd hk h3
  ·simp[cG,hk]
theorem zj9 {U:List En} (h:bD U) {e:En} (he:aH e=0) (hd:∀ u∈bM e.path,∀ x,aL U u=some x→cG x.kind=true) (hl:(gC U e).length≤12):bD (gC U e):=by
 have h1:=zr0 h _ e rfl he hd;rw[if_pos hl]at h1;have h2:=(zt0 (n:=(bM e.path).length) (U:=U) (e:=e) (by rw[h1])).1
 rwa [h1]at h2
theorem zpc {T:List En} (h:jH T) {p:Bs} {e:En} (hf:aL T p=some e):eA T p=0:=by
 obtain ⟨hm,hp⟩:=eR hf;rcases dS.1 (h.fit.home e hm) with h0 | ⟨d,hd,hdp,hdk⟩
 ·rw[hp]at h0;exact tV h0
 ·rw[hp]at hdp
  have h1:=eJ h.fit.rise hd;rw[hdp]at h1;by_cases h0:aF p=[]
  ·exact tV h0
  ·simp only[eA,if_neg h0,h1]
   rw[if_neg (by rw[h.dir hd hdk];decide)]
theorem zwe {U:List En} {p:Bs} (hp:aG p=0):aH (kB U p)=0∧(kB U p).path=p∧asT (kB U p)=tR p∧(kB U p).kind≠3:=by
 have h4:aH (⟨p,4,0,[]⟩:En)=0:=by
  rw[fB (e:=⟨p,4,0,[]⟩) hp (by simp[gD]) (by simp[kF]) (by simp[kT])]
  rfl
 have key:kB U p=⟨p,4,0,[]⟩∨kB U p=⟨p,2,0,[]⟩:=by
  unfold kB;cases aL U p with
  | none=>exact .inr rfl
  | some x =>
   by_cases hk:x.kind=3
   ·left;simp[hk]
   ·right;simp[hk]
 rcases key with h | h <;> rw[h]
 ·exact ⟨h4,rfl,by simp[asT,gE,tR],by simp⟩
 ·exact ⟨rR hp,rfl,by simp[asT,tR],by simp⟩
def vH (p:Bs):En:=⟨p,3,0,[]⟩
theorem zgb {p:Bs} (hp:aG p=0):aH (vH p)=0:=by
 rw[fB (e:=vH p) hp (by simp[gD,vH]) (by simp[kF,vH]) (by simp[kT,vH])]
 rfl
end Go.Proofs.YtgaeikgoknoamaaGreat
namespace Go.Proofs.YtgaeikgoknoamaaGreat
open Go.RowKit Go.Maps
attribute [local go_sem ↓] Go.wp_at_zero Go.wp_at_succ
theorem zof (a b:Option Addr) (c1 c2:Nat) (ms:List Int) (w:World) (h:aZ .i64 w a ms) (h2:aZ .i64 w b ms) (hl:ms.length≤1048576) :
  Calls Tryz.prog 17 #[.slice a ms.length c1,.slice b ms.length c2] w fun e w'=>e=.returned (.bool true)∧Below w.heap.size w w':=by
 have HA:=aA h;have HB:=aA h2;clear h h2;go_enter Tryz.func17,Tryz.ntmps17;go_wp2
 go_loopw [5] (fun i wr=>∃ k:Nat,k≤ms.length∧i=.int .i64 k∧Below w.heap.size w wr) (fun i _=>ms.length - (intOf i).toNat)
 case atStart=>exact ⟨0,Nat.zero_le _,rfl,Below.refl _ _⟩
 case round =>
  obtain ⟨k,hk,rfl,hbel⟩:=hrel;have HW:=aA hbel;clear hbel;by_cases hlt:k<ms.length
  ·have h0:ms≠[]:=fun e=>by subst e;simp at hlt
   obtain ⟨b1,o1,rfl,hb1,hc1⟩:=(HA.out.below HW.out) h0;obtain ⟨b2,o2,rfl,hb2,hc2⟩:=(HB.out.below HW.out) h0;have e1:=hc1 k hlt;have e2:=hc2 k hlt;generalize ms.getD k 0=z at e1 e2;have hk0:(0:Int)≤(k:Int):=by omega
   have hk1:(k:Int)<(ms.length:Int):=by omega
   have hzz:(z != z)=false:=by simp
   clear hc1 hc2 h0;go_wp2
   go_quiet (fail)
   go_wp2
   go_roundw
   case rel=>exact ⟨k+1,by omega,by go_num,below_drewN HW.out _⟩
   case measure=>simp[intOf];omega
  ·have hke:k=ms.length:=by omega
   subst hke;go_wp2
   go_ret
   exact ⟨rfl,HW.out⟩
theorem zk6 {p:Bs} {zs:List Int} (hp:aG p=0) (hl:zs.length≤24):aH (dT p zs)=0:=by
 have h1:gD (dT p zs)=true:=decide_eq_true ⟨by simp[dT],.inl rfl⟩
 have h2:kF (dT p zs)=true:=decide_eq_true (by simp[dT];omega)
 have h3:kT (dT p zs)=true:=decide_eq_true (by show ((lK zs (cut zs).length).length:Int)=((zs.length:Int)+7) / 8;rw[jR,kS];omega)
 rw[fB hp h1 h2 h3,if_pos];rw[List.all_eq_true];intro z hz;simp only[dT,lK,List.mem_map]at hz;obtain ⟨i,_,rfl⟩:=hz;exact decide_eq_true (tQ _)
end Go.Proofs.YtgaeikgoknoamaaGreat
namespace Go.Proofs.YtgaeikgoknoamaaGreat
theorem zqf {ls:List (List En)} (h:lA ls=0):zu2 (aT ls):=by
 obtain ⟨h1,-,h3⟩:=zrf h;exact mM.2 ⟨zP (kW (fM.1 h1).2),h3⟩
theorem zw9 {T:List En} {p:Bs} (h:wrS T p=0):eA T p=0:=by
 by_cases hh:eA T p=0
 ·exact hh
 ·rw[wrS,if_neg hh]at h;exact h
theorem zv9 {T:List En} {p:Bs} (h:mkS T p=0):eA T p=0:=by
 by_cases hh:eA T p=0
 ·exact hh
 ·rw[mkS,if_neg hh]at h;exact h
theorem qP {O U:List En} {e:En} {rep:Int} {V:List En} (hO:bD O) (hU:bD U) (he:aH e=0) (hd:∀ u∈bM e.path,∀ x,aL U u=some x→cG x.kind=true) (h:nN O U e rep V):bD V:=by
 by_cases hl:12<(gC U e).length
 ·rw[(h.1 hl).2];exact hO
 ·rw[(h.2 hl).2];exact zj9 hU he hd (by omega)
theorem xO {ls:List (List En)} {U:List En} (hR:∀ es∈ls ++ [U],bD es):jH (aT ls)∧bD U:=⟨zP (kW fun es he=>hR es (List.mem_append_left _ he)),hR U (by simp)⟩
theorem ztg {ls:List (List En)} {U:List En} {p:Bs} {zs:List Int} {rep:Int} {V:List En} (hR:∀ es∈ls ++ [U],bD es) (hp:aG p=0) (hzl:zs.length≤24) (h:WrS (aT (ls ++ [U])) U p (dT p zs) rep V):bD V:=by
 obtain ⟨ht,hU⟩:=xO hR;by_cases hw:wrS (aT (ls ++ [U])) p=0
 ·exact qP hU hU (zk6 hp hzl) (zW ht (iV.1 hU).1 hp (by rw[←lT];exact zw9 hw)) (h.yes hw)
 ·rw[(h.no hw).2];exact hU
theorem ztf {ls:List (List En)} {U:List En} {p:Bs} {rep:Int} {V:List En} (hR:∀ es∈ls ++ [U],bD es) (hp:aG p=0) (h:MkS (aT (ls ++ [U])) U p rep V):bD V:=by
 obtain ⟨ht,hU⟩:=xO hR;obtain ⟨he,hep,-,-⟩:=zwe (U:=U) hp;by_cases hw:mkS (aT (ls ++ [U])) p=0
 ·exact qP hU hU he (by rw[hep];exact zW ht (iV.1 hU).1 hp (by rw[←lT];exact zv9 hw)) (h.yes hw)
 ·rw[(h.no hw).2];exact hU
theorem zlg {ls:List (List En)} {U:List En} {p:Bs} {rep:Int} {V:List En} (hR:∀ es∈ls ++ [U],bD es) (hp:aG p=0) (h:RmS ls (aT (ls ++ [U])) U p rep V):bD V:=by
 obtain ⟨ht,hU⟩:=xO hR;have hr:=wY hU hp;by_cases hw:rmS (aT (ls ++ [U])) p=0
 ·cases hs:aL (aT (ls ++ [bF U p true])) p with
  | none=>rw[(h.gone hw hs).2];exact hr
  | some x =>
   have hT:jH (aT (ls ++ [bF U p true])):=by rw[lT];exact pZ ht (iV.1 hr).1
   have hh:=zpc hT hs;rw[lT]at hh;exact qP hU hr (zgb hp) (zW ht (iV.1 hr).1 hp hh) (h.white hw (by rw[hs];simp))
 ·rw[(h.no hw).2];exact hU
end Go.Proofs.YtgaeikgoknoamaaGreat
namespace Go.Proofs.YtgaeikgoknoamaaGreat
open Go.RowKit Go.Maps
attribute [local go_sem ↓] Go.wp_at_zero Go.wp_at_succ
theorem wL (T:List En) (p:Bs):0≤eA T p∧eA T p≤9:=by
 unfold eA;split
 ·omega
 ·split
  ·omega
  ·split <;> omega
theorem qQ {O U:List En} {e:En} {rep:Int} {V:List En} (h:nN O U e rep V):0≤rep∧rep≤9:=by
 by_cases hb:12<(gC U e).length
 ·have:=(h.1 hb).1;omega
 ·have:=(h.2 hb).1;omega
theorem zke {T U:List En} {p:Bs} {e:En} {rep:Int} {V:List En} (h:WrS T U p e rep V):0≤rep∧rep≤9:=by
 have hh:=wL T p;by_cases h0:wrS T p=0
 ·exact qQ (h.yes h0)
 ·rw[(h.no h0).1]
  unfold wrS;split
  ·split
   ·split <;> omega
   ·omega
  ·omega
theorem zfd {T U:List En} {p:Bs} {rep:Int} {V:List En} (h:MkS T U p rep V):0≤rep∧rep≤9:=by
 have hh:=wL T p;by_cases h0:mkS T p=0
 ·exact qQ (h.yes h0)
 ·rw[(h.no h0).1]
  unfold mkS;split
  ·split <;> omega
  ·omega
theorem zzd {ls:List (List En)} {T U:List En} {p:Bs} {rep:Int} {V:List En} (h:RmS ls T U p rep V):0≤rep∧rep≤9:=by
 by_cases h0:rmS T p=0
 ·by_cases hg:aL (aT (ls ++ [bF U p true])) p=none
  ·have:=(h.gone h0 hg).1;omega
  ·exact qQ (h.white h0 hg)
 ·rw[(h.no h0).1]
  unfold rmS;split
  ·omega
  ·split
   ·split <;> omega
   ·omega
theorem zk3:∀ ns:List Bs,0≤eO ns∧eO ns≤9:=by
 intro ns;unfold eO
 repeat' split
 all_goals omega
theorem zl3 (p:Bs):0≤aG p∧aG p≤9:=by
 unfold aG;split
 ·omega
 ·split
  ·exact zk3 _
  ·omega
theorem pX {l:List Sn} (h:aP l) {s:Sn} (hs:s∈l):cL (iL l s ++ [s.layer])=0:=by
 rw[←nP];refine fM.2 ⟨rO h hs,fun es he=>?_⟩
 unfold dF at he;rw[List.mem_reverse,List.mem_map]at he;obtain ⟨y,hy,rfl⟩:=he;exact dM.1 (h.own y (jP (fun s0 hs0=>by cases hs0;exact hs) y hy)).2.2
theorem wH {l:List Sn} (h:aP l) {s:Sn} (hs:s∈l) {p:Bs} {zs:List Int} {k q rep:Int} {V:List En} (hk:k=1∨k=2∨k=3) (hD:jF (iL l s) s.layer p zs k q rep V):0≤q∧q≤9∧0≤rep∧rep≤9:=by
 have hl:=pX h hs;have ha:gH (iL l s ++ [s.layer]) p=aG p:=by unfold gH;rw[if_pos hl]
 have hf:=zl3 p;rcases hk with rfl | rfl | rfl
 ·have hF:=hD.1 rfl
  have hw:0≤kQ (iL l s ++ [s.layer]) p zs∧kQ (iL l s ++ [s.layer]) p zs≤9:=by
   unfold kQ;rw[ha];split
   ·split <;> omega
   ·exact hf
  by_cases h0:kQ (iL l s ++ [s.layer]) p zs=0
  ·obtain ⟨h1,h2⟩:=hF.good h0
   have:=zke h2;omega
  ·obtain ⟨h1,h2,-⟩:=hF.bad h0
   omega
 ·have hF:=hD.2.1 rfl
  rw[ha]at hF;by_cases h0:aG p=0
  ·obtain ⟨h1,h2⟩:=hF.good h0
   have:=zfd h2;omega
  ·obtain ⟨h1,h2,-⟩:=hF.bad h0
   omega
 ·have hF:=hD.2.2 rfl
  rw[ha]at hF;by_cases h0:aG p=0
  ·obtain ⟨h1,h2⟩:=hF.good h0
   have:=zzd h2;omega
  ·obtain ⟨h1,h2,-⟩:=hF.bad h0
   omega
theorem zc9 {l:List Sn} (h:aP l) {s:Sn} (hs:s∈l) {p:Bs} {zs:List Int} {k q rep:Int} {V:List En} (hk:k=1∨k=2∨k=3) (hD:jF (iL l s) s.layer p zs k q rep V):IntKind.i64.wrap (q+rep)=q+rep:=by
 have:=wH h hs hk hD;simp[IntKind.wrap,IntKind.signed,IntKind.bits];omega
theorem yE (a:Option Addr) (c n:Nat) (l:List Sn) (nm p:Bs) (zs:List Int) (d:Option Addr) (dn dc:Nat) (k:Int) (w:World) (h:RdS w a l) (hn:n=l.length) (hR:aP l) (hs:bW l) (hk3:k=1∨k=2∨k=3) (hpl:p.length≤1048576) (hd:aZ .u8 w d zs) (hdn:dn=zs.length) (hu8:U8 zs) (hdc:zs.length≤dc) (hdl:zs.length≤1048576) :
  Calls Tryz.prog 150 #[.slice a n c,.string (str nm),.string (str p),.slice d dn dc,.int .i64 k] w fun r w'=>(atS l nm=none∧bG 0 4 l w r w')∨∃ t,atS l nm=some t∧((t.kind=2∧bG 0 10 l w r w')∨(t.kind≠2∧∃ q rep V,jF (iL l t) t.layer p zs k q rep V∧((q+rep≠0∧bG 0 (q+rep) l w r w')∨(q+rep=0∧bG 0 0 (dD l ⟨t.name,t.parent,t.kind,t.lease,V⟩) w r w')))):=by
 subst hn;have hl:=hR.len;have X0:=aA (dE.new w (.int .i64 0) (.int .i64 0) (.slice none 0 0) 29);have B0:=aA (aC w (.cells #[.int .i64 0,.int .i64 0,.slice none 0 0] 29));have HC:=aA (iH a c l.length l _ (h.below B0.out) rfl (by omega) hs)
 rw[hR.good]at HC;have HRd:=aA h;have HRI:=aA hR.rise;have HSM:=aA hs;have HW:=aA (fun (u:World) (j:Nat) (s:Sn) (hb:Below w.heap.size w u) (hq:l[j]?=some s)=>zz3 a c l.length l s j p zs d dn dc k u (h.below hb) rfl hR hs hq hk3 hpl (hd.below hb) hdn hu8 hdc hdl (fun q rep V hD=>zc9 hR (List.mem_of_getElem? hq) hk3 hD))
 have HI:=aA (fun u:World=>lN k 1 3 u (by omega) (by omega))
 clear h hs hR hd hdn;go_enter Tryz.func150,Tryz.ntmps150;go_wp2_with fail
 have hsz0:(w.alloc (.cells #[.int .i64 0,.int .i64 0,.slice none 0 0] 29)).heap.size=w.heap.size+1:=by simp
 generalize w.alloc (.cells #[.int .i64 0,.int .i64 0,.slice none 0 0] 29)=W0 at *;refine HC.out.mono ?_;rintro r w1 ⟨rfl,hb1⟩;have B1:=aA (aB B0.out hb1);have X1:=aA (X0.out.below hb1);have hs1:=hb1.size;clear hb1;go_wp2_with fail
 refine (HI.out _).mono ?_;rintro r w1b ⟨rfl,hw1b⟩;have hw1c:=hw1b.symm;subst hw1c;go_wp2_with fail
 refine (fT a c l.length l nm w1 (HRd.out.below B1.out) rfl (by omega)).mono ?_
 rintro r w2 ⟨rfl,hw2⟩;subst hw2;cases hp:plS l nm with
 | none =>
  have HN:=aA (fZ hp);clear hp;simp only[cD];go_wp2_with fail
  refine (cA a c l.length l 4 w2 (HRd.out.below B1.out) rfl (by omega) HSM.out).mono ?_
  rintro r w9 ⟨av,cv,rfl,hG,hb9⟩;have G9:=aA hG;have B9:=aA (aB B1.out hb9);obtain ⟨⟨t0,t1,t2⟩,t3,t4,t5⟩:=X1.out.below hb9;clear hG hb9;go_wp2_with fail
  exact bodyPost_ret (v:=.agg #[.int .i64 0,.int .i64 4,.slice av l.length cv]) (by simp[results,Tryz.results150,go_sem,t0,t1,t2]) rfl (.inl ⟨HN.out,bG.of (B:=w2.heap.size) (by omega) (Nat.le_refl _) rfl G9.out B9.out⟩)
 | some j =>
  obtain ⟨s,hq,hat⟩:=gW hp;have hjl:=(List.getElem?_eq_some_iff.1 hq).1;obtain ⟨b2,off2,e,x2,cc2,hbb,hb2,he,d0,d1,d2,d3,d4,hr2⟩:=(HRd.out.below B1.out).at hjl;subst hbb;have heq:e=s:=by rw[hq]at he;exact (Option.some.inj he).symm
  subst heq;have HAT:=aA hat;have HQ:=aA hq;have hj0:¬ (j:Int)<0:=by omega
  have hj1:(j:Int)<(l.length:Int):=by omega
  clear hp hq hat he hr2;simp only[cD];by_cases hk:e.kind=2
  ·have hkb:(e.kind==2)=true:=by simp[hk]
   have HK:=aA hk;clear hk;go_wp2_with fail
   refine (cA _ c l.length l 10 w2 (HRd.out.below B1.out) rfl (by omega) HSM.out).mono ?_
   rintro r w9 ⟨av,cv,rfl,hG,hb9⟩;have G9:=aA hG;have B9:=aA (aB B1.out hb9);obtain ⟨⟨t0,t1,t2⟩,t3,t4,t5⟩:=X1.out.below hb9;clear hG hb9;go_wp2_with fail
   exact bodyPost_ret (v:=.agg #[.int .i64 0,.int .i64 10,.slice av l.length cv]) (by simp[results,Tryz.results150,go_sem,t0,t1,t2]) rfl (.inr ⟨e,HAT.out,.inl ⟨HK.out,bG.of (B:=w2.heap.size) (by omega) (Nat.le_refl _) rfl G9.out B9.out⟩⟩)
  ·have hkb:(e.kind==2)=false:=by simp[hk]
   have HK:=aA hk;clear hk;go_wp2_with fail
   refine (HW.out w2 j e B1.out HQ.out).mono ?_;rintro r w3 ⟨q,rep,V,hD,hres⟩;have HDo:=aA hD;clear hD;rcases hres with ⟨hz,av,cv,rfl,hG,hb3⟩ | ⟨hz,av,cv,rfl,hG,hb3⟩
   ·have HZ:=aA hz
    have G9:=aA hG;have B9:=aA (aB B1.out hb3);obtain ⟨⟨t0,t1,t2⟩,t3,t4,t5⟩:=X1.out.below hb3;obtain ⟨x,hx⟩:∃ x,x=q+rep:=⟨_,rfl⟩;rw[←hx];have HX:=aA hx;clear hG hb3 hz hx;go_wp2_with fail
    exact bodyPost_ret (v:=.agg #[.int .i64 0,.int .i64 x,.slice av l.length cv]) (by simp[results,Tryz.results150,go_sem,t0,t1,t2]) rfl (.inr ⟨e,HAT.out,.inr ⟨HK.out,q,rep,V,HDo.out,.inl ⟨HZ.out,by rw[←HX.out];exact bG.of (B:=w2.heap.size) (by omega) (Nat.le_refl _) rfl G9.out B9.out⟩⟩⟩)
   ·have HZ:=aA hz
    obtain ⟨R,hR'⟩:∃ R,R=dD l ⟨e.name,e.parent,e.kind,e.lease,V⟩:=⟨_,rfl⟩;rw[←hR']at hG ⊢;have HRR:=aA hR';have G9:=aA hG;have B9:=aA (aB B1.out hb3);obtain ⟨⟨t0,t1,t2⟩,t3,t4,t5⟩:=X1.out.below hb3;clear hG hb3 hz hR';go_wp2_with fail
    exact bodyPost_ret (v:=.agg #[.int .i64 0,.int .i64 0,.slice av R.length cv]) (by simp[results,Tryz.results150,go_sem,t0,t1,t2]) rfl (.inr ⟨e,HAT.out,.inr ⟨HK.out,q,rep,V,HDo.out,.inr ⟨HZ.out,by rw[←HRR.out];exact bG.of (B:=w2.heap.size) (by omega) (Nat.le_refl _) rfl G9.out B9.out⟩⟩⟩)
end Go.Proofs.YtgaeikgoknoamaaGreat
namespace Go.Proofs.YtgaeikgoknoamaaGreat
open Go.RowKit Go.Maps
theorem zd9 {l:List Sn} (h:aP l) {s:Sn} (hs:s∈l) {p:Bs} {zs:List Int} {k q rep:Int} {V:List En} (hk:k=1∨k=2∨k=3) (hz:q+rep=0) (hD:jF (iL l s) s.layer p zs k q rep V):bD V:=by
 have hb:=wH h hs hk hD;have hq:q=0:=by omega
 have hl:=pX h hs;have hR:=(fM.1 hl).2;have ha:gH (iL l s ++ [s.layer]) p=aG p:=by unfold gH;rw[if_pos hl]
 rcases hk with rfl | rfl | rfl
 ·have hF:=hD.1 rfl
  by_cases h0:kQ (iL l s ++ [s.layer]) p zs=0
  ·obtain ⟨h1,h2⟩:=hF.good h0
   unfold kQ at h0;rw[ha]at h0;by_cases hp:aG p=0
   ·rw[if_pos hp]at h0
    exact ztg hR hp (by split at h0 <;> omega) h2
   ·rw[if_neg hp]at h0;exact absurd h0 hp
  ·exact absurd ((hF.bad h0).1.symm.trans hq) h0
 ·have hF:=hD.2.1 rfl
  rw[ha]at hF;by_cases h0:aG p=0
  ·exact ztf hR h0 (hF.good h0).2
  ·exact absurd ((hF.bad h0).1.symm.trans hq) h0
 ·have hF:=hD.2.2 rfl
  rw[ha]at hF;by_cases h0:aG p=0
  ·exact zlg hR h0 (hF.good h0).2
  ·exact absurd ((hF.bad h0).1.symm.trans hq) h0
theorem zf6 {l:List Sn} (h:aP l) {t:Sn} {nm:Bs} (ht:atS l nm=some t) {p:Bs} {zs:List Int} {k q rep:Int} {V:List En} (hk:k=1∨k=2∨k=3) (hz:q+rep=0) (hD:jF (iL l t) t.layer p zs k q rep V):aP (dD l ⟨t.name,t.parent,t.kind,t.lease,V⟩):=by
 obtain ⟨h1,h2⟩:=bU ht;have ho:=h.own t h1;have hV:=zd9 h h1 hk hz hD;exact sR h (s:=⟨t.name,t.parent,t.kind,t.lease,V⟩) (t:=t) ⟨ho.1,ho.2.1,dM.2 hV⟩ (by show atS l t.name=some t;rw[h2];exact ht) rfl (fun hk=>hk)
end Go.Proofs.YtgaeikgoknoamaaGreat
namespace Go.Proofs.YtgaeikgoknoamaaGreat
theorem zd7 {l:List Sn} (h:aP l) {t:Sn} {nm:Bs} (ht:atS l nm=some t) (b:Bool):aP (dD l (zja t b))∧atS (dD l (zja t b)) nm=some (zja t b):=by
 obtain ⟨h1,h2⟩:=bU ht;have ho:=h.own t h1;refine ⟨sR h (s:=zja t b) (t:=t) ⟨ho.1,ho.2.1,ho.2.2⟩ (by show atS l t.name=some t;rw[h2];exact ht) rfl (fun hk=>hk),?_⟩
 rw[lU h.rise,if_pos (by show nm=t.name;exact h2.symm)]
end Go.Proofs.YtgaeikgoknoamaaGreat
namespace Go.Proofs.YtgaeikgoknoamaaGreat
open Go.RowKit Go.Maps
attribute [local go_sem ↓] Go.wp_at_zero Go.wp_at_succ
theorem aP.tiny {l:List Sn} (h:aP l):bW l:=h.small (fun s hs=>by
 rcases h.stand s hs with h1 | ⟨p,h1,-,-⟩
 ·rw[h1];simp
 ·obtain ⟨a1,a2⟩:=bU h1
  have:=(h.own p a1).1;simp only[fA,Bool.and_eq_true,decide_eq_true_eq]at this;rw[←a2];omega) (fun s hs=>cS (dM.1 (h.own s hs).2.2))
theorem zwa:aP []:=kO.1 (by decide)
def vJ (w:World) (r:Ending) (w':World):Prop:=∃ rep l,bG 0 rep l w r w'∧aP l
theorem zvg (a:Option Addr) (c n:Nat) (l:List Sn) (nm pa:Bs) (w:World) (h:RdS w a l) (hP:Plc a c l) (hn:n=l.length) (hR:aP l) (hn1:nm.length≤1048576) (hn2:pa.length≤1048576) :
  Calls Tryz.prog 146 #[.slice a n c,.string (str nm),.string (str pa)] w (vJ w):=by
 refine (vA a c n l nm pa w h hP hn hR hR.tiny hn1 hn2).mono ?_;rintro r w' (⟨-,h1⟩ | ⟨h0,h1⟩)
 ·exact ⟨_,l,h1,hR⟩
 ·exact ⟨0,_,h1,yN hR (by rw[←zx0 hR];exact h0) (.inl rfl) (dM.2 zs1)⟩
theorem tN (a:Option Addr) (c n:Nat) (l:List Sn) (nm pa:Bs) (xa:Option Addr) (xc m:Nat) (es:List En) (hm:m=es.length) (w:World) (h:RdS w a l) (hP:Plc a c l) (hn:n=l.length) (hR:aP l) (hn1:nm.length≤1048576) (hn2:pa.length≤1048576) (hx:RdE w xa es) (hz:bD es) :
  Calls Tryz.prog 144 #[.slice a n c,.string (str nm),.string (str pa),.slice xa m xc] w (vJ w):=by
 refine (zi0 a c n l nm pa xa xc m es hm w h hP hn hR hR.tiny hn1 hn2 hx (by have:=hz.len;omega) (cS hz) (mZ.2 hz)).mono ?_
 rintro r w' (⟨-,h1⟩ | ⟨h0,h1⟩)
 ·exact ⟨_,l,h1,hR⟩
 ·exact ⟨0,_,h1,yN hR (by rw[←zx0 hR];exact h0) (.inr rfl) (dM.2 hz)⟩
theorem zti (a:Option Addr) (c n:Nat) (l:List Sn) (nm:Bs) (w:World) (h:RdS w a l) (hn:n=l.length) (hR:aP l) :
  Calls Tryz.prog 147 #[.slice a n c,.string (str nm)] w (vJ w):=by
 refine (wA a c n l nm w h hn hR hR.tiny).mono ?_;rintro r w' (⟨-,h1⟩ | ⟨t,ht,⟨-,h1⟩ | ⟨-,h1⟩⟩)
 ·exact ⟨_,l,h1,hR⟩
 ·exact ⟨_,l,h1,hR⟩
 ·obtain ⟨e1,e2⟩:=bU ht
  have ho:=hR.own t e1;exact ⟨0,_,h1,sR hR (s:=⟨t.name,t.parent,2,t.lease,t.layer⟩) (t:=t) ⟨ho.1,.inr rfl,ho.2.2⟩ (by show atS l t.name=some t;rw[e2];exact ht) rfl (fun _=>by show (2:Int)≠1;decide)⟩
theorem zvi (a:Option Addr) (c n:Nat) (l:List Sn) (nm:Bs) (b:Bool) (w:World) (h:RdS w a l) (hn:n=l.length) (hR:aP l) :
  Calls Tryz.prog 148 #[.slice a n c,.string (str nm),.bool b] w (vJ w):=by
 refine (yA a c n l nm b w h hn hR hR.tiny).mono ?_;rintro r w' (⟨-,h1⟩ | ⟨t,ht,h1⟩)
 ·exact ⟨_,l,h1,hR⟩
 ·exact ⟨0,_,h1,(zd7 hR ht b).1⟩
theorem zbj (a:Option Addr) (c n:Nat) (l:List Sn) (nm:Bs) (w:World) (h:RdS w a l) (hP:Plc a c l) (hn:n=l.length) (hR:aP l) :
  Calls Tryz.prog 149 #[.slice a n c,.string (str nm)] w (vJ w):=by
 refine (wC a c n l nm w h hP hn hR hR.tiny).mono ?_;rintro r w' (⟨-,h1⟩ | ⟨t,ht,⟨-,h1⟩ | ⟨h0,h1⟩⟩)
 ·exact ⟨_,l,h1,hR⟩
 ·exact ⟨_,l,h1,hR⟩
 ·refine ⟨0,_,h1,zvd hR (fun x hx e=>?_)⟩
  have:(l.any fun s=>s.parent==t.name)=true:=List.any_eq_true.2 ⟨x,hx,by rw[e,(bU ht).2];simp⟩
  unfold uT at h0;rw[this,Bool.or_true]at h0;exact absurd h0 (by decide)
theorem zdj (a:Option Addr) (c n:Nat) (l:List Sn) (nm p:Bs) (zs:List Int) (d:Option Addr) (dn dc:Nat) (k:Int) (w:World) (h:RdS w a l) (hn:n=l.length) (hR:aP l) (hk3:k=1∨k=2∨k=3) (hpl:p.length≤1048576) (hd:aZ .u8 w d zs) (hdn:dn=zs.length) (hu8:U8 zs) (hdc:zs.length≤dc) (hdl:zs.length≤1048576) :
  Calls Tryz.prog 150 #[.slice a n c,.string (str nm),.string (str p),.slice d dn dc,.int .i64 k] w (vJ w):=by
 refine (yE a c n l nm p zs d dn dc k w h hn hR hR.tiny hk3 hpl hd hdn hu8 hdc hdl).mono ?_;rintro r w' (⟨-,h1⟩ | ⟨t,ht,⟨-,h1⟩ | ⟨-,q,rep,V,hD,⟨-,h1⟩ | ⟨hz,h1⟩⟩⟩)
 ·exact ⟨_,l,h1,hR⟩
 ·exact ⟨_,l,h1,hR⟩
 ·exact ⟨_,l,h1,hR⟩
 ·exact ⟨0,_,h1,zf6 hR ht hk3 hz hD⟩
theorem ze0 (p:Nat) (zs:List Int) (T:Int) (w:World) (h:dH w p zs T) (hu:U8 zs) (hT:T≤1000000) (hl:zs.length≤2097152) :
  Calls Tryz.prog 75 #[.pointer (some ⟨p,0,none⟩)] w fun e w'=>∃ x:Bs,e=.returned (.string (str x))∧x.length≤2∧dH w' p zs (T+1)∧aE (fun b=>b=p) w w':=by
 have hp:=h.lt;have T0:=aA (iP.new (Q:=fun x=>x.length≤2) (w:=w) (t:=9) (vs:=[[97],[98],[99],[100],[97,97]]) (by decide))
 have HS:=aA (h.below (aC w (.cells ([[97],[98],[99],[100],[97,97]].map vS).toArray 9)));have HU:=aA hu;clear h hu;go_enter Tryz.func75,Tryz.ntmps75;go_wp2_with fail
 refine (eZ p zs T 5 _ HS.out HU.out hT (by decide) (by decide) hl).mono ?_
 rintro e w1 ⟨i,rfl,r1,s1,k1⟩;have T1:=aA (T0.out.kept k1 (by omega))
 have S1:=aA s1;have K1:=aA (((aE.refl (fun b=>b=p) w).alloc (.cells ([[97],[98],[99],[100],[97,97]].map vS).toArray 9)).trans k1)
 clear s1 k1 T0 HS;obtain ⟨x,hx,hxl⟩:=T1.out.2 i (by simp;omega)
 have hb:=T1.out.1;have HX:=aA hxl;clear hxl;go_wp2_with fail
 go_ret
 exact ⟨x,rfl,HX.out,S1.out,K1.out⟩
end Go.Proofs.YtgaeikgoknoamaaGreat
