/-
  Texts put together: SnqE SnqF.
-/
import Derived.Test.YtgaeikgoknoamaaGreatKCollec13
set_option linter.unusedVariables false
set_option maxHeartbeats 3200000
set_option maxRecDepth 100000
namespace Go.Proofs.YtgaeikgoknoamaaGreat
open Go.RowKit Go.Maps
attribute [local go_sem ↓] Go.wp_at_zero Go.wp_at_succ
def bG (q rep:Int) (l:List Sn) (w:World) (r:Ending) (w':World):Prop :=
 ∃ av cv,r=.returned (.agg #[.int .i64 q,.int .i64 rep,.slice av l.length cv])∧GS w.heap.size w' (.slice av l.length cv) l∧Below w.heap.size w w'
theorem bG.of {q rep:Int} {l:List Sn} {w w3:World} {B b n:Nat} {av:Option Addr} {cv:Nat} {u0 u1 u2:Value} (hB:b<B) (hw:w.heap.size≤b) (hn:n=l.length) (hG:GS B w3 (.slice av n cv) l) (hb:Below w.heap.size w w3) :
  bG q rep l w (.returned (.agg #[.int .i64 q,.int .i64 rep,.slice av n cv])) (((w3.setCell ⟨b,0,none⟩ u0).setCell ⟨b,1,none⟩ u1).setCell ⟨b,2,none⟩ u2):=by
 subst hn;exact ⟨av,cv,rfl,(hG.kept (aE.three' w3 b u0 u1 u2) (fun x hx e=>by omega)).mono (by omega),((hb.setCell (p:=⟨b,0,none⟩) hw _).setCell (p:=⟨b,1,none⟩) hw _).setCell (p:=⟨b,2,none⟩) hw _⟩
theorem aP.good {l:List Sn} (h:aP l):snM l=0:=by
 rw[zl5 (fun s hs=>by rw[mZ.2 (dM.1 (h.own s hs).2.2),(h.own s hs).2.2])]
 exact kO.2 h
theorem GS.at {B:Nat} {w:World} {a:Option Addr} {n c:Nat} {l:List Sn} {k:Nat} {s:Sn} (h:GS B w (.slice a n c) l) (hs:l[k]?=some s) :
  ∃ g,a=some ⟨g,0,none⟩∧B≤g∧g<w.heap.size∧(∀ q,w.frozen? ⟨g,q,none⟩=false)∧∃ r:Rs,r.s=s∧∀ q,q<5→w.cell? ⟨g,k * 5+q,none⟩=(bS r)[q]?:=by
 obtain ⟨rs,h1,h2,h3⟩:=h;have hk:k<l.length:=(List.getElem?_eq_some_iff.1 hs).1;have hl:rs.length=l.length:=by rw[←h1,List.length_map]
 rcases h2.2 with ⟨_,h0⟩ | ⟨g,cap,cur,h',hb',hh,-⟩
 ·omega
 ·simp only[Value.slice.injEq]at h'
  obtain ⟨rfl,rfl,rfl⟩:=h';obtain ⟨r,hr⟩:∃ r,rs[k]?=some r:=⟨_,List.getElem?_eq_getElem (by omega)⟩
  refine ⟨g,rfl,hb',(h2.lt g rfl).2,fun q=>h2.frozenAt q,r,?_,fun q hq=>(h2.cellAt (k * 5+q) (by omega)).trans (lQ rs k q r hr hq)⟩
  have:(rs.map Rs.s)[k]?=some r.s:=by rw[List.getElem?_map,hr];rfl
  rw[h1,hs]at this;exact (Option.some.inj this).symm
theorem uV:∀ (rs:List Rs) (k q:Nat) (r r':Rs) (u:Value),rs[k]?=some r→q<5→(bS r).set q u=bS r'→(aS rs).set (k * 5+q) u=aS (rs.set k r')
 | [],k,q,r,r',u,h,_,_=>by simp at h
 | y :: rs,0,q,r,r',u,h,hq,he=>by
  simp only[List.getElem?_cons_zero,Option.some.injEq]at h;subst h;simp only[aS,List.flatMap_cons,Nat.zero_mul,Nat.zero_add,List.set_cons_zero];rw[List.set_append_left _ _ (by simp[bS];omega),he]
 | y :: rs,k+1,q,r,r',u,h,hq,he=>by
  have:=uV rs k q r r' u (by simpa using h) hq he
  have e:(k+1) * 5+q=(bS y).length+(k * 5+q):=by simp[bS];omega
  simp only[aS,List.flatMap_cons,List.set_cons_succ]at this ⊢;rw[e,List.set_append_right _ _ (by omega),Nat.add_sub_cancel_left,this]
theorem GS.put {B:Nat} {w:World} {g n c k q:Nat} {l:List Sn} {s s':Sn} {u:Value} (h:GS B w (.slice (some ⟨g,0,none⟩) n c) l) (hs:l[k]?=some s) (hq:q<5) (hu:∀ a c,(bS ⟨s,a,c⟩).set q u=bS ⟨s',a,c⟩) (hy:s'.layer=s.layer):GS B (w.setCell ⟨g,k * 5+q,none⟩ u) (.slice (some ⟨g,0,none⟩) n c) (l.set k s'):=by
 obtain ⟨rs,h1,h2,h3⟩:=h;have hk:k<l.length:=(List.getElem?_eq_some_iff.1 hs).1;have hl:rs.length=l.length:=by rw[←h1,List.length_map]
 obtain ⟨r,hr⟩:∃ r,rs[k]?=some r:=⟨_,List.getElem?_eq_getElem (by omega)⟩
 have hrs:r.s=s:=by
  have:(rs.map Rs.s)[k]?=some r.s:=by rw[List.getElem?_map,hr];rfl
  rw[h1,hs]at this;exact (Option.some.inj this).symm
 obtain ⟨m,c',e⟩:=aR h2;simp only[Value.slice.injEq]at e;obtain ⟨-,rfl,-⟩:=e;have s1:=(h2.stored (k * 5+q) u).1;rw[uV rs k q r ⟨s',r.a,r.c⟩ u hr hq (by have:=hu r.a r.c;rw[←hrs]at this;exact this)]at s1
 have hkp:aE (fun b=>(Value.slice (some ⟨g,0,none⟩) l.length c).ownBlock=some b) w (w.setCell ⟨g,k * 5+q,none⟩ u):=aE.setCell (S:=fun b=>(Value.slice (some ⟨g,0,none⟩) l.length c).ownBlock=some b) (p:=⟨g,k * 5+q,none⟩) (aE.refl _ _) (fun _=>rfl) _
 refine ⟨rs.set k ⟨s',r.a,r.c⟩,by rw[List.map_set,h1],by rw[List.length_set];exact s1,fun r0 hr0=>?_⟩
 rcases List.mem_or_eq_of_mem_set hr0 with hr1 | rfl
 ·exact (h3 r0 hr1).apart h2 (by decide) (by decide) hkp
 ·have h9:=h3 r (List.mem_of_getElem? hr)
  rw[hrs]at h9;show GW B _ (.slice r.a s'.layer.length r.c) s'.layer
  rw[hy];exact h9.apart h2 (by decide) (by decide) hkp
theorem jD {l:List Sn} (h:eD l) {k:Nat} {s s':Sn} (hs:l[k]?=some s) (hn:s'.name=s.name):dD l s'=l.set k s':=by
 have hk:k<l.length:=(List.getElem?_eq_some_iff.1 hs).1;have hdec:l=l.take k++s :: l.drop (k+1):=by
  rw[←dP hs,List.take_append_drop]
 have hset:l.set k s'=l.take k++s' :: l.drop (k+1):=List.set_eq_take_append_cons_drop.trans (by rw[if_pos hk])
 have hrl:∀ x∈l.take k,Op.bytesLess x.name s.name=true:=fun x hx=>by
  have h9:=h;rw[hdec]at h9;exact (List.pairwise_append.1 h9).2.2 x hx s (by simp)
 have hrr:∀ x∈l.drop (k+1),Op.bytesLess s.name x.name=true:=fun x hx=>by
  have h9:=h;rw[hdec]at h9;exact (List.pairwise_cons.1 (List.pairwise_append.1 h9).2.1).1 x hx
 unfold dD;rw[hset,hn];have e1:l.filter (fun x=>Op.bytesLess x.name s.name)=l.take k:=by
  conv=>lhs;rw[hdec]
  rw[List.filter_append,List.filter_cons];have a1:(l.take k).filter (fun x=>Op.bytesLess x.name s.name)=l.take k:=List.filter_eq_self.2 hrl
  have a2:(l.drop (k+1)).filter (fun x=>Op.bytesLess x.name s.name)=[]:=List.filter_eq_nil_iff.2 fun x hx=>by rw[iE (hrr x hx)];decide
  rw[a1,a2,fR];simp
 have e2:l.filter (fun x=>Op.bytesLess s.name x.name)=l.drop (k+1):=by
  conv=>lhs;rw[hdec]
  rw[List.filter_append,List.filter_cons];have a1:(l.take k).filter (fun x=>Op.bytesLess s.name x.name)=[]:=List.filter_eq_nil_iff.2 fun x hx=>by rw[iE (hrl x hx)];decide
  have a2:(l.drop (k+1)).filter (fun x=>Op.bytesLess s.name x.name)=l.drop (k+1):=List.filter_eq_self.2 hrr
  rw[a1,a2,fR];simp
 rw[e1,e2]
theorem cA (a:Option Addr) (c n:Nat) (l:List Sn) (q:Int) (w:World) (h:RdS w a l) (hn:n=l.length) (hl:l.length≤1048576) (hs:bW l) :
  Calls Tryz.prog 193 #[.slice a n c,.int .i64 q] w (bG 0 q l w):=by
 subst hn;have X0:=aA (dE.new w (.int .i64 0) (.int .i64 0) (.slice none 0 0) 29);have B0:=aA (aC w (.cells #[.int .i64 0,.int .i64 0,.slice none 0 0] 29));have HC:=aA (dI a c l.length l _ (h.below B0.out) rfl hl hs);clear h hs;go_enter Tryz.func193,Tryz.ntmps193;go_wp2_with fail
 refine HC.out.mono ?_;rintro r w1 ⟨av,cv,rfl,hG,hb1⟩;have G1:=aA hG;have B1:=aA (aB B0.out hb1);have hlt:w.heap.size<(w.alloc (.cells #[.int .i64 0,.int .i64 0,.slice none 0 0] 29)).heap.size:=X0.out.lt;obtain ⟨⟨t0,t1,t2⟩,t3,t4,t5⟩:=X0.out.below hb1;clear hG hb1;go_wp2_with fail
 exact bodyPost_ret (v:=.agg #[.int .i64 0,.int .i64 q,.slice av l.length cv]) (by simp[results,Tryz.results193,go_sem,t0,t1,t2]) rfl (bG.of hlt (Nat.le_refl _) rfl G1.out B1.out)
theorem wA (a:Option Addr) (c n:Nat) (l:List Sn) (nm:Bs) (w:World) (h:RdS w a l) (hn:n=l.length) (hR:aP l) (hs:bW l) :
  Calls Tryz.prog 147 #[.slice a n c,.string (str nm)] w fun r w'=>(atS l nm=none∧bG 0 4 l w r w')∨∃ t,atS l nm=some t∧((t.kind=2∧bG 0 10 l w r w')∨(t.kind≠2∧bG 0 0 (dD l ⟨t.name,t.parent,2,t.lease,t.layer⟩) w r w')):=by
 subst hn;have hl:=hR.len;have X0:=aA (dE.new w (.int .i64 0) (.int .i64 0) (.slice none 0 0) 29);have B0:=aA (aC w (.cells #[.int .i64 0,.int .i64 0,.slice none 0 0] 29));have HC:=aA (iH a c l.length l _ (h.below B0.out) rfl (by omega) hs)
 rw[hR.good]at HC;have HRd:=aA h;have HRI:=aA hR.rise;have HSM:=aA hs;clear h hs hR;go_enter Tryz.func147,Tryz.ntmps147;go_wp2_with fail
 have hsz0:(w.alloc (.cells #[.int .i64 0,.int .i64 0,.slice none 0 0] 29)).heap.size=w.heap.size+1:=by simp
 generalize w.alloc (.cells #[.int .i64 0,.int .i64 0,.slice none 0 0] 29)=W0 at *;refine HC.out.mono ?_;rintro r w1 ⟨rfl,hb1⟩;have B1:=aA (aB B0.out hb1);have X1:=aA (X0.out.below hb1);have hs1:=hb1.size;clear hb1;go_wp2_with fail
 refine (fT a c l.length l nm w1 (HRd.out.below B1.out) rfl (by omega)).mono ?_
 rintro r w2 ⟨rfl,hw2⟩;subst hw2;cases hp:plS l nm with
 | none =>
  have HN:=aA (fZ hp);clear hp;simp only[cD];go_wp2_with fail
  refine (cA a c l.length l 4 w2 (HRd.out.below B1.out) rfl (by omega) HSM.out).mono ?_
  rintro r w9 ⟨av,cv,rfl,hG,hb9⟩;have G9:=aA hG;have B9:=aA (aB B1.out hb9);obtain ⟨⟨t0,t1,t2⟩,t3,t4,t5⟩:=X1.out.below hb9;clear hG hb9;go_wp2_with fail
  exact bodyPost_ret (v:=.agg #[.int .i64 0,.int .i64 4,.slice av l.length cv]) (by simp[results,Tryz.results147,go_sem,t0,t1,t2]) rfl (.inl ⟨HN.out,bG.of (B:=w2.heap.size) (by omega) (Nat.le_refl _) rfl G9.out B9.out⟩)
 | some j =>
  obtain ⟨s,hq,hat⟩:=gW hp;have hjl:=(List.getElem?_eq_some_iff.1 hq).1;obtain ⟨b2,off2,e,x2,cc2,hbb,hb2,he,d0,d1,d2,d3,d4,hr2⟩:=(HRd.out.below B1.out).at hjl;subst hbb;have heq:e=s:=by rw[hq]at he;exact (Option.some.inj he).symm
  subst heq;have HAT:=aA hat;have HQ:=aA hq;have hj0:¬ (j:Int)<0:=by omega
  have hj1:(j:Int)<(l.length:Int):=by omega
  clear hp hq hat he hr2;simp only[cD];by_cases hk:e.kind=2
  ·have hkb:(e.kind==2)=true:=by simp[hk]
   have HK:=aA hk;clear hk;go_wp2_with fail
   refine (cA _ c l.length l 10 w2 (HRd.out.below B1.out) rfl (by omega) HSM.out).mono ?_
   rintro r w9 ⟨av,cv,rfl,hG,hb9⟩;have G9:=aA hG;have B9:=aA (aB B1.out hb9);obtain ⟨⟨t0,t1,t2⟩,t3,t4,t5⟩:=X1.out.below hb9;clear hG hb9;go_wp2_with fail
   exact bodyPost_ret (v:=.agg #[.int .i64 0,.int .i64 10,.slice av l.length cv]) (by simp[results,Tryz.results147,go_sem,t0,t1,t2]) rfl (.inr ⟨e,HAT.out,.inl ⟨HK.out,bG.of (B:=w2.heap.size) (by omega) (Nat.le_refl _) rfl G9.out B9.out⟩⟩)
  ·have hkb:(e.kind==2)=false:=by simp[hk]
   have HK:=aA hk;clear hk;go_wp2_with fail
   refine (dI _ c l.length l w2 (HRd.out.below B1.out) rfl (by omega) HSM.out).mono ?_
   rintro r w3 ⟨av,cv,rfl,hG,hb3⟩;have G3:=aA hG;have B3:=aA (aB B1.out hb3);have X3:=aA (X1.out.below hb3);have hs3:=hb3.size;obtain ⟨g,hgv,hgB,hgl,hfz,r,hrs,hcl⟩:=hG.at HQ.out;subst hgv;have hc2:=hcl 2 (by decide)
   have hz2:w3.cell? ⟨g,j * 5+2,none⟩=some (.int .i64 r.s.kind):=hc2;have hf2:=hfz (j * 5+2);clear hG hb3 hcl hc2 hfz d0 d1 d2 d3 d4;have GP:=aA (G3.out.put (q:=2) (s':=⟨e.name,e.parent,2,e.lease,e.layer⟩) (u:=.int .i64 2) HQ.out (by decide) (fun _ _=>rfl) rfl)
   rw[←jD HRI.out HQ.out (s':=⟨e.name,e.parent,2,e.lease,e.layer⟩) rfl]at GP;have HLN:=aA (show (dD l ⟨e.name,e.parent,2,e.lease,e.layer⟩).length=l.length by rw[jD HRI.out HQ.out (s':=⟨e.name,e.parent,2,e.lease,e.layer⟩) rfl,List.length_set])
   have KS:=aA (aE.setCell (S:=fun q=>q=g) (p:=⟨g,j * 5+2,none⟩) (aE.refl _ w3) (fun _=>rfl) (.int .i64 2))
   have BP:=aA (B3.out.trans (KS.out.below B3.out.size (fun q hq e=>by omega)))
   obtain ⟨⟨t0,t1,t2⟩,t3,t4,t5⟩:=X3.out.kept KS.out (by omega)
   have hsP:=KS.out.size;go_wp2_with fail
   exact bodyPost_ret (v:=.agg #[.int .i64 0,.int .i64 0,.slice (some ⟨g,0,none⟩) l.length cv]) (by simp[results,Tryz.results147,go_sem,t0,t1,t2]) rfl (.inr ⟨e,HAT.out,.inr ⟨HK.out,bG.of (B:=w2.heap.size) (by omega) (Nat.le_refl _) HLN.out.symm GP.out BP.out⟩⟩)
theorem yA (a:Option Addr) (c n:Nat) (l:List Sn) (nm:Bs) (b:Bool) (w:World) (h:RdS w a l) (hn:n=l.length) (hR:aP l) (hs:bW l) :
  Calls Tryz.prog 148 #[.slice a n c,.string (str nm),.bool b] w fun r w'=>(atS l nm=none∧bG 0 4 l w r w')∨∃ t,atS l nm=some t∧bG 0 0 (dD l ⟨t.name,t.parent,t.kind,b,t.layer⟩) w r w':=by
 subst hn;have hl:=hR.len;have X0:=aA (dE.new w (.int .i64 0) (.int .i64 0) (.slice none 0 0) 29);have B0:=aA (aC w (.cells #[.int .i64 0,.int .i64 0,.slice none 0 0] 29));have HC:=aA (iH a c l.length l _ (h.below B0.out) rfl (by omega) hs)
 rw[hR.good]at HC;have HRd:=aA h;have HRI:=aA hR.rise;have HSM:=aA hs;clear h hs hR;go_enter Tryz.func148,Tryz.ntmps148;go_wp2_with fail
 have hsz0:(w.alloc (.cells #[.int .i64 0,.int .i64 0,.slice none 0 0] 29)).heap.size=w.heap.size+1:=by simp
 generalize w.alloc (.cells #[.int .i64 0,.int .i64 0,.slice none 0 0] 29)=W0 at *;refine HC.out.mono ?_;rintro r w1 ⟨rfl,hb1⟩;have B1:=aA (aB B0.out hb1);have X1:=aA (X0.out.below hb1);have hs1:=hb1.size;clear hb1;go_wp2_with fail
 refine (fT a c l.length l nm w1 (HRd.out.below B1.out) rfl (by omega)).mono ?_
 rintro r w2 ⟨rfl,hw2⟩;subst hw2;cases hp:plS l nm with
 | none =>
  have HN:=aA (fZ hp);clear hp;simp only[cD];go_wp2_with fail
  refine (cA a c l.length l 4 w2 (HRd.out.below B1.out) rfl (by omega) HSM.out).mono ?_
  rintro r w9 ⟨av,cv,rfl,hG,hb9⟩;have G9:=aA hG;have B9:=aA (aB B1.out hb9);obtain ⟨⟨t0,t1,t2⟩,t3,t4,t5⟩:=X1.out.below hb9;clear hG hb9;go_wp2_with fail
  exact bodyPost_ret (v:=.agg #[.int .i64 0,.int .i64 4,.slice av l.length cv]) (by simp[results,Tryz.results148,go_sem,t0,t1,t2]) rfl (.inl ⟨HN.out,bG.of (B:=w2.heap.size) (by omega) (Nat.le_refl _) rfl G9.out B9.out⟩)
 | some j =>
  obtain ⟨s,hq,hat⟩:=gW hp;have hjl:=(List.getElem?_eq_some_iff.1 hq).1;obtain ⟨b2,off2,e,x2,cc2,hbb,hb2,he,d0,d1,d2,d3,d4,hr2⟩:=(HRd.out.below B1.out).at hjl;subst hbb;have heq:e=s:=by rw[hq]at he;exact (Option.some.inj he).symm
  subst heq;have HAT:=aA hat;have HQ:=aA hq;have hj0:¬ (j:Int)<0:=by omega
  have hj1:(j:Int)<(l.length:Int):=by omega
  clear hp hq hat he hr2;simp only[cD];go_wp2_with fail
  refine (dI _ c l.length l w2 (HRd.out.below B1.out) rfl (by omega) HSM.out).mono ?_
  rintro r w3 ⟨av,cv,rfl,hG,hb3⟩;have G3:=aA hG;have B3:=aA (aB B1.out hb3);have X3:=aA (X1.out.below hb3);have hs3:=hb3.size;obtain ⟨g,hgv,hgB,hgl,hfz,r,hrs,hcl⟩:=hG.at HQ.out;subst hgv;have hc2:=hcl 3 (by decide)
  have hz2:w3.cell? ⟨g,j * 5+3,none⟩=some (.bool r.s.lease):=hc2;have hf2:=hfz (j * 5+3);clear hG hb3 hcl hc2 hfz d0 d1 d2 d3 d4;have GP:=aA (G3.out.put (q:=3) (s':=⟨e.name,e.parent,e.kind,b,e.layer⟩) (u:=.bool b) HQ.out (by decide) (fun _ _=>rfl) rfl)
  rw[←jD HRI.out HQ.out (s':=⟨e.name,e.parent,e.kind,b,e.layer⟩) rfl]at GP;have HLN:=aA (show (dD l ⟨e.name,e.parent,e.kind,b,e.layer⟩).length=l.length by rw[jD HRI.out HQ.out (s':=⟨e.name,e.parent,e.kind,b,e.layer⟩) rfl,List.length_set])
  have KS:=aA (aE.setCell (S:=fun q=>q=g) (p:=⟨g,j * 5+3,none⟩) (aE.refl _ w3) (fun _=>rfl) (.bool b))
  have BP:=aA (B3.out.trans (KS.out.below B3.out.size (fun q hq e=>by omega)))
  obtain ⟨⟨t0,t1,t2⟩,t3,t4,t5⟩:=X3.out.kept KS.out (by omega)
  have hsP:=KS.out.size;go_wp2_with fail
  exact bodyPost_ret (v:=.agg #[.int .i64 0,.int .i64 0,.slice (some ⟨g,0,none⟩) l.length cv]) (by simp[results,Tryz.results148,go_sem,t0,t1,t2]) rfl (.inr ⟨e,HAT.out,bG.of (B:=w2.heap.size) (by omega) (Nat.le_refl _) HLN.out.symm GP.out BP.out⟩)
end Go.Proofs.YtgaeikgoknoamaaGreat
