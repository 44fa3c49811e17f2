/-
  Texts put together: LazE KepA LazG KepB Flat Chunks ChunksRd Fault.
-/
import Derived.Test.YtgaeikgoknoamaaGreatKKeeps23
import Derived.Deep.RegionHeld3
import Derived.Deep.CutRange
import Derived.Test.YtgaeikgoknoamaaGreatKKeeps14
import Derived.Test.YtgaeikgoknoamaaGreatKKeeps1
import Derived.Test.YtgaeikgoknoamaaGreatKKeeps4
import Derived.Test.YtgaeikgoknoamaaGreatKKeeps6
set_option linter.unusedVariables false
set_option maxHeartbeats 6400000
set_option maxRecDepth 100000
namespace Go.Proofs.YtgaeikgoknoamaaGreat
open Go.RowKit Go.Maps
attribute [local go_sem ↓] Go.wp_at_zero Go.wp_at_succ
def zll (w:World) (p:Nat) (zs:List Int) (T:Int) (es:List En) (v:Value) (w':World):Prop :=
 ShE es∧es.length≤13∧cG es∧GE w.heap.size w'.heap.size w' v es∧dL w' p zs T∧aD (fun b=>b=p) w w'
theorem zpd (p:Nat) (zs:List Int) (T:Int) (w:World) (h:dL w p zs T) (hu:U8 zs) (hT:T≤100000) (hl:zs.length≤2097152) :
  Calls Tryz.prog 98 #[.pointer (some ⟨p,0,none⟩)] w fun r w'=>∃ (es:List En) (av:Option Addr) (cv:Nat),r=.returned (.slice av es.length cv)∧zll w p zs (T+1100) es (.slice av es.length cv) w':=by
 obtain ⟨i1,ki,kz0,kz1,kz2⟩:=info_parts Tryz.infoEn;have hp:=h.lt;have HS:=aA h;have HU:=aA hu;clear h hu;go_enter Tryz.func98,Tryz.ntmps98;go_wp2_with fail
 refine (lT p zs T _ HS.out HU.out (by omega) hl).mono ?_
 rintro r w1 ⟨es,lv,lc,rfl,hR,hG1,s1,k1⟩;have HRi:=aA hR;have G1:=aA hG1;have S1:=aA s1;have K1:=aA k1;clear hR hG1 s1 k1 HS;go_wp2_with fail
 refine (fK p zs _ 16 _ S1.out HU.out (by omega) (by decide) (by decide) hl).mono ?_
 rintro r w2 ⟨i,rfl,hi,s2,k2⟩;have S2:=aA s2;have K2:=aA (K1.out.trans k2);have G2:=aA (G1.out.keptP k2 hp);have hl12:=HRi.out.len;have hsz2:=K2.out.size;clear s2 k2 G1 S1 K1;by_cases h0:i=0
 ·subst h0
  go_wp2_with fail
  refine (xZ p zs _ _ S2.out HU.out (by omega) hl).mono ?_
  rintro r w3 ⟨e,a,c,rfl,⟨hel,hec⟩,ho3,s3,k3⟩;have G3:=aA (G2.out.kept k3 (fun b h1 _ e=>by omega))
  have S3:=aA s3;have K3:=aA (K2.out.trans k3);have O3:=aA ho3;have hs3:=k3.size;clear ho3 s3 k3;obtain ⟨rs,g1,g2,g3,g4,g5,g6⟩:=G3.out;have Q1:=aA g1;have Q2:=aA g2;have Q3:=aA g3;have Q4:=aA g4;have Q5:=aA g5;clear g1 g2 g3 g4 g5 g6;have hm1:es.length+1≤maxLen:=by unfold maxLen;omega
  have hm1':(es.length+1) * 56≤140737488355328:=by omega
  go_wp2_with (at_builtin;refine dQ rfl (.tmp 10) (.tmp 13) 40 rfl w.heap.size 87 i1 (.agg #[.string ⟨#[]⟩,.int .i64 0,.int .i64 0,.slice none 0 0]) 4 56 Tryz.underlying40 ki kz0 kz1 kz2 rfl (by decide) _ _ _ rfl Q2.out _ rfl rfl rfl (by intro u hu;simp at hu;rcases hu with rfl | rfl | rfl | rfl <;> rfl) hm1 hm1' (by omega) ?_;intro av4 cv4 w4 hown4 hk4;have O4:=aA hown4;have K4:=aA hk4;clear hown4 hk4)
  go_ret
  refine ⟨es ++ [e],av4,cv4,by rw[List.length_append];rfl,(.inr (.inl ⟨es,e,HRi.out,rfl⟩)),by rw[List.length_append];simp;omega,fun y hy=>?_,?_,?_,?_⟩
  ·rcases List.mem_append.1 hy with hy | hy
   ·exact cN HRi.out y hy
   ·simp only[List.mem_singleton]at hy;subst hy;omega
  ·rw[List.length_append]
   exact GE.push2 Q1.out Q2.out Q3.out Q4.out Q5.out (by omega) (by omega) O3.out O4.out K4.out
  ·exact (S3.out.kept K4.out (fun b hb e=>by have:=(Q2.out.lt b e).1;omega)).mono (by omega)
  ·exact K3.out.trans_own K4.out (fun b hb e=>by have:=(Q2.out.lt b e).1;omega)
 ·by_cases h1:i=1
  ·subst h1
   by_cases hpos:0<es.length
   ·have hpos':(0:Int)<(es.length:Int):=by omega
    obtain ⟨g,rfl,-⟩:=G2.out.addr rfl (.inl hpos);go_wp2_with fail
    refine (xZ p zs _ _ S2.out HU.out (by omega) hl).mono ?_
    rintro r w3 ⟨e,a,c,rfl,⟨hel,hec⟩,ho3,s3,k3⟩;have G3:=aA (G2.out.kept k3 (fun b h1 _ e=>by omega))
    have S3:=aA s3;have K3:=aA (K2.out.trans k3);have O3:=aA ho3;have hs3:=k3.size;clear ho3 s3 k3;have he0:es[0]?=some es[0]:=List.getElem?_eq_getElem hpos;obtain ⟨G,x',y',hGe,hg1,hg2,m0,m1,m2,m3,mf,-⟩:=G3.out.open he0;simp only[Option.some.injEq,Addr.mk.injEq,and_true]at hGe;subst hGe;have mf0:=mf 0;have mf1:=mf 1;have mf2:=mf 2;have mf3:=mf 3;simp only[Nat.zero_mul,Nat.zero_add]at m0 m1 m2 m3;generalize es[0]=z0 at *;clear mf he0;have HST:=aA (GE.store2 (j:=0) G3.out rfl hpos (by omega) (by omega) O3.out)
    simp only[Nat.zero_mul,Nat.zero_add]at HST;go_wp2_with fail
    go_ret
    have hk:aD (fun b=>b=g) w3 ((((w3.setCell ⟨g,0,none⟩ (.string (str e.path))).setCell ⟨g,1,none⟩ (.int .i64 e.kind)).setCell ⟨g,2,none⟩ (.int .i64 e.size)).setCell ⟨g,3,none⟩ (.slice a e.chunks.length c)) :=
     aD.setCell (S:=fun b=>b=g) (p:=⟨g,3,none⟩) (aD.setCell (S:=fun b=>b=g) (p:=⟨g,2,none⟩) (aD.two _ _ _ _ _ _) (fun _=>rfl) _) (fun _=>rfl) _
    have hgood:ShE (es.set 0 e):=by
     cases hes:es with
     | nil=>rw[hes]at hpos;simp at hpos
     | cons r0 tl =>
      have:=HRi.out;rw[hes]at this;exact .inr (.inr (.inl ⟨r0,e,tl,this,rfl⟩))
    refine ⟨es.set 0 e,some ⟨g,0,none⟩,lc,by rw[List.length_set];rfl,hgood,by rw[List.length_set];omega,fun y hy=>?_,?_,?_,?_⟩
    ·rcases List.mem_or_eq_of_mem_set hy with hy | rfl
     ·exact cN HRi.out y hy
     ·omega
    ·rw[List.length_set]
     simpa [World.setCell] using HST.out
    ·exact (S3.out.kept hk (fun b hb e=>by omega)).mono (by omega)
    ·exact K3.out.trans_own hk (fun b hb e=>by omega)
   ·have hpos':¬ (0:Int)<(es.length:Int):=by omega
    go_wp2_with fail
    go_ret
    exact ⟨es,lv,lc,rfl,(.inl HRi.out),by omega,cN HRi.out,G2.out,S2.out.mono (by omega),K2.out⟩
  ·by_cases h2:i=2
   ·subst h2
    have hby:i1.bytes * 13≤281474976710656:=by rw[kz2];omega
    have hml:13≤maxLen:=by unfold maxLen;omega
    go_wp2_with (at_make;refine wpList_make_full _ rfl (.const (.int .i64 13)) (.const (.int .i64 13)) 40 rfl w2.heap.size 87 i1 (.agg #[.string ⟨#[]⟩,.int .i64 0,.int .i64 0,.slice none 0 0]) 4 Tryz.underlying40 ki kz0 kz1 .i64 .i64 _ _ 13 rfl rfl rfl rfl hby hml (Nat.le_refl _) ?_;intro w3 ho3 hg3;have O3:=aA ho3;have GW:=aA hg3;clear ho3 hg3)
    have B3:Hid (Below w2.heap.size w2 w3):=(Below.refl _ _).grown GW.out (Nat.le_refl _) (fun k hk=>by simp at hk)
    have G3:=aA (GE.mono (B':=w.heap.size) (GE.zeros (T:=w3.heap.size) O3.out (fun b hb=>(O3.out.lt b hb).2)) (by omega))
    have hlr:(List.replicate 13 zEn).length=13:=by simp
    go_wp2_with fail
    go_ret
    refine ⟨List.replicate 13 zEn,some ⟨w2.heap.size,0,none⟩,13,by rw[hlr];rfl,(.inr (.inr (.inr rfl))),by rw[hlr];decide,fun y hy=>?_,by rw[hlr];exact G3.out,(S2.out.below B3.out).mono (by omega),K2.out.trans (aD.of_below B3.out)⟩
    rw[(List.mem_replicate.1 hy).2];simp[zEn]
   ·have e0:((i:Int)==0)=false:=by simp;omega
    have e1:((i:Int)==1)=false:=by simp;omega
    have e2:((i:Int)==2)=false:=by simp;omega
    clear h0 h1 h2;go_wp2_with fail
    go_ret
    exact ⟨es,lv,lc,rfl,(.inl HRi.out),by omega,cN HRi.out,G2.out,S2.out.mono (by omega),K2.out⟩
def LyN (l:List Sn):Prop:=∀ s∈l,LyS s.layer
theorem bH.lay {l:List Sn} (h:bH l):LyN l:=fun s hs=>zuf (eE.1 (h.own s hs).2.2)
theorem LyN.good {l:List Sn} (h:LyN l):zX l:=fun s hs=>(h s hs).1.goodH.good.symm
theorem zj2 {l:List Sn} {k:Nat} {s':Sn} (hg:LyN l) (hs:dF l) (h1:LyS s'.layer) (h2:s'.name.length≤1048576∧s'.parent.length≤1048576∧s'.layer.length≤1048576∧cG s'.layer):LyN (l.set k s')∧dF (l.set k s'):=by
 refine ⟨fun s hs0=>?_,by rw[List.length_set];exact hs.1,fun s hs0=>?_⟩
 ·rcases List.mem_or_eq_of_mem_set hs0 with h | rfl
  ·exact hg s h
  ·exact h1
 ·rcases List.mem_or_eq_of_mem_set hs0 with h | rfl
  ·exact hs.2 s h
  ·exact h2
structure rE (p:Nat) (zs:List Int) (T:Int) (w:World) (l:List Sn) (av:Option Addr) (cv:Nat) (u:World):Prop where
 good:LyN l
 small:dF l
 ten:l.length≤10
 own:GS w.heap.size u (.slice av l.length cv) l
 src:dL u p zs T
 kept:aD (fun b=>b=p) w u
theorem iA.bentL {p:Nat} {zs:List Int} {T T':Int} {w:World} {l:List Sn} {av:Option Addr} {cv:Nat} {u:World} (h:iA p zs T w l av cv u) (hT:T≤T'):rE p zs T' w l av cv u:=⟨h.right.lay,h.right.tiny,h.right.len,h.own,h.src.mono hT,h.kept⟩
theorem iA.setL {p:Nat} {zs:List Int} {T T':Int} {w:World} {l:List Sn} {cv:Nat} {u:World} {k q g:Nat} {s s':Sn} {v:Value} (h:iA p zs T w l (some ⟨g,0,none⟩) cv u) (hp:p<w.heap.size) (hT:T≤T') (hs:l[k]?=some s) (hq:q<5) (hu:∀ a c,(bU ⟨s,a,c⟩).set q v=bU ⟨s',a,c⟩) (hy:s'.layer=s.layer) (hg:w.heap.size≤g) (hn:s'.name.length≤1048576) (hpa:s'.parent.length≤1048576) :
  rE p zs T' w (l.set k s') (some ⟨g,0,none⟩) cv (u.setCell ⟨g,k * 5+q,none⟩ v):=by
 have hm:=List.mem_of_getElem? hs;have ht:=h.right.tiny.2 s hm;obtain ⟨b1,b2⟩:=zj2 (k:=k) (s':=s') h.right.lay h.right.tiny (by rw[hy];exact h.right.lay s hm) ⟨hn,hpa,by rw[hy];exact ht.2.2.1,by rw[hy];exact ht.2.2.2⟩
 have hk:=aD.setCell (S:=fun x=>x=g) (p:=⟨g,k * 5+q,none⟩) (aD.refl _ u) (fun _=>rfl) v
 refine ⟨b1,b2,by rw[List.length_set];exact h.right.len,?_,(h.src.kept hk (fun b hb e=>by omega)).mono hT,h.kept.trans_own hk (fun b hb e=>by omega)⟩
 rw[List.length_set];exact h.own.put hs hq hu hy
theorem iA.layL {p:Nat} {zs:List Int} {T T':Int} {w:World} {l:List Sn} {cv:Nat} {u:World} {k g:Nat} {s:Sn} {a2:Option Addr} {c2:Nat} {V:List En} (h:iA p zs T w l (some ⟨g,0,none⟩) cv u) (hp:p<w.heap.size) (hT:T≤T') (hs:l[k]?=some s) (hV:GW w.heap.size u (.slice a2 V.length c2) V) (hgd:LyS V) (hl:V.length≤13) (hsm:cG V) (hg:w.heap.size≤g) :
  rE p zs T' w (l.set k ⟨s.name,s.parent,s.kind,s.lease,V⟩) (some ⟨g,0,none⟩) cv (u.setCell ⟨g,k * 5+4,none⟩ (.slice a2 V.length c2)):=by
 have hm:=List.mem_of_getElem? hs;have ht:=h.right.tiny.2 s hm;obtain ⟨b1,b2⟩:=zj2 (k:=k) (s':=⟨s.name,s.parent,s.kind,s.lease,V⟩) h.right.lay h.right.tiny hgd ⟨ht.1,ht.2.1,by show V.length≤1048576;omega,hsm⟩
 have hk:=aD.setCell (S:=fun x=>x=g) (p:=⟨g,k * 5+4,none⟩) (aD.refl _ u) (fun _=>rfl) (.slice a2 V.length c2)
 refine ⟨b1,b2,by rw[List.length_set];exact h.right.len,?_,(h.src.kept hk (fun b hb e=>by omega)).mono hT,h.kept.trans_own hk (fun b hb e=>by omega)⟩
 rw[List.length_set];exact h.own.lay hs hV
theorem zze (p:Nat) (zs:List Int) (T:Int) (w:World) (h:dL w p zs T) (hu:U8 zs) (hT:T≤10000) (hl:zs.length≤2097152) :
  Calls Tryz.prog 52 #[.pointer (some ⟨p,0,none⟩)] w fun r w'=>∃ (l:List Sn) (av:Option Addr) (cv:Nat),r=.returned (.slice av l.length cv)∧rE p zs (T+30000) w l av cv w':=by
 have hp:=h.lt;have HS:=aA h;have HU:=aA hu;clear h hu;go_enter Tryz.func52,Tryz.ntmps52;go_wp2_with fail
 refine (fK p zs T 16 w HS.out HU.out (by omega) (by decide) (by decide) hl).mono ?_
 rintro e w1 ⟨n0,rfl,hn,s1,k1⟩;have S1:=aA s1;have K1:=aA k1;have hs1:=k1.size;clear s1 k1 HS;go_wp2_with fail
 refine (zhc p zs _ n0 w1 S1.out HU.out (by omega) (by omega) hl).mono ?_
 rintro e w2 ⟨l,av,cv,rfl,hH⟩;have H2:Hid (iA p zs (T+1+20000) w l av cv w2):=aA ⟨hH.right,hH.own.mono hs1,hH.src,K1.out.trans hH.kept⟩;have hl10:=hH.right.len;clear hH S1 K1 hs1;by_cases hpos:0<l.length
 ·have hpos':(0:Int)<(l.length:Int):=by omega
  go_wp2_with fail
  refine (fK p zs _ l.length w2 H2.out.src HU.out (by omega) (by omega) (by omega) hl).mono ?_
  rintro e w3 ⟨i,rfl,hi,s3,k3⟩;have H3:=aA (H2.out.keep hp k3 s3);clear s3 k3 H2;have hi':i<l.length:=by omega
  have hi0:¬ (i:Int)<0:=by omega
  go_wp2_with fail
  refine (fK p zs _ 18 w3 H3.out.src HU.out (by omega) (by decide) (by decide) hl).mono ?_
  rintro e w4 ⟨kk,rfl,hk18,s4,k4⟩;have H:=aA (H3.out.keep hp k4 s4);clear s4 k4 H3;obtain ⟨s,hs⟩:∃ s,l[i]?=some s:=⟨_,List.getElem?_eq_getElem hi'⟩;have HQ:=aA hs;have hsn:=(H.out.right.tiny.2 s (List.mem_of_getElem? hs)).1;have hsp:=(H.out.right.tiny.2 s (List.mem_of_getElem? hs)).2.1;clear hs;have hv:kk=0∨kk=1∨kk=2∨kk=3∨4≤kk:=by omega
  rcases hv with hv | hv | hv | hv | hv
  ·subst hv
   have T0:=aA (iY.new (Q:=fun x=>x.length≤5) (w:=w4) (t:=9) (vs:=[[],[65],[97,98,99,100,101],[122,122]]) (by decide))
   have H5:=aA (H.out.below (aC w4 (.cells ([[],[65],[97,98,99,100,101],[122,122]].map vS).toArray 9)));have hg1:p<w4.heap.size:=H.out.src.lt;clear H;go_wp2_with fail
   refine (fK p zs _ 4 _ H5.out.src HU.out (by omega) (by decide) (by decide) hl).mono ?_
   rintro e w6 ⟨j,rfl,hj4,s6,k6⟩;have T1:=aA (T0.out.kept k6 (by omega))
   have H:=aA (H5.out.keep hp k6 s6);clear s6 k6 T0 H5;obtain ⟨x,hx,hxl⟩:=T1.out.2 j (by simp;omega)
   have hb:=T1.out.1;have HX:=aA hxl;clear hxl;obtain ⟨g,hgv,hgB,hgl,hfz,r,hrs,hcl⟩:=H.out.own.at HQ.out;subst hgv;subst hrs;have hq:=hcl 0 (by decide)
   have hz:w6.cell? ⟨g,i * 5,none⟩=some (.string (str r.s.name)):=hq;have hf:w6.frozen? ⟨g,i * 5,none⟩=false:=hfz (i * 5);have BE:Hid (rE p zs (T+30000) w (l.set i ⟨x,r.s.parent,r.s.kind,r.s.lease,r.s.layer⟩) (some ⟨g,0,none⟩) cv (w6.setCell ⟨g,i * 5,none⟩ (.string (str x)))):=aA (H.out.setL (q:=0) (s':=⟨x,r.s.parent,r.s.kind,r.s.lease,r.s.layer⟩) (v:=.string (str x)) hp (by omega) HQ.out (by decide) (fun _ _=>rfl) rfl hgB (by first | exact hsn | (have:=HX.out;simp;omega)) (by first | exact hsp | (have:=HX.out;simp;omega)))
   have HLN:=aA (show (l.set i ⟨x,r.s.parent,r.s.kind,r.s.lease,r.s.layer⟩).length=l.length by rw[List.length_set])
   clear hq hcl hfz H;go_wp2_with fail
   go_ret
   exact ⟨_,some ⟨g,0,none⟩,cv,by rw[HLN.out];rfl,BE.out⟩
  ·subst hv
   go_wp2_with fail
   refine (zna p zs _ w4 H.out.src HU.out (by omega) hl).mono ?_
   rintro e w6 ⟨x,rfl,hxl,s6,k6⟩;have H6:=aA (H.out.keep hp k6 s6);clear s6 k6 H;have H:=H6;clear H6;have HX:=aA hxl;clear hxl;obtain ⟨g,hgv,hgB,hgl,hfz,r,hrs,hcl⟩:=H.out.own.at HQ.out;subst hgv;subst hrs;have hq:=hcl 1 (by decide)
   have hz:w6.cell? ⟨g,i * 5+1,none⟩=some (.string (str r.s.parent)):=hq;have hf:w6.frozen? ⟨g,i * 5+1,none⟩=false:=hfz (i * 5+1);have BE:Hid (rE p zs (T+30000) w (l.set i ⟨r.s.name,x,r.s.kind,r.s.lease,r.s.layer⟩) (some ⟨g,0,none⟩) cv (w6.setCell ⟨g,i * 5+1,none⟩ (.string (str x)))):=aA (H.out.setL (q:=1) (s':=⟨r.s.name,x,r.s.kind,r.s.lease,r.s.layer⟩) (v:=.string (str x)) hp (by omega) HQ.out (by decide) (fun _ _=>rfl) rfl hgB (by first | exact hsn | (have:=HX.out;simp;omega)) (by first | exact hsp | (have:=HX.out;simp;omega)))
   have HLN:=aA (show (l.set i ⟨r.s.name,x,r.s.kind,r.s.lease,r.s.layer⟩).length=l.length by rw[List.length_set])
   clear hq hcl hfz H;go_wp2_with fail
   go_ret
   exact ⟨_,some ⟨g,0,none⟩,cv,by rw[HLN.out];rfl,BE.out⟩
  ·subst hv
   have C4:=aA (zjj w4 0 3 1 2 2);have H5:=aA (H.out.below (aC w4 (.cells #[.int .i64 0,.int .i64 3,.int .i64 1,.int .i64 2] 2)));have hg1:p<w4.heap.size:=H.out.src.lt;clear H;go_wp2_with fail
   refine (qZ p w4.heap.size 4 4 [0,3,1,2] zs _ _ H5.out.src HU.out (by omega) hl (by decide) (by decide) rfl (by omega) (by simp) (by simpa using C4.out)).mono ?_
   rintro e w6 ⟨x,hxv,rfl,s6,k6⟩;have H:=aA (H5.out.keep hp k6 s6);clear s6 k6 H5 C4 hxv;obtain ⟨g,hgv,hgB,hgl,hfz,r,hrs,hcl⟩:=H.out.own.at HQ.out;subst hgv;subst hrs;have hq:=hcl 2 (by decide)
   have hz:w6.cell? ⟨g,i * 5+2,none⟩=some (.int .i64 r.s.kind):=hq;have hf:w6.frozen? ⟨g,i * 5+2,none⟩=false:=hfz (i * 5+2);have BE:Hid (rE p zs (T+30000) w (l.set i ⟨r.s.name,r.s.parent,x,r.s.lease,r.s.layer⟩) (some ⟨g,0,none⟩) cv (w6.setCell ⟨g,i * 5+2,none⟩ (.int .i64 x))):=aA (H.out.setL (q:=2) (s':=⟨r.s.name,r.s.parent,x,r.s.lease,r.s.layer⟩) (v:=.int .i64 x) hp (by omega) HQ.out (by decide) (fun _ _=>rfl) rfl hgB (by first | exact hsn | (have:=HX.out;simp;omega)) (by first | exact hsp | (have:=HX.out;simp;omega)))
   have HLN:=aA (show (l.set i ⟨r.s.name,r.s.parent,x,r.s.lease,r.s.layer⟩).length=l.length by rw[List.length_set])
   clear hq hcl hfz H;go_wp2_with fail
   go_ret
   exact ⟨_,some ⟨g,0,none⟩,cv,by rw[HLN.out];rfl,BE.out⟩
  ·subst hv
   go_wp2_with fail
   refine (zpd p zs _ w4 H.out.src HU.out (by omega) hl).mono ?_
   rintro e w6 ⟨V,a2,c2,rfl,hgd,hvl,hsm,hG,s6,k6⟩;have hw4:=H.out.kept.size;have H6:=aA (H.out.keep hp k6 s6);have GV:=aA ((GW.of hG).mono hw4);have GD:=aA (show LyS V from ⟨hgd,hvl,hsm⟩)
   have SM:=aA hsm;clear s6 k6 H hgd hsm hG;have H:=H6;clear H6;obtain ⟨g,hgv,hgB,hgl,hfz,r,hrs,hcl⟩:=H.out.own.at HQ.out;subst hgv;subst hrs;have hq:=hcl 4 (by decide)
   have hz:w6.cell? ⟨g,i * 5+4,none⟩=some (.slice r.a r.s.layer.length r.c):=hq;have hf:w6.frozen? ⟨g,i * 5+4,none⟩=false:=hfz (i * 5+4);have BE:Hid (rE p zs (T+30000) w (l.set i ⟨r.s.name,r.s.parent,r.s.kind,r.s.lease,V⟩) (some ⟨g,0,none⟩) cv (w6.setCell ⟨g,i * 5+4,none⟩ (.slice a2 V.length c2))):=aA (H.out.layL hp (by omega) HQ.out GV.out GD.out hvl SM.out hgB)
   have HLN:=aA (show (l.set i ⟨r.s.name,r.s.parent,r.s.kind,r.s.lease,V⟩).length=l.length by rw[List.length_set])
   clear hq hcl hfz H GV GD SM;go_wp2_with fail
   go_ret
   exact ⟨_,some ⟨g,0,none⟩,cv,by rw[HLN.out];rfl,BE.out⟩
  ·have f0:((kk:Int)==0)=false:=by simp;omega
   have f1:((kk:Int)==1)=false:=by simp;omega
   have f2:((kk:Int)==2)=false:=by simp;omega
   have f3:((kk:Int)==3)=false:=by simp;omega
   go_wp2_with fail
   go_ret
   exact ⟨l,av,cv,rfl,H.out.bentL (by omega)⟩
 ·have hpos':¬ (0:Int)<(l.length:Int):=by omega
  go_wp2_with fail
  go_ret
  exact ⟨l,av,cv,rfl,H2.out.bentL (by omega)⟩
theorem nK (w:World) (G o:Nat) (u0 u1 u2 u3:Value):aD (fun b=>b=G) w ((((w.setCell ⟨G,o,none⟩ u0).setCell ⟨G,o+1,none⟩ u1).setCell ⟨G,o+2,none⟩ u2).setCell ⟨G,o+3,none⟩ u3) :=
 aD.setCell (S:=fun b=>b=G) (p:=⟨G,o+3,none⟩) (aD.setCell (S:=fun b=>b=G) (p:=⟨G,o+2,none⟩) (aD.two _ _ _ _ _ _) (fun _=>rfl) _) (fun _=>rfl) _
end Go.Proofs.YtgaeikgoknoamaaGreat
namespace Go.Proofs.YtgaeikgoknoamaaGreat
open Go.RowKit Go.Maps
def GR (B:Nat) (w:World) (v:Value) (rs:List Rs):Prop :=
 w.ownsRow B 42 5 v rs.length (aW rs)∧∀ r∈rs,GW B w (.slice r.a r.s.layer.length r.c) r.s.layer
theorem GR.of {B:Nat} {w:World} {v:Value} {l:List Sn} (h:GS B w v l):∃ rs:List Rs,rs.map Rs.s=l∧GR B w v rs:=by
 obtain ⟨rs,h1,h2,h3⟩:=h;subst h1;rw[List.length_map]at h2;exact ⟨rs,rfl,h2,h3⟩
theorem GR.gs {B:Nat} {w:World} {v:Value} {rs:List Rs} (h:GR B w v rs):GS B w v (rs.map Rs.s):=⟨rs,rfl,by rw[List.length_map];exact h.1,h.2⟩
theorem GR.kept {S:Nat→Prop} {B:Nat} {w w':World} {v:Value} {rs:List Rs} (h:GR B w v rs) (hk:aD S w w') (hS:∀ b,B≤b→¬ S b):GR B w' v rs :=
 ⟨aH h.1 hk (fun b hb hs=>hS b (h.1.lt b hb).1 hs),fun r hr=>(h.2 r hr).kept hk hS⟩
theorem GR.below {B:Nat} {w w':World} {v:Value} {rs:List Rs} (h:GR B w v rs) (hk:Below w.heap.size w w'):GR B w' v rs:=h.kept (S:=fun _=>False) (aD.of_below hk) (fun _ _=>id)
theorem GR.rowAt {B:Nat} {w:World} {va:Option Addr} {n vc i:Nat} {rs:List Rs} {r:Rs} (h:GR B w (.slice va n vc) rs) (hr:rs[i]?=some r) :
  ∃ g,va=some ⟨g,0,none⟩∧B≤g∧g<w.heap.size∧w.cell? ⟨g,i * 5+4,none⟩=some (.slice r.a r.s.layer.length r.c):=by
 obtain ⟨h2,h3⟩:=h;have hi:i<rs.length:=(List.getElem?_eq_some_iff.1 hr).1;rcases h2.2 with ⟨_,h0⟩ | ⟨g,cap,cur,h',hb',hh,-⟩
 ·omega
 ·simp only[Value.slice.injEq]at h'
  obtain ⟨rfl,rfl,rfl⟩:=h';refine ⟨g,rfl,hb',(h2.lt g rfl).2,?_⟩;have h9:=(h2.cellAt (i * 5+4) (by omega)).trans (oG rs i 4 r hr (by decide))
  simpa [bU] using h9
theorem GW.entAt {B:Nat} {w:World} {A:Option Addr} {n c k:Nat} {es:List En} {e:En} (h:GW B w (.slice A n c) es) (he:es[k]?=some e) :
  ∃ G y yc,A=some ⟨G,0,none⟩∧B≤G∧G<w.heap.size∧w.cell? ⟨G,k * 4,none⟩=some (.string (str e.path))∧w.cell? ⟨G,k * 4+1,none⟩=some (.int .i64 e.kind)∧w.cell? ⟨G,k * 4+2,none⟩=some (.int .i64 e.size)∧w.cell? ⟨G,k * 4+3,none⟩=some (.slice y e.chunks.length yc)∧(∀ j,w.frozen? ⟨G,j,none⟩=false):=by
 obtain ⟨qs,h1,h2,h3⟩:=h;have hk:k<es.length:=(List.getElem?_eq_some_iff.1 he).1;have hql:qs.length=es.length:=by rw[←h1,List.length_map]
 obtain ⟨r,hr⟩:∃ r,qs[k]?=some r:=⟨qs[k]'(by omega),List.getElem?_eq_getElem (by omega)⟩
 have hre:r.e=e:=by
  have:(qs.map Rw.e)[k]?=some r.e:=by rw[List.getElem?_map,hr];rfl
  rw[h1,he]at this;exact (Option.some.inj this).symm
 rcases h2.2 with ⟨_,h0⟩ | ⟨G,cap,cur,h',hb',hh,-⟩
 ·omega
 ·simp only[Value.slice.injEq]at h'
  obtain ⟨rfl,rfl,rfl⟩:=h';have cel:∀ q,q<4→w.cell? ⟨G,k * 4+q,none⟩=(cA r)[q]?:=fun q hq=>by
   rw[h2.cellAt (k * 4+q) (by omega),jM _ k q r hr hq]
  refine ⟨G,r.a,r.c,rfl,hb',(h2.lt G rfl).2,?_,?_,?_,?_,fun j=>h2.frozenAt j⟩
  ·have:=cel 0 (by decide)
   rw[←hre];exact this
  ·have:=cel 1 (by decide)
   rw[←hre];exact this
  ·have:=cel 2 (by decide)
   rw[←hre];exact this
  ·have:=cel 3 (by decide)
   rw[←hre];exact this
def gA (G k:Nat) (e:En) (r:Rs):Rs:=if r.a=some ⟨G,0,none⟩ then ⟨⟨r.s.name,r.s.parent,r.s.kind,r.s.lease,r.s.layer.set k e⟩,r.a,r.c⟩ else r
theorem ze9 (G k:Nat) (e:En) (r:Rs):bU (gA G k e r)=bU r:=by
 unfold gA;split <;> simp[bU]
theorem zkf (G k:Nat) (e:En) (rs:List Rs):aW (rs.map (gA G k e))=aW rs:=by
 unfold aW;rw[List.flatMap_map]
 congr 1
 funext r
 exact ze9 G k e r
theorem zk7 {qs:List Rw} {k:Nat} {u0 u1 u2 u3:Value} (h:qs.length≤k):((((aZ qs).set (k * 4) u0).set (k * 4+1) u1).set (k * 4+2) u2).set (k * 4+3) u3=aZ qs:=by
 have hl:=eJ qs;rw[List.set_eq_of_length_le (by simp only[List.length_set];omega),List.set_eq_of_length_le (by simp only[List.length_set];omega),List.set_eq_of_length_le (by simp only[List.length_set];omega),List.set_eq_of_length_le (by omega)]
theorem GW.over {B G c k n cc:Nat} {w:World} {es:List En} {a:Option Addr} (e:En) (h:GW B w (.slice (some ⟨G,0,none⟩) n c) es)
  (hown:w.ownsRow B 2 1 (.slice a e.chunks.length cc) e.chunks.length (e.chunks.map (Value.int .i64))) :
  GW B ((((w.setCell ⟨G,k * 4,none⟩ (.string (str e.path))).setCell ⟨G,k * 4+1,none⟩ (.int .i64 e.kind)).setCell ⟨G,k * 4+2,none⟩ (.int .i64 e.size)).setCell ⟨G,k * 4+3,none⟩ (.slice a e.chunks.length cc)) (.slice (some ⟨G,0,none⟩) n c) (es.set k e):=by
 obtain ⟨qs,h1,h2,h3⟩:=h;have hql:qs.length=es.length:=by rw[←h1,List.length_map]
 have hkp:=nK w G (k * 4) (.string (str e.path)) (.int .i64 e.kind) (.int .i64 e.size) (.slice a e.chunks.length cc);obtain ⟨m,c',em⟩:=aQ h2;simp only[Value.slice.injEq]at em;obtain ⟨-,rfl,-⟩:=em;have far:∀ {u:Value} {m:Nat} {xs:List Value},w.ownsRow B 2 1 u m xs→((((w.setCell ⟨G,k * 4,none⟩ (.string (str e.path))).setCell ⟨G,k * 4+1,none⟩ (.int .i64 e.kind)).setCell ⟨G,k * 4+2,none⟩ (.int .i64 e.size)).setCell ⟨G,k * 4+3,none⟩ (.slice a e.chunks.length cc)).ownsRow B 2 1 u m xs:=fun ho =>
  aH ho hkp (fun b hb hS=>by subst hS;exact aX h2 ho (by decide) rfl hb)
 have s1:=((((h2.stored (k * 4) (.string (str e.path))).1.stored (k * 4+1) (.int .i64 e.kind)).1.stored (k * 4+2) (.int .i64 e.size)).1.stored (k * 4+3) (.slice a e.chunks.length cc)).1;by_cases hk:k<qs.length
 ·rw[rU qs k ⟨e,a,cc⟩ hk]at s1
  refine ⟨qs.set k ⟨e,a,cc⟩,by rw[List.map_set,h1],by rw[List.length_set];exact s1,fun r hr=>?_⟩
  rcases List.mem_or_eq_of_mem_set hr with hr | rfl
  ·exact far (h3 r hr)
  ·exact far hown
 ·rw[zk7 (by omega)]at s1
  refine ⟨qs,by rw[List.set_eq_of_length_le (by omega),h1],by rw[List.length_set];exact s1,fun r hr=>far (h3 r hr)⟩
theorem GR.store {B G k i cc:Nat} {w:World} {v:Value} {rs:List Rs} {r:Rs} {a:Option Addr} (e:En) (h:GR B w v rs) (hr:rs[i]?=some r) (hG:r.a=some ⟨G,0,none⟩)
  (hown:w.ownsRow B 2 1 (.slice a e.chunks.length cc) e.chunks.length (e.chunks.map (Value.int .i64))) :
  GR B ((((w.setCell ⟨G,k * 4,none⟩ (.string (str e.path))).setCell ⟨G,k * 4+1,none⟩ (.int .i64 e.kind)).setCell ⟨G,k * 4+2,none⟩ (.int .i64 e.size)).setCell ⟨G,k * 4+3,none⟩ (.slice a e.chunks.length cc)) v (rs.map (gA G k e)):=by
 obtain ⟨h2,h3⟩:=h;have hkp:=nK w G (k * 4) (.string (str e.path)) (.int .i64 e.kind) (.int .i64 e.size) (.slice a e.chunks.length cc);have hGr:=h3 r (List.mem_of_getElem? hr);rw[hG]at hGr;obtain ⟨qs0,p1,p2,p3⟩:=hGr;refine ⟨?_,fun x hx=>?_⟩
 ·rw[List.length_map,zkf]
  exact aH h2 hkp (fun b hb hS=>by subst hS;exact aX p2 h2 (by decide) rfl hb)
 ·obtain ⟨y,hy,rfl⟩:=List.mem_map.1 hx
  have hyw:=h3 y hy;by_cases hya:y.a=some ⟨G,0,none⟩
  ·unfold gA
   rw[if_pos hya];simp only[List.length_set];rw[hya]at hyw ⊢;exact GW.over e hyw hown
  ·unfold gA
   rw[if_neg hya];obtain ⟨qs,q1,q2,q3⟩:=hyw;refine ⟨qs,q1,aH q2 hkp (fun b hb hS=>?_),fun q hq=>aH (q3 q hq) hkp (fun b hb hS=>by subst hS;exact aX p2 (q3 q hq) (by decide) rfl hb)⟩
   subst hS;rcases q2.2 with ⟨h',_⟩ | ⟨g,cap,cur,h',hb',hh,-⟩
   ·rw[h']at hb
    cases hb
   ·rw[h']at hb
    simp only[Value.slice.injEq]at h';have hgb:g=b:=by simpa [Value.ownBlock] using hb
    rw[hgb]at h';exact hya h'.1
theorem GR.lays {B G k i:Nat} {w:World} {v:Value} {rs:List Rs} {r:Rs} {e0:En} {zs:List Int} (h:GR B w v rs) (hr:rs[i]?=some r) (hG:r.a=some ⟨G,0,none⟩) (he:r.s.layer[k]?=some e0) (h1:e0.kind=1) (hz:zs.length≤24)
  (hl:LyN (rs.map Rs.s)):LyN ((rs.map (gA G k (bV e0.path zs))).map Rs.s):=by
 intro s hs;rw[List.map_map]at hs;obtain ⟨y,hy,rfl⟩:=List.mem_map.1 hs;have hly:=hl y.s (List.mem_map.2 ⟨y,hy,rfl⟩);by_cases hya:y.a=some ⟨G,0,none⟩
 ·have e9:(Rs.s∘gA G k (bV e0.path zs)) y=⟨y.s.name,y.s.parent,y.s.kind,y.s.lease,y.s.layer.set k (bV e0.path zs)⟩:=by
   simp[gA,hya]
  rw[e9];show LyS (y.s.layer.set k (bV e0.path zs))
  by_cases hk:k<y.s.layer.length
  ·obtain ⟨e1,he1⟩:∃ e1,y.s.layer[k]?=some e1:=⟨_,List.getElem?_eq_getElem hk⟩
   obtain ⟨G1,x1,c1,a1,-,-,z0,z1,-⟩:=(h.2 r (List.mem_of_getElem? hr)).entAt he;obtain ⟨G2,x2,c2,a2,-,-,y0,y1,-⟩:=(h.2 y hy).entAt he1;have g1:G1=G:=by rw[hG]at a1;simpa using a1.symm
   have g2:G2=G:=by rw[hya]at a2;simpa using a2.symm
   subst g1;subst g2;have p1:e1.path=e0.path:=by
    rw[z0]at y0;simp only[Option.some.injEq,Value.string.injEq]at y0;exact (zkk y0).symm
   have p2:e1.kind=1:=by
    rw[z1]at y1;simp only[Option.some.injEq,Value.int.injEq,true_and]at y1;rw[←y1];exact h1
   rw[←p1];exact hly.set he1 p2 hz
  ·rw[List.set_eq_of_length_le (by omega)]
   exact hly
 ·have e9:(Rs.s∘gA G k (bV e0.path zs)) y=y.s:=by
   simp[gA,hya]
  rw[e9];exact hly
theorem GR.small {G k:Nat} {e:En} {rs:List Rs} (hs:dF (rs.map Rs.s)) (hl:LyN ((rs.map (gA G k e)).map Rs.s)):dF ((rs.map (gA G k e)).map Rs.s):=by
 refine ⟨by have:=hs.1;simpa using this,fun s h=>?_⟩
 have hly:=hl s h;rw[List.map_map]at h;obtain ⟨y,hy,rfl⟩:=List.mem_map.1 h;have h9:=hs.2 y.s (List.mem_map.2 ⟨y,hy,rfl⟩);have e1:((Rs.s∘gA G k e) y).name=y.s.name:=by simp only[Function.comp,gA];split <;> rfl
 have e2:((Rs.s∘gA G k e) y).parent=y.s.parent:=by simp only[Function.comp,gA];split <;> rfl
 rw[e1,e2];exact ⟨h9.1,h9.2.1,by have:=hly.2.1;omega,hly.2.2⟩
end Go.Proofs.YtgaeikgoknoamaaGreat
namespace Go.Proofs.YtgaeikgoknoamaaGreat
open Go.RowKit
def bZ (n:Nat) (F:Nat→List Value):List Value:=(List.range n).flatMap F
theorem oY (n:Nat) (F:Nat→List Value):bZ (n+1) F=bZ n F++F n:=by
 simp[bZ,List.range_succ]
theorem fI {k:Nat} {F:Nat→List Value}:∀ {n:Nat},(∀ i,i<n→(F i).length=k)→(bZ n F).length=n * k
 | 0,_=>by simp[bZ]
 | n+1,h=>by
  rw[oY,List.length_append,fI (fun i hi=>h i (by omega)),h n (by omega),Nat.succ_mul]
theorem fE {k:Nat} {F:Nat→List Value}:∀ {n:Nat},(∀ i,i<n→(F i).length=k)→∀ i r,i<n→r<k→(bZ n F)[i * k+r]?=(F i)[r]?
 | 0,_,i,r,hi,_=>by omega
 | n+1,h,i,r,hi,hr=>by
  have hl:=fI (n:=n) (F:=F) (k:=k) (fun i hi=>h i (by omega))
  rw[oY];by_cases e:i=n
  ·subst e
   rw[List.getElem?_append_right (by omega),hl]
   congr 1
   omega
  ·have hlt:i * k+r<n * k:=by
    have:(i+1) * k≤n * k:=Nat.mul_le_mul_right k (by omega)
    rw[Nat.succ_mul]at this;omega
   rw[List.getElem?_append_left (by omega)]
   exact fE (fun i hi=>h i (by omega)) i r (by omega) hr
theorem kE {F G:Nat→List Value} {n:Nat} (h:∀ i,i<n→F i=G i):bZ n F=bZ n G:=by
 unfold bZ
 induction n with
 | zero=>rfl
 | succ n ih =>
  rw[List.range_succ,List.flatMap_append,List.flatMap_append,ih (fun i hi=>h i (by omega))]
  simp[h n (by omega)]
theorem zn5 {k:Nat} {F:Nat→List Value} {n:Nat} (h:∀ i,i<n→(F i).length=k) (i r:Nat) (hi:i<n) (hr:r<k) (u:Value) :
  (bZ n F).set (i * k+r) u=bZ n (fun t=>if t=i then (F t).set r u else F t):=by
 have h':∀ t,t<n→(if t=i then (F t).set r u else F t).length=k:=fun t ht=>by
  by_cases e:t=i
  ·rw[if_pos e,List.length_set];exact h t ht
  ·rw[if_neg e];exact h t ht
 have l1:=fI h;have l2:=fI h';apply List.ext_getElem?
 intro p;by_cases hp:p<n * k
 ·have hk:0<k:=by omega
  have e:p=p / k * k+p % k:=by rw[Nat.mul_comm];exact (Nat.div_add_mod p k).symm
  have h1:p / k<n:=Nat.div_lt_of_lt_mul (by rw[Nat.mul_comm];exact hp)
  have h2:p % k<k:=Nat.mod_lt _ hk;generalize p / k=a at e h1;generalize p % k=b at e h2;subst e;rw[fE h' a b h1 h2];by_cases ea:a=i
  ·subst ea
   rw[if_pos rfl];by_cases eb:b=r
   ·subst eb
    rw[List.getElem?_set_self (by omega),List.getElem?_set_self (by rw[h a h1];omega)]
   ·rw[List.getElem?_set_ne (by omega),List.getElem?_set_ne (by omega),fE h a b h1 h2]
  ·rw[if_neg ea]
   have hne:i * k+r≠a * k+b:=by
    intro e;rcases Nat.lt_or_gt_of_ne ea with hlt | hgt
    ·have:(a+1) * k≤i * k:=Nat.mul_le_mul_right k hlt
     rw[Nat.succ_mul]at this;omega
    ·have:(i+1) * k≤a * k:=Nat.mul_le_mul_right k hgt
     rw[Nat.succ_mul]at this;omega
   rw[List.getElem?_set_ne hne,fE h a b h1 h2]
 ·rw[List.getElem?_eq_none (by rw[List.length_set];omega),List.getElem?_eq_none (by omega)]
def RdC (w:World) (a:Option Addr) (D:Nat→Int) (P:Nat→List Int) (n:Nat):Prop :=
 0<n→∃ (b off:Nat) (A:Nat→Option Addr) (C:Nat→Nat),a=some ⟨b,off,none⟩∧b<w.heap.size∧∀ i,i<n→w.cell? ⟨b,off+i * 2,none⟩=some (.int .i64 (D i))∧w.cell? ⟨b,off+i * 2+1,none⟩=some (.slice (A i) (P i).length (C i))∧aO .u8 w (A i) (P i)
theorem RdC.below {w w':World} {a:Option Addr} {D:Nat→Int} {P:Nat→List Int} {n:Nat} (h:RdC w a D P n) (hk:Below w.heap.size w w'):RdC w' a D P n:=by
 intro hn;obtain ⟨b,off,A,C,e,hb,hc⟩:=h hn;exact ⟨b,off,A,C,e,Nat.lt_of_lt_of_le hb hk.size,fun i hi=>⟨(hk.cell (p:=⟨b,off+i * 2,none⟩) hb).trans (hc i hi).1,(hk.cell (p:=⟨b,off+i * 2+1,none⟩) hb).trans (hc i hi).2.1,(hc i hi).2.2.below hk⟩⟩
def aJ (D:Nat→Int) (P:Nat→List Int) (A:Nat→Option Addr) (C:Nat→Nat) (i:Nat):List Value:=[.int .i64 (D i),.slice (A i) (P i).length (C i)]
def GC (B T:Nat) (w:World) (v:Value) (D:Nat→Int) (P:Nat→List Int) (n:Nat):Prop :=
 ∃ (A:Nat→Option Addr) (C:Nat→Nat),w.ownsRow B 65 2 v n (bZ n (aJ D P A C)) ∧
  (∀ i,i<n→w.ownsRow B 5 1 (.slice (A i) (P i).length (C i)) (P i).length ((P i).map (Value.int .u8))) ∧
  (∀ i i' g,i<n→i'<n→(A i).map Addr.block=some g→(A i').map Addr.block=some g→i=i') ∧
  (∀ i g,i<n→(A i).map Addr.block=some g→g<T)∧∀ b,v.ownBlock=some b→b<T
theorem Tryz.infoCh:(Tryz.prog.info? 65).map (fun i=>(i.zero,i.size,i.bytes))=some (some (.agg #[.int .i64 0,.slice none 0 0]),2,32):=by kernel_rfl
theorem zn1 (D:Nat→Int) (P:Nat→List Int) (A:Nat→Option Addr) (C:Nat→Nat) (i:Nat):(aJ D P A C i).length=2:=rfl
theorem yP {w:World} {B:Nat} {e:TypeId} {k:IntKind} {a:Option Addr} {n c:Nat} {zs:List Int} (h:w.ownsRow B e 1 (.slice a n c) n (zs.map (Value.int k))) (hn:n=zs.length):aO k w a zs:=by
 intro hz;have h0:0<n:=by rw[hn];exact List.length_pos_iff.2 hz
 obtain ⟨g,cap,hv,hg,hgl,hc,hf⟩:=nP h hn h0;simp only[Value.slice.injEq,true_and]at hv;exact ⟨g,0,hv.1,hgl,fun i hi=>by rw[Nat.zero_add];exact hc i (by omega)⟩
theorem GC.rd {B T:Nat} {w:World} {a:Option Addr} {c:Nat} {D:Nat→Int} {P:Nat→List Int} {n:Nat} (h:GC B T w (.slice a n c) D P n):RdC w a D P n:=by
 intro hn;obtain ⟨A,C,h1,h2,h3,h4,h5⟩:=h;rcases h1.2 with ⟨_,h0⟩ | ⟨g,cap,cur,h',hb,hh,hnc,hcm,hcs,htake⟩
 ·omega
 ·simp only[Value.slice.injEq,true_and]at h'
  obtain ⟨rfl,rfl⟩:=h';have hf:=fun i r hi hr=>fE (n:=n) (k:=2) (F:=aJ D P A C) (fun i _=>zn1 _ _ _ _ _) i r hi hr
  refine ⟨g,0,A,C,rfl,(h1.lt g rfl).2,fun i hi=>⟨?_,?_,yP (h2 i hi) rfl⟩⟩
  ·rw[Nat.zero_add,h1.cellAt (i * 2) (by omega)]
   have:=hf i 0 hi (by decide)
   rw[Nat.add_zero]at this;rw[this];rfl
  ·rw[Nat.zero_add,h1.cellAt (i * 2+1) (by omega),hf i 1 hi (by decide)];rfl
theorem GC.kept {S:Nat→Prop} {B T:Nat} {w w':World} {v:Value} {D:Nat→Int} {P:Nat→List Int} {n:Nat} (h:GC B T w v D P n) (hk:aD S w w') (hS:∀ b,B≤b→b<T→¬ S b):GC B T w' v D P n:=by
 obtain ⟨A,C,h1,h2,h3,h4,h5⟩:=h;refine ⟨A,C,aH h1 hk (fun b hb=>hS b (h1.lt b hb).1 (h5 b hb)),fun i hi=>aH (h2 i hi) hk (fun b hb=>hS b ((h2 i hi).lt b hb).1 (h4 i b hi ?_)),h3,h4,h5⟩
 cases hA:A i with
 | none=>rw[hA]at hb;simp[Value.ownBlock]at hb
 | some x=>rw[hA]at hb;simpa [Value.ownBlock] using hb
theorem GC.mono {B B' T:Nat} {w:World} {v:Value} {D:Nat→Int} {P:Nat→List Int} {n:Nat} (h:GC B T w v D P n) (hB:B'≤B):GC B' T w v D P n:=by
 obtain ⟨A,C,h1,h2,h3,h4,h5⟩:=h;exact ⟨A,C,aS h1 hB,fun i hi=>aS (h2 i hi) hB,h3,h4,h5⟩
theorem GC.wide {B T T':Nat} {w:World} {v:Value} {D:Nat→Int} {P:Nat→List Int} {n:Nat} (h:GC B T w v D P n) (hT:T≤T'):GC B T' w v D P n:=by
 obtain ⟨A,C,h1,h2,h3,h4,h5⟩:=h;exact ⟨A,C,h1,h2,h3,fun i g hi hg=>Nat.lt_of_lt_of_le (h4 i g hi hg) hT,fun b hb=>Nat.lt_of_lt_of_le (h5 b hb) hT⟩
theorem GC.nil (B T:Nat) (w:World) (D:Nat→Int) (P:Nat→List Int):GC B T w (.slice none 0 0) D P 0 :=
 ⟨fun _=>none,fun _=>0,World.ownsRow_nil _ _ _ _,fun i hi=>absurd hi (by omega),fun i i' g hi=>absurd hi (by omega),fun i g hi=>absurd hi (by omega),fun b hb=>by simp[Value.ownBlock]at hb⟩
def eZ (d:Int) (zs:List Int):Int :=
 if 0≤d∧d≤4294967295 then (if 1≤zs.length∧zs.length≤8 then (if cV zs=d then 0 else 6) else 2) else 3
def fH (D:Nat→Int) (P:Nat→List Int) (i:Nat):Option Int :=
 if eZ (D i) (P i)≠0 then some (eZ (D i) (P i)) else if 0<i∧D i≤D (i - 1) then some 1 else none
def eX (f:Nat→Option Int):Nat→Nat→Int
 | _,0=>0
 | i,m+1=>match f i with | some c=>c | none=>eX f (i+1) m
def fC (D:Nat→Int) (P:Nat→List Int) (n:Nat):Int:=if 40<n then 2 else eX (fH D P) 0 n
theorem nJ {f:Nat→Option Int} {k n:Nat} {c:Int} (hk:k<n) (h:f k=some c):eX f k (n - k)=c:=by
 obtain ⟨m,hm⟩:∃ m,n - k=m+1:=⟨n - k - 1,by omega⟩
 rw[hm];simp[eX,h]
theorem mG {f:Nat→Option Int} {k n:Nat} (hk:k<n) (h:f k=none):eX f k (n - k)=eX f (k+1) (n - (k+1)):=by
 obtain ⟨m,hm⟩:∃ m,n - k=m+1:=⟨n - k - 1,by omega⟩
 have:n - (k+1)=m:=by omega
 rw[hm,this];simp[eX,h]
theorem vJ {f:Nat→Option Int} {k n:Nat} (hk:n≤k):eX f k (n - k)=0:=by
 have:n - k=0:=by omega
 rw[this];rfl
theorem uS {f:Nat→Option Int} (hf:∀ j c,f j=some c→c≠0):∀ (m i:Nat),eX f i m=0→∀ j,i≤j→j<i+m→f j=none
 | 0,i,_,j,h1,h2=>by omega
 | m+1,i,h,j,h1,h2=>by
  simp only[eX]at h;cases hi:f i with
  | some c=>rw[hi]at h;exact absurd h (hf i c hi)
  | none =>
   rw[hi]at h;by_cases e:j=i
   ·subst e;exact hi
   ·exact uS hf m (i+1) h j (by omega) (by omega)
theorem zya (D:Nat→Int) (P:Nat→List Int) (j:Nat) (c:Int) (h:fH D P j=some c):c≠0:=by
 unfold fH at h;split at h
 ·rename_i h1;cases h;exact h1
 ·split at h
  ·cases h;decide
  ·cases h
theorem pL {d:Int} {zs:List Int} (h:eZ d zs=0):(0≤d∧d≤4294967295)∧(1≤zs.length∧zs.length≤8)∧cV zs=d:=by
 unfold eZ at h;split at h
 ·rename_i h1
  split at h
  ·rename_i h2
   split at h
   ·rename_i h3;exact ⟨h1,h2,h3⟩
   ·omega
  ·omega
 ·omega
structure cF (D:Nat→Int) (P:Nat→List Int) (n:Nat):Prop where
 many:n≤40
 range:∀ i,i<n→0≤D i∧D i≤4294967295
 len:∀ i,i<n→1≤(P i).length∧(P i).length≤8
 sum:∀ i,i<n→cV (P i)=D i
 up:∀ i,i+1<n→D i<D (i+1)
theorem pU {D:Nat→Int} {P:Nat→List Int} {n:Nat} (h:fC D P n=0):cF D P n:=by
 unfold fC at h;split at h
 ·omega
 ·rename_i hn
  have hz:=uS (zya D P) n 0 h;have hone:∀ i,i<n→eZ (D i) (P i)=0∧¬ (0<i∧D i≤D (i - 1)):=fun i hi=>by
   have:=hz i (Nat.zero_le _) (by omega)
   unfold fH at this;split at this
   ·cases this
   ·rename_i h1
    split at this
    ·cases this
    ·rename_i h2;exact ⟨Decidable.not_not.1 h1,h2⟩
  refine ⟨by omega,fun i hi=>(pL (hone i hi).1).1,fun i hi=>(pL (hone i hi).1).2.1,fun i hi=>(pL (hone i hi).1).2.2,fun i hi=>?_⟩
  have:=(hone (i+1) hi).2;simp only[Nat.add_sub_cancel]at this;omega
theorem zf4 {D:Nat→Int} {P:Nat→List Int} {n:Nat} (h:cF D P n):∀ i,i<n→fH D P i=none:=fun i hi=>by
 have h0:eZ (D i) (P i)=0:=by unfold eZ;rw[if_pos (h.range i hi),if_pos (h.len i hi),if_pos (h.sum i hi)]
 unfold fH;rw[if_neg (by rw[h0];simp),if_neg]
 rintro ⟨h1,h2⟩;have:=h.up (i - 1) (by omega)
 rw[Nat.sub_add_cancel h1]at this;omega
theorem uT {f:Nat→Option Int}:∀ (m i:Nat),(∀ j,i≤j→j<i+m→f j=none)→eX f i m=0
 | 0,_,_=>rfl
 | m+1,i,h=>by
  simp only[eX,h i (Nat.le_refl _) (by omega)]
  exact uT m (i+1) (fun j h1 h2=>h j (by omega) (by omega))
theorem jI {D:Nat→Int} {P:Nat→List Int} {n:Nat} (h:cF D P n):fC D P n=0:=by
 unfold fC;rw[if_neg (by have:=h.many;omega)]
 exact uT n 0 (fun j _ h2=>zf4 h j (by omega))
end Go.Proofs.YtgaeikgoknoamaaGreat
