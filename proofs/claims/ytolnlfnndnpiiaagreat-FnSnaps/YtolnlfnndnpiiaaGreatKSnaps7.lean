/-
  Texts put together: IteE EntQ LayR LayG Digest Parts IntsR Digests.
-/
import Derived.Test.YtolnlfnndnpiiaaGreatKSnaps6
import Derived.Test.YtolnlfnndnpiiaaGreatKSnaps4
set_option linter.unusedVariables false
set_option maxHeartbeats 3200000
set_option maxRecDepth 100000
namespace Go.Proofs.YtolnlfnndnpiiaaGreat
open Go.RowKit Go.Maps
attribute [local go_sem ↓] Go.wp_at_zero Go.wp_at_succ
def dK (es:List En) (p:Bs):Int:=if mZ es p=0 then (if (aG es p).isSome then 0 else 4) else mZ es p
def lS (es:List En) (p:Bs):List En:=if dK es p=0 then (aG es p).toList else []
theorem zmd {es:List En} {k:Nat} {e:En} {p:Bs} (he:es[k]?=some e) (h:aG es p=aG (es.drop k) p) (hp:e.path≠p):aG es p=aG (es.drop (k+1)) p:=by
 rw[h,eG he,aG,List.find?_cons];simp[hp,aG]
theorem zlg {es:List En} {k:Nat} {e:En} {p:Bs} (he:es[k]?=some e) (h:aG es p=aG (es.drop k) p) (hp:e.path=p):aG es p=some e:=by
 rw[h,eG he,aG,List.find?_cons];simp[hp]
theorem zkg {es:List En} {k:Nat} {p:Bs} (hk:es.length≤k) (h:aG es p=aG (es.drop k) p):aG es p=none:=by
 rw[h,List.drop_eq_nil_of_le hk];rfl
theorem oB (a:Option Addr) (c n:Nat) (es:List En) (p:Bs) (w:World) (h:RdE w a es) (hn:n=es.length) (hl:es.length≤1048576) (hs:aV es) (hp:p.length≤1048576) :
  Calls Tryz.prog 149 #[.slice a n c,.string (str p)] w (eV (dK es p) (lS es p) w):=by
 subst hn;have X0:=aA (Box.new w (.int .i64 0) (.slice none 0 0) 131);have B0:=aA (aC w (.cells #[.int .i64 0,.slice none 0 0] 131));have HR:=aA h;have HS:=aA hs;clear h hs;go_enter Tryz.func149,Tryz.ntmps149;go_wp2_with fail
 refine (zP a c es.length es p _ (HR.out.below B0.out) rfl hl HS.out hp).mono ?_;rintro r w1 ⟨rfl,hb1⟩;have B1:=aA (aB B0.out hb1);have X1:=aA (X0.out.below hb1);clear hb1 X0 B0;by_cases hz:mZ es p=0
 ·have HC:=aA (show dK es p=if (aG es p).isSome then 0 else 4 from by simp[dK,hz])
  rw[hz];clear hz;have hb0:w.heap.size<w1.heap.size:=X1.out.1.lt;go_wp2_with fail
  go_loopw [17] (fun i wr=>∃ k:Nat,k≤es.length∧i=.int .i64 k∧Hid (aG es p=aG (es.drop k) p)∧Hid (Below w1.heap.size w1 wr)) (fun i _=>es.length - (intOf i).toNat)
  case atStart=>exact ⟨0,Nat.zero_le _,rfl,aA (by simp),aA (Below.refl _ _)⟩
  case round =>
   obtain ⟨k,hk,rfl,HF,HW⟩:=hrel;have HR1:=aA (HR.out.below (aB B1.out HW.out));have hsz:=HW.out.size;by_cases hlt:k<es.length
   ·obtain ⟨b,off,e,x,cc,rfl,hb,he,c0,c1,c2,c3,hr⟩:=HR1.out.at hlt
    have hsm:=HS.out e (List.mem_of_getElem? he);have HX:=aA he;have HRc:=aA hr;clear he hr;by_cases hq:e.path=p
    ·have hs1:=gS hq
     have HFE:=aA (zlg HX.out HF.out hq);have HCC:=aA (show dK es p=0∧lS es p=[e] from by
      have h0:dK es p=0:=by rw[HC.out,HFE.out];rfl
      exact ⟨h0,by rw[lS,if_pos h0,HFE.out];rfl⟩)
     clear hq;have BA:=aA (aC wr (.cells #[.string (str e.path),.int .i64 e.kind,.int .i64 e.size,.slice x e.chunks.length cc] 50));go_wp2_with fail
     refine (fY _ _ _ _ _ _ _).mono ?_;rintro r w3 ⟨rfl,hb3⟩;have BB3:=aA (aB BA.out hb3);have RI:=aA (RdI.fresh (e:=e) (c:=cc) (t:=88) (HRc.out.below BB3.out));have BI:=aA (aC w3 (.cells #[.int .i64 e.size,.slice x e.chunks.length cc,.string (str e.path),.int .i64 e.kind] 88));have hs3:=BB3.out.size;clear hb3 c0 c1 c2 c3 BA;go_wp2_with fail
     generalize w3.alloc (.cells #[.int .i64 e.size,.slice x e.chunks.length cc,.string (str e.path),.int .i64 e.kind] 88)=W4 at *;refine (jO _ _ 1 [e] _ RI.out rfl (by simp) (fun y hy=>by simp only[List.mem_singleton]at hy;subst hy;exact hsm)).mono ?_
     rintro r w5 ⟨av5,cv5,rfl,hG5,hb5⟩;have BB5:=aA (aB HW.out (aB (aB BB3.out BI.out) hb5));obtain ⟨⟨t0,t1⟩,t2,t3⟩:=X1.out.below BB5.out;have G5:=aA hG5;have hs4:=BI.out.size;have B5:=aA (aB B1.out BB5.out);clear hG5 hb5;go_wp2_with fail
     exact bodyPost_ret (v:=.agg #[.int .i64 0,.slice av5 1 cv5]) (by simp[results,Tryz.results149,go_sem,t0,t1]) rfl (by rw[HCC.out.1,HCC.out.2];exact eV.of (w2:=w1) (by omega) (Nat.le_refl _) rfl G5.out B5.out)
    ·have hs1:=jA hq
     have HF2:=aA (zmd HX.out HF.out hq);clear hq;go_wp2_with fail
     go_roundw
     case rel=>exact ⟨k+1,by omega,by go_num,HF2,aA (aB HW.out (aC wr _))⟩
     case measure=>simp[intOf];omega
   ·have HFE:=aA (zkg (by omega) HF.out)
    have HCC:=aA (show dK es p=4∧lS es p=[] from by
     have h0:dK es p=4:=by rw[HC.out,HFE.out];rfl
     exact ⟨h0,by rw[lS,if_neg (by rw[h0];decide)]⟩)
    obtain ⟨⟨t0,t1⟩,t2,t3⟩:=X1.out.below HW.out;go_wp2_with fail
    exact bodyPost_ret (v:=.agg #[.int .i64 4,.slice none 0 0]) (by simp[results,Tryz.results149,go_sem,t0,t1]) rfl (by rw[HCC.out.1,HCC.out.2];exact eV.bad (Nat.le_refl _) (aB B1.out HW.out))
 ·have HCC:=aA (show dK es p=mZ es p∧lS es p=[] from by
   have h0:dK es p=mZ es p:=by simp[dK,hz]
   exact ⟨h0,by rw[lS,if_neg (by rw[h0];exact hz)]⟩)
  generalize mZ es p=F at *;have hz2:(F != 0)=true:=by simp;exact hz
  clear hz;obtain ⟨⟨t0,t1⟩,t2,t3⟩:=X1.out;go_wp2_with fail
  exact bodyPost_ret (v:=.agg #[.int .i64 F,.slice none 0 0]) (by simp[results,Tryz.results149,go_sem,t0,t1]) rfl (by rw[HCC.out.1,HCC.out.2];exact eV.bad (Nat.le_refl _) B1.out)
def eF (p t:Bs):Bool:=decide (p=t)||fD p t
theorem oC (p t:Bs) (k z:Int) (a:Option Addr) (n c:Nat) (w:World) (hp:p.length≤1048576) :
  Calls Tryz.prog 152 #[.agg #[.int .i64 z,.slice a n c,.string (str p),.int .i64 k],.string (str t)] w fun r w'=>r=.returned (.bool (eF p t))∧Below w.heap.size w w':=by
 have HB:=aA (aC w (.cells #[.int .i64 z,.slice a n c,.string (str p),.int .i64 k] 88));by_cases h:p=t
 ·have hs1:=gS h
  have HE:=aA (show eF p t=true from by simp[eF,h])
  clear h;generalize eF p t=Z at HE ⊢;go_enter Tryz.func152,Tryz.ntmps152;go_wp2_with fail
  go_ret
  exact ⟨bQ HE.out.symm,HB.out⟩
 ·have hs1:=jA h
  have HE:=aA (show eF p t=fD p t from by simp[eF,h])
  clear h;generalize eF p t=Z at HE ⊢;go_enter Tryz.func152,Tryz.ntmps152;go_wp2_with fail
  refine (sE _ _ _ (by rw[aK];omega)).mono ?_
  rintro r w1 ⟨rfl,hb1⟩;rw[aT,aT,←HE.out];have HB1:=aA (aB HB.out hb1);clear hb1 HE;go_wp2_with fail
  cases Z
  ·go_ret
   exact ⟨rfl,HB1.out⟩
  ·go_ret
   exact ⟨rfl,HB1.out⟩
def jU (e x:En):Bool:=if bZ e.kind then decide (x.path=e.path) else eF x.path e.path
theorem zuh (e x:En) (a b:Option Addr) (n m c d:Nat) (w:World) (hx:x.path.length≤1048576) :
  Calls Tryz.prog 231 #[.agg #[.int .i64 e.size,.slice a n c,.string (str e.path),.int .i64 e.kind],.agg #[.int .i64 x.size,.slice b m d,.string (str x.path),.int .i64 x.kind]] w fun r w'=>r=.returned (.bool (jU e x))∧Below w.heap.size w w':=by
 have HB:=aA (aB (aC w (.cells #[.int .i64 e.size,.slice a n c,.string (str e.path),.int .i64 e.kind] 88)) (aC _ (.cells #[.int .i64 x.size,.slice b m d,.string (str x.path),.int .i64 x.kind] 88)));have F1:=aA ((cI.new w (.int .i64 e.size) (.slice a n c) (.string (str e.path)) (.int .i64 e.kind) 88).below (aC _ (.cells #[.int .i64 x.size,.slice b m d,.string (str x.path),.int .i64 x.kind] 88)));have F2:=aA (cI.new (w.alloc (.cells #[.int .i64 e.size,.slice a n c,.string (str e.path),.int .i64 e.kind] 88)) (.int .i64 x.size) (.slice b m d) (.string (str x.path)) (.int .i64 x.kind) 88)
 have h1:(w.alloc (.cells #[.int .i64 e.size,.slice a n c,.string (str e.path),.int .i64 e.kind] 88)).heap.size=w.heap.size+1:=by simp
 rw[h1]at F2;clear h1;cases hd:bZ e.kind
 ·have HE:=aA (show jU e x=eF x.path e.path from by simp[jU,hd])
  have HD:=aA hd;clear hd;generalize jU e x=Z at HE ⊢;go_enter Tryz.func231,Tryz.ntmps231;go_wp2_with fail
  refine (lV _ _ _ _ _ _ _).mono ?_;rintro r w1 ⟨rfl,hb1⟩;rw[HD.out];obtain ⟨p0,p1,p2,p3⟩:=F1.out.below hb1;obtain ⟨q0,q1,q2,q3⟩:=F2.out.below hb1;have HB1:=aA (aB HB.out hb1);clear hb1;go_wp2_with fail
  refine (oC _ _ _ _ _ _ _ _ hx).mono ?_;rintro r w2 ⟨rfl,hb2⟩;have HB2:=aA (aB HB1.out hb2);clear hb2;go_wp2_with fail
  go_ret
  exact ⟨bQ HE.out.symm,HB2.out⟩
 ·have HD:=aA hd
  by_cases h:x.path=e.path
  ·have hs1:=gS h
   have HE:=aA (show jU e x=true from by simp[jU,hd,h])
   clear h hd;generalize jU e x=Z at HE ⊢;go_enter Tryz.func231,Tryz.ntmps231;go_wp2_with fail
   refine (lV _ _ _ _ _ _ _).mono ?_;rintro r w1 ⟨rfl,hb1⟩;rw[HD.out];obtain ⟨p0,p1,p2,p3⟩:=F1.out.below hb1;obtain ⟨q0,q1,q2,q3⟩:=F2.out.below hb1;have HB1:=aA (aB HB.out hb1);clear hb1;go_wp2_with fail
   go_ret
   exact ⟨bQ HE.out.symm,HB1.out⟩
  ·have hs1:=jA h
   have HE:=aA (show jU e x=false from by simp[jU,hd,h])
   clear h hd;generalize jU e x=Z at HE ⊢;go_enter Tryz.func231,Tryz.ntmps231;go_wp2_with fail
   refine (lV _ _ _ _ _ _ _).mono ?_;rintro r w1 ⟨rfl,hb1⟩;rw[HD.out];obtain ⟨p0,p1,p2,p3⟩:=F1.out.below hb1;obtain ⟨q0,q1,q2,q3⟩:=F2.out.below hb1;have HB1:=aA (aB HB.out hb1);clear hb1;go_wp2_with fail
   go_ret
   exact ⟨bQ HE.out.symm,HB1.out⟩
def fA (es:List En) (p:Bs):List En:=es.filter fun e=>!(eF e.path p)
def lR (es:List En) (p:Bs):List En:=if mZ es p=0 then fA es p else []
theorem zdl {es:List En} {p:Bs} {k:Nat} {e:En} (he:es[k]?=some e) (h:eF e.path p=false):fA (es.take (k+1)) p=fA (es.take k) p ++ [e]:=by
 rw[bY he];simp[fA,h]
theorem zbi {es:List En} {p:Bs} {k:Nat} {e:En} (he:es[k]?=some e) (h:eF e.path p=true):fA (es.take (k+1)) p=fA (es.take k) p:=by
 rw[bY he];simp[fA,h]
theorem xM (es:List En) (p:Bs):(fA es p).length≤es.length:=List.length_filter_le _ _
theorem znb {es:List En} (h:aV es) (p:Bs):aV (fA es p):=fun e he=>h e (List.mem_filter.1 he).1
theorem yS (a:Option Addr) (c n:Nat) (es:List En) (p:Bs) (w:World) (h:RdE w a es) (hn:n=es.length) (hl:es.length≤1048576) (hs:aV es) (hp:p.length≤1048576) :
  Calls Tryz.prog 111 #[.slice a n c,.string (str p)] w (eV (mZ es p) (lR es p) w):=by
 subst hn;obtain ⟨i1,ki,kz0,kz1,kz2⟩:=info_parts Tryz.infoIt;have X0:=aA (Box.new w (.int .i64 0) (.slice none 0 0) 131);have B0:=aA (aC w (.cells #[.int .i64 0,.slice none 0 0] 131));have HR:=aA h;have HS:=aA hs;clear h hs;go_enter Tryz.func111,Tryz.ntmps111;go_wp2_with fail
 refine (zP a c es.length es p _ (HR.out.below B0.out) rfl hl HS.out hp).mono ?_;rintro r w1 ⟨rfl,hb1⟩;have B1:=aA (aB B0.out hb1);have X1:=aA (X0.out.below hb1);clear hb1 X0 B0;by_cases hz:mZ es p=0
 ·have HCC:=aA (show mZ es p=0∧lR es p=fA es p from ⟨hz,by rw[lR,if_pos hz]⟩)
  rw[hz];clear hz;have hb0:w.heap.size<w1.heap.size:=X1.out.1.lt;have HR1:=aA (HR.out.below B1.out);go_wp2_with fail
  go_loopw [6,19] (fun v i wr=>∃ k:Nat,k≤es.length∧i=.int .i64 k∧Hid (LI w1 wr v (fA (es.take k) p))∧Hid (Below w1.heap.size w1 wr)) (fun _ i _=>es.length - (intOf i).toNat)
  case atStart=>exact ⟨0,Nat.zero_le _,rfl,aA (LI.nil _ _),aA (Below.refl _ _)⟩
  case round =>
   obtain ⟨k,hk,rfl,HL,HW⟩:=hrel;have hsz:=HW.out.size;obtain ⟨lv,lc,hv⟩:=HL.out.shape;subst hv;have hrl:=xM (es.take k) p;rw[List.length_take]at hrl;by_cases hlt:k<es.length
   ·obtain ⟨b,off,e,x,cc,rfl,hb,he,c0,c1,c2,c3,hr⟩:=(HR1.out.below HW.out).at hlt
    obtain ⟨b',off',e',x',cc',hbb,hb',he',d0,d1,d2,d3,hr'⟩:=HR1.out.at hlt;simp only[Option.some.injEq,Addr.mk.injEq,and_true]at hbb;obtain ⟨rfl,rfl⟩:=hbb;have:e'=e:=Option.some.inj (he'.symm.trans he);subst this;have d3':=(HW.out.cell (p:=⟨b,off+k * 4+3,none⟩) hb').trans d3;rw[c3]at d3';simp only[Option.some.injEq,Value.slice.injEq,true_and]at d3';obtain ⟨rfl,rfl⟩:=d3';have hsm:=HS.out e' (List.mem_of_getElem? he);have HX:=aA he;have HRc:=aA hr';clear he hr hr' he' d0 d1 d2 d3;have BA:=aA (aC wr (.cells #[.string (str e'.path),.int .i64 e'.kind,.int .i64 e'.size,.slice x e'.chunks.length cc] 50))
    go_wp2_with fail
    refine (fY _ _ _ _ _ _ _).mono ?_;rintro r w3 ⟨rfl,hb3⟩;have F4:=aA (cI.new w3 (.int .i64 e'.size) (.slice x e'.chunks.length cc) (.string (str e'.path)) (.int .i64 e'.kind) 88);have BB4:=aA (aB (aB BA.out hb3) (aC w3 (.cells #[.int .i64 e'.size,.slice x e'.chunks.length cc,.string (str e'.path),.int .i64 e'.kind] 88)));clear hb3 c0 c1 c2 c3 BA;go_wp2_with fail
    generalize w3.alloc (.cells #[.int .i64 e'.size,.slice x e'.chunks.length cc,.string (str e'.path),.int .i64 e'.kind] 88)=W4 at *;generalize w3.heap.size=b4 at *;refine (oC _ _ _ _ _ _ _ _ hsm.1).mono ?_;rintro r w5 ⟨rfl,hb5⟩;have BB5:=aA (aB BB4.out hb5);obtain ⟨f0,f1,f2,f3⟩:=F4.out.below hb5;clear hb5 F4 BB4;cases hq:eF e'.path p
    ·have HN:=aA (zdl HX.out hq)
     clear hq;obtain ⟨rs,g1,g2,g3⟩:=HL.out;have G1:=aA g1;have G2:=aA (aI g2 BB5.out);have G3:=aA g3;clear g1 g2 g3;obtain ⟨L,hL⟩:∃ L,L=(fA (es.take k) p).length:=⟨_,rfl⟩;rw[←hL]at hrl G2 ⊢;have HLn:=aA hL;clear hL;have hm1:L+1≤maxLen:=by unfold maxLen;omega
     have hm1':(L+1) * 56≤140737488355328:=by omega
     have hsz5:=BB5.out.size;go_wp2_with (at_builtin;refine dB rfl (.tmp 29) (.tmp 31) 115 rfl w1.heap.size 88 i1 (.agg #[.int .i64 0,.slice none 0 0,.string ⟨#[]⟩,.int .i64 0]) 4 56 Tryz.underlying115 ki kz0 kz1 kz2 rfl (by decide) _ _ _ rfl G2.out _ rfl rfl rfl (by intro u hu;simp at hu;rcases hu with rfl | rfl | rfl | rfl <;> rfl) hm1 hm1' (by omega) ?_;intro av6 cv6 w6 hown6 hk6;have O6:=aA hown6;have K6:=aA hk6;clear hown6 hk6)
     go_roundw
     case rel =>
      refine ⟨k+1,by omega,by go_num,aA ?_,aA ?_⟩
      ·rw[HN.out]
       exact LI.push (e:=e') (a:=x) (c:=cc) G1.out HLn.out G3.out HRc.out O6.out
      ·exact (aB HW.out BB5.out).trans (K6.out.below (by omega) (fun q hq hS=>by have:=(G2.out.lt q hS).1;omega))
     case measure=>simp[intOf];omega
    ·have HN:=aA (zbi HX.out hq)
     clear hq;go_wp2_with fail
     go_roundw
     case rel=>exact ⟨k+1,by omega,by go_num,aA (by rw[HN.out];exact HL.out.below BB5.out),aA (aB HW.out BB5.out)⟩
     case measure=>simp[intOf];omega
   ·have HE:=aA (show es.take k=es from List.take_of_length_le (by omega))
    rw[HE.out]at HL ⊢;have RI:=aA (HL.out.rd HW.out);have HSr:=aA (znb HS.out p);have hrl2:=xM es p;clear HE;go_wp2_with fail
    refine (jO _ _ _ (fA es p) _ RI.out rfl (by omega) HSr.out).mono ?_
    rintro r w5 ⟨av5,cv5,rfl,hG5,hb5⟩;have BB5:=aA (aB HW.out hb5);obtain ⟨⟨t0,t1⟩,t2,t3⟩:=X1.out.below BB5.out;have G5:=aA hG5;have B5:=aA (aB B1.out BB5.out);clear hG5 hb5;go_wp2_with fail
    exact bodyPost_ret (v:=.agg #[.int .i64 0,.slice av5 (fA es p).length cv5]) (by simp[results,Tryz.results111,go_sem,t0,t1]) rfl (by rw[HCC.out.1,HCC.out.2];exact eV.of (w2:=w1) (by omega) (Nat.le_refl _) rfl G5.out B5.out)
 ·have HCC:=aA (show lR es p=[] from by rw[lR,if_neg hz])
  generalize mZ es p=F at *;have hz2:(F != 0)=true:=by simp;exact hz
  clear hz;obtain ⟨⟨t0,t1⟩,t2,t3⟩:=X1.out;go_wp2_with fail
  exact bodyPost_ret (v:=.agg #[.int .i64 F,.slice none 0 0]) (by simp[results,Tryz.results111,go_sem,t0,t1]) rfl (by rw[HCC.out];exact eV.bad (Nat.le_refl _) B1.out)
end Go.Proofs.YtolnlfnndnpiiaaGreat
namespace Go.Proofs.YtolnlfnndnpiiaaGreat
open Go.RowKit Go.Maps
def eI (es:List En) (e:En):Int :=
 if cJ es=0 then (if aH e=0 then (if eU es e.path then (if 12<(dC es e).length then 2 else 0) else 9) else aH e) else cJ es
def gR (es:List En) (e:En):List En:=if eI es e=0 then dC es e else []
theorem zg1 (a:Option Addr) (c n:Nat) (es:List En) (e:En) (x:Option Addr) (m cc:Nat) (w:World) (h:RdE w a es) (hn:n=es.length) (hl:es.length<1048576) (hs:aV es) (hm:m=e.chunks.length) (hr:aP .i64 w x e.chunks) (hp:e.path.length≤1048576) (hcl:e.chunks.length≤1048576) :
  Calls Tryz.prog 189 #[.slice a n c,.agg #[.string (str e.path),.int .i64 e.kind,.int .i64 e.size,.slice x m cc]] w (eV (eI es e) (gR es e) w):=by
 subst hn;subst hm;have HF:=aA (fun u hb=>mP a c es.length es u (h.below hb) rfl (by omega) hs)
 have HEf:=aA (fun u (hb:Below w.heap.size w u)=>mC e x cc e.chunks.length u (hr.below hb) rfl hp hcl)
 have HHo:=aA (fun u hb h1=>uT a c es.length es e.path u (h.below hb) rfl (by omega) h1 hp)
 have HPu:=aA (fun u hb=>pZ a c es.length es e x e.chunks.length cc u (h.below hb) rfl hl hs rfl (hr.below hb) hp hcl)
 clear h hs hr;go_enter Tryz.func189,Tryz.ntmps189;go_wp2_with fail
 have B0:=aA (aB (aC w (.cells #[.string (str e.path),.int .i64 e.kind,.int .i64 e.size,.slice x e.chunks.length cc] 50)) (aC _ (.cells #[.int .i64 0,.slice none 0 0] 131)));have F0:=aA ((cI.new w (.string (str e.path)) (.int .i64 e.kind) (.int .i64 e.size) (.slice x e.chunks.length cc) 50).below (aC _ (.cells #[.int .i64 0,.slice none 0 0] 131)));have X0:=aA (Box.new (w.alloc (.cells #[.string (str e.path),.int .i64 e.kind,.int .i64 e.size,.slice x e.chunks.length cc] 50)) (.int .i64 0) (.slice none 0 0) 131);have hsz0:(w.alloc (.cells #[.string (str e.path),.int .i64 e.kind,.int .i64 e.size,.slice x e.chunks.length cc] 50)).heap.size=w.heap.size+1:=by simp
 rw[hsz0]at X0;clear hsz0;generalize (w.alloc (.cells #[.string (str e.path),.int .i64 e.kind,.int .i64 e.size,.slice x e.chunks.length cc] 50)).alloc (.cells #[.int .i64 0,.slice none 0 0] 131)=w0 at *;have hrb:w.heap.size≤w.heap.size+1:=Nat.le_succ _;generalize hbk:w.heap.size+1=rb at *;have HRB:=aA hrb;clear hrb hbk;refine (HF.out _ B0.out).mono ?_;rintro r w1 ⟨rfl,hb1⟩;have B1:=aA (aB B0.out hb1);have F1:=aA (F0.out.below hb1);have X1:=aA (X0.out.below hb1);clear hb1 B0 F0 X0 HF;by_cases hz:cJ es=0
 ·rw[hz]
  obtain ⟨f0,f1,f2,f3⟩:=F1.out;go_wp2_with fail
  refine (HEf.out _ B1.out).mono ?_;rintro r w2 ⟨rfl,hb2⟩;have B2:=aA (aB B1.out hb2);have X2:=aA (X1.out.below hb2);have F2:=aA (F1.out.below hb2);clear hb2 f0 f1 f2 f3 F1 X1 B1 HEf;by_cases he:aH e=0
  ·rw[he]
   have hpos:=vB (bM he);obtain ⟨f0,f1,f2,f3⟩:=F2.out;go_wp2_with fail
   refine (HHo.out _ B2.out hpos).mono ?_;rintro r w3 ⟨rfl,hb3⟩;have B3:=aA (aB B2.out hb3);have X3:=aA (X2.out.below hb3);have F3:=aA (F2.out.below hb3);clear hb3 f0 f1 f2 f3 F2 X2 B2 HHo;cases hh:eU es e.path
   ·have HC:=aA (show eI es e=9∧gR es e=[] from by
     have:eI es e=9:=by simp[eI,hz,he,hh]
     exact ⟨this,by simp[gR,this]⟩)
    clear hh hz he;obtain ⟨⟨t0,t1⟩,t2,t3⟩:=X3.out;go_wp2_with fail
    exact bodyPost_ret (v:=.agg #[.int .i64 9,.slice none 0 0]) (by simp[results,Tryz.results189,go_sem,t0,t1]) rfl (by rw[HC.out.1,HC.out.2];exact eV.bad HRB.out B3.out)
   ·have HC0:=aA (show eI es e=(if 12<(dC es e).length then 2 else 0) from by simp[eI,hz,he,hh])
    clear hh hz he;obtain ⟨f0,f1,f2,f3⟩:=F3.out;go_wp2_with fail
    refine (HPu.out _ B3.out).mono ?_;rintro r w4 ⟨g,cv,rfl,hG,hb4⟩;have hlt0:=X3.out.1.lt;have B4:=aA (aB B3.out hb4);obtain ⟨⟨t0,t1⟩,t2,t3⟩:=X3.out.below hb4;have GG:=aA hG;clear hG hb4 f0 f1 f2 f3 F3 X3 HPu;by_cases hq:12<(dC es e).length
    ·have HC:=aA (show eI es e=2∧gR es e=[] from by
      have:eI es e=2:=by rw[HC0.out,if_pos hq]
      exact ⟨this,by simp[gR,this]⟩)
     have hq2:(12:Int)<((dC es e).length:Int):=by omega
     go_wp2_with fail
     exact bodyPost_ret (v:=.agg #[.int .i64 2,.slice none 0 0]) (by simp[results,Tryz.results189,go_sem,t0,t1]) rfl (by rw[HC.out.1,HC.out.2];exact eV.bad HRB.out B4.out)
    ·have HC:=aA (show eI es e=0∧gR es e=dC es e from by
      have:eI es e=0:=by rw[HC0.out,if_neg hq]
      exact ⟨this,by simp[gR,this]⟩)
     have hq2:¬ (12:Int)<((dC es e).length:Int):=by omega
     go_wp2_with fail
     exact bodyPost_ret (v:=.agg #[.int .i64 0,.slice (some ⟨g,0,none⟩) (dC es e).length cv]) (by simp[results,Tryz.results189,go_sem,t0,t1]) rfl (by rw[HC.out.1,HC.out.2];exact eV.of (w2:=w3) hlt0 HRB.out rfl GG.out B4.out)
  ·have HC:=aA (show eI es e=aH e∧gR es e=[] from by
    have:eI es e=aH e:=by simp[eI,hz,he]
    exact ⟨this,by simp[gR,this,he]⟩)
   generalize aH e=F at *;have hz2:(F != 0)=true:=by simp;exact he
   clear he hz;obtain ⟨⟨t0,t1⟩,t2,t3⟩:=X2.out;go_wp2_with fail
   exact bodyPost_ret (v:=.agg #[.int .i64 F,.slice none 0 0]) (by simp[results,Tryz.results189,go_sem,t0,t1]) rfl (by rw[HC.out.1,HC.out.2];exact eV.bad HRB.out B2.out)
 ·have HC:=aA (show eI es e=cJ es∧gR es e=[] from by
   have:eI es e=cJ es:=by simp[eI,hz]
   exact ⟨this,by simp[gR,this,hz]⟩)
  generalize cJ es=F at *;have hz2:(F != 0)=true:=by simp;exact hz
  clear hz;obtain ⟨⟨t0,t1⟩,t2,t3⟩:=X1.out;go_wp2_with fail
  exact bodyPost_ret (v:=.agg #[.int .i64 F,.slice none 0 0]) (by simp[results,Tryz.results189,go_sem,t0,t1]) rfl (by rw[HC.out.1,HC.out.2];exact eV.bad HRB.out B1.out)
end Go.Proofs.YtolnlfnndnpiiaaGreat
namespace Go.Proofs.YtolnlfnndnpiiaaGreat
theorem gC:∀ a:Bs,Op.bytesLess a a=false
 | []=>rfl
 | c :: a=>by simp[Op.bytesLess,gC a]
theorem gI:∀ a b c:Bs,Op.bytesLess a b=true→Op.bytesLess b c=true→Op.bytesLess a c=true
 | a,[],c,h,_=>by cases a <;> simp[Op.bytesLess]at h
 | [],b :: bs,[],_,h2=>by simp[Op.bytesLess]at h2
 | [],b :: bs,c :: cs,_,_=>by simp[Op.bytesLess]
 | a :: xs,b :: ys,[],_,h2=>by simp[Op.bytesLess]at h2
 | a :: xs,b :: ys,c :: zs,h1,h2=>by
  simp only[Op.bytesLess,Bool.or_eq_true,decide_eq_true_eq,Bool.and_eq_true,beq_iff_eq]at h1 h2 ⊢;rcases h1 with h1 | ⟨rfl,h1⟩
  ·rcases h2 with h2 | ⟨rfl,h2⟩
   ·exact .inl (UInt8.lt_trans h1 h2)
   ·exact .inl h1
  ·rcases h2 with h2 | ⟨rfl,h2⟩
   ·exact .inl h2
   ·exact .inr ⟨rfl,gI xs ys zs h1 h2⟩
theorem fR:∀ a b:Bs,Op.bytesLess a b=false→a≠b→Op.bytesLess b a=true
 | [],[],_,h=>absurd rfl h
 | [],b :: bs,h,_=>by simp[Op.bytesLess]at h
 | a :: xs,[],_,_=>by simp[Op.bytesLess]
 | a :: xs,b :: ys,h,hn=>by
  simp only[Op.bytesLess,Bool.or_eq_false_iff,decide_eq_false_iff_not,Bool.and_eq_false_iff,beq_eq_false_iff_ne]at h;simp only[Op.bytesLess,Bool.or_eq_true,decide_eq_true_eq,Bool.and_eq_true,beq_iff_eq];by_cases e:a=b
  ·subst e
   refine .inr ⟨rfl,fR xs ys ?_ (fun x=>hn (by rw[x]))⟩
   rcases h.2 with h2 | h2
   ·exact absurd rfl h2
   ·exact h2
  ·refine .inl ?_
   have h1:=h.1;rw[UInt8.lt_iff_toNat_lt]at h1 ⊢;have:a.toNat≠b.toNat:=fun x=>e (UInt8.toNat_inj.1 x)
   omega
theorem iB {a b:Bs} (h:Op.bytesLess a b=true):Op.bytesLess b a=false:=by
 cases h2:Op.bytesLess b a
 ·rfl
 ·have:=gI a b a h h2
  rw[gC]at this;cases this
theorem jL {a b:Bs} (h:Op.bytesLess a b=true):a≠b:=fun e=>by rw[e,gC]at h;cases h
def dY (es:List En):Prop:=es.Pairwise fun x y=>Op.bytesLess x.path y.path=true
theorem zn4 {q e:En} (h:iP (some q) e=false):Op.bytesLess q.path e.path=true:=by
 simp only[iP,Bool.or_eq_false_iff,beq_eq_false_iff_ne]at h;exact fR _ _ h.1 h.2
theorem zum {q e:En} (h:Op.bytesLess q.path e.path=true):iP (some q) e=false:=by
 simp only[iP,Bool.or_eq_false_iff,beq_eq_false_iff_ne];exact ⟨iB h,fun x=>jL h x.symm⟩
theorem mW {H:Bs→Bool}:∀ {l:List En} {prev:Option En},cP H prev l=0↔(∀ e∈l,aH e=0∧H e.path=true)∧dY l∧∀ q,prev=some q→∀ e∈l,Op.bytesLess q.path e.path=true
 | [],prev=>by simp[cP,dY]
 | x :: r,prev=>by
  have ih:=mW (H:=H) (l:=r) (prev:=some x);have hx:dT H prev x=0↔aH x=0∧iP prev x=false∧H x.path=true:=by
   unfold dT;by_cases h1:aH x=0
   ·simp only[h1,if_true,true_and]
    cases h2:iP prev x
    ·cases h3:H x.path <;> simp
    ·simp
   ·simp[h1]
  simp only[cP];by_cases hb:dT H prev x=0
  ·rw[if_pos hb,ih]
   obtain ⟨h1,h2,h3⟩:=hx.1 hb;constructor
   ·rintro ⟨a1,a2,a3⟩
    refine ⟨fun e he=>?_,List.pairwise_cons.2 ⟨fun e he=>a3 x rfl e he,a2⟩,fun q hq e he=>?_⟩
    ·rcases List.mem_cons.1 he with rfl | he
     ·exact ⟨h1,h3⟩
     ·exact a1 e he
    ·subst hq
     have:=zn4 h2;rcases List.mem_cons.1 he with rfl | he
     ·exact this
     ·exact gI _ _ _ this (a3 x rfl e he)
   ·rintro ⟨a1,a2,a3⟩
    refine ⟨fun e he=>a1 e (List.mem_cons_of_mem _ he),(List.pairwise_cons.1 a2).2,fun q hq e he=>?_⟩
    cases hq
    exact (List.pairwise_cons.1 a2).1 e he
  ·rw[if_neg hb]
   constructor
   ·intro h;exact absurd h hb
   ·rintro ⟨a1,a2,a3⟩
    exfalso
    refine hb (hx.2 ⟨(a1 x List.mem_cons_self).1,?_,(a1 x List.mem_cons_self).2⟩);cases prev with
    | none=>rfl
    | some q=>exact zum (a3 q rfl x List.mem_cons_self)
theorem eN {es:List En} (h:dY es) {e:En} (he:e∈es):aG es e.path=some e:=by
 induction es with
 | nil=>simp at he
 | cons x r ih =>
  have hp:=List.pairwise_cons.1 h;rcases List.mem_cons.1 he with rfl | he
  ·simp[aG]
  ·have:=hp.1 e he
   rw[aG,List.find?_cons];have hn:x.path≠e.path:=jL this;simp only[hn,decide_false];exact ih hp.2 he
theorem eZ {es:List En} {p:Bs} {e:En} (h:aG es p=some e):e∈es∧e.path=p:=by
 refine ⟨List.mem_of_find?_eq_some h,?_⟩
 have:=List.find?_some h;simpa using this
theorem jR {es:List En} {p:Bs} (h:∀ e∈es,e.path≠p):aG es p=none:=by
 rw[aG,List.find?_eq_none];intro e he;simpa using h e he
theorem eM {es:List En} {p:Bs}:cR es p=true↔aE p=[]∨∃ d∈es,d.path=aE p∧bZ d.kind=true:=by
 unfold cR dL;by_cases h:aE p=[]
 ·simp[h]
 ·simp[h]
theorem nB {es:List En} (h:dY es) (p:Bs):cR es p=eU es p:=by
 unfold cR eU;by_cases h0:aE p=[]
 ·simp[h0]
 ·rw[if_neg h0,if_neg h0]
  cases hf:aG es (aE p) with
  | none =>
   rw[dL,List.any_eq_false];intro x hx;have:=List.find?_eq_none.1 hf x hx;simp only[decide_eq_true_eq]at this;simp[this]
  | some d =>
   obtain ⟨hd,hdp⟩:=eZ hf;cases hk:bZ d.kind
   ·show dL es (aE p)=bZ d.kind
    rw[hk,dL,List.any_eq_false];intro x hx;by_cases hxp:x.path=aE p
    ·have:=eN h hx
     rw[hxp,hf]at this;cases this
     simp[hk]
    ·simp[hxp]
   ·show dL es (aE p)=bZ d.kind
    rw[hk,dL,List.any_eq_true];exact ⟨d,hd,by simp[hdp,hk]⟩
structure aU (es:List En):Prop where
 len:es.length≤12
 ent:∀ e∈es,aH e=0
 rise:dY es
 home:∀ e∈es,cR es e.path=true
theorem eX {es:List En}:aR es=0↔aU es:=by
 unfold aR;by_cases h:12<es.length
 ·rw[if_pos h]
  exact ⟨fun x=>(by cases x),fun x=>(by have:=x.len;omega)⟩
 ·rw[if_neg h,mW]
  exact ⟨fun ⟨a,b,_⟩=>⟨by omega,fun e he=>(a e he).1,b,fun e he=>(a e he).2⟩,fun x=>⟨fun e he=>⟨x.ent e he,x.home e he⟩,x.rise,fun q hq=>by cases hq⟩⟩
theorem oZ {H H':Bs→Bool}:∀ {l:List En} {prev:Option En},(∀ e∈l,aH e=0→H e.path=H' e.path)→cP H prev l=cP H' prev l
 | [],_,_=>rfl
 | x :: r,prev,h=>by
  have hx:dT H prev x=dT H' prev x:=by
   unfold dT;by_cases h1:aH x=0
   ·rw[h x List.mem_cons_self h1]
   ·simp[h1]
  simp only[cP];rw[hx,oZ (l:=r) (prev:=some x) (fun e he=>h e (List.mem_cons_of_mem _ he))]
theorem tW {es:List En}:cJ es=0↔aU es:=by
 unfold cJ;by_cases h:12<es.length
 ·rw[if_pos h]
  exact ⟨fun x=>(by cases x),fun x=>(by have:=x.len;omega)⟩
 ·rw[if_neg h,xB,mW]
  exact ⟨fun ⟨a,b,_⟩=>⟨by omega,fun e he=>(a e he).1,b,fun e he=>by rw[nB b];exact (a e he).2⟩,fun x=>⟨fun e he=>⟨x.ent e he,by rw[←nB x.rise];exact x.home e he⟩,x.rise,fun q hq=>by cases hq⟩⟩
theorem nR {p t:Bs}:bD p t=true↔∃ r,r≠[]∧p=t++47 :: r:=by
 simp only[bD,Bool.and_eq_true,decide_eq_true_eq,beq_iff_eq];constructor
 ·rintro ⟨⟨hl,ht⟩,hh⟩
  cases e:p.drop t.length with
  | nil=>rw[e]at hh;simp at hh
  | cons c r =>
   rw[e]at hh;simp at hh
   subst hh;refine ⟨r,?_,?_⟩
   ·intro h0
    have:=congrArg List.length e;rw[List.length_drop,h0]at this;simp at this
    omega
   ·rw[←e]
    conv=>lhs;rw[←List.take_append_drop t.length p,ht]
 ·rintro ⟨r,hr,rfl⟩
  have:=List.length_pos_iff.2 hr;simp
  first | done | omega
theorem pE {p q t:Bs} (h1:bD p q=true) (h2:bD q t=true):bD p t=true:=by
 obtain ⟨r,hr,rfl⟩:=nR.1 h1;obtain ⟨s,hs,rfl⟩:=nR.1 h2;exact nR.2 ⟨s++47 :: r,by simp,by simp⟩
theorem dZ {p t:Bs} (h:bD p t=true):t.length<p.length:=by
 obtain ⟨r,hr,rfl⟩:=nR.1 h;simp
theorem cU {p:Bs} (hp:aF p=0) (h:aE p≠[]):aF (aE p)=0∧bD p (aE p)=true:=by
 have hm:aE p∈bR (aX p.tail):=by
  have hne:bR (aX p.tail)≠[]:=fun e=>h (kC.2 e)
  unfold aE;rw[List.getLastD_eq_getLast?,List.getLast?_eq_some_getLast hne];exact List.getLast_mem _
 exact (kO hp).1 hm
theorem oD {p t:Bs} (hp:aF p=0) (ht:aF t=0):fD p t=bD p t:=by
 rw[lU hp];cases h:bD p t <;> simp[ht]
theorem zpe {e x:En} (he:aF e.path=0) (hx:aF x.path=0):(!jU e x)=iS e x:=by
 unfold jU iS eF;rw[oD hx he];cases bZ e.kind <;> cases bD x.path e.path <;> by_cases h:x.path=e.path <;> simp[h]
theorem nK {bs:List En} {e x:En}:x∈dV bs e↔x=e∨x∈bs:=by
 have hb:x∈bs↔x∈bs.take (kM bs e.path)∨x∈bs.drop (kM bs e.path):=by
  conv=>lhs;rw[←List.take_append_drop (kM bs e.path) bs]
  exact List.mem_append
 unfold dV;rw[List.mem_append,List.mem_cons,hb];exact ⟨fun h=>h.elim (fun h=>.inr (.inl h)) (fun h=>h.elim .inl (fun h=>.inr (.inr h))),fun h=>h.elim (fun h=>.inr (.inl h)) (fun h=>h.elim .inl (fun h=>.inr (.inr h)))⟩
theorem jJ {es:List En} {e x:En}:x∈dC es e↔x=e∨(x∈es∧iS e x=true):=by
 rw[dC,nK,iH,List.mem_filter]
theorem zd8 {p:Bs}:∀ (bs:List En),∀ x∈bs.take (kM bs p),Op.bytesLess x.path p=true
 | [],x,hx=>by simp[kM]at hx
 | b :: bs,x,hx=>by
  unfold kM at hx;rw[List.takeWhile_cons]at hx;cases h:Op.bytesLess b.path p
  ·rw[h]at hx;simp at hx
  ·rw[h]at hx
   simp only[if_true,List.length_cons,List.take_succ_cons,List.mem_cons]at hx;rcases hx with rfl | hx
   ·exact h
   ·exact zd8 bs x hx
theorem zu0 {p:Bs}:∀ (bs:List En),dY bs→(∀ x∈bs,x.path≠p)→∀ x∈bs.drop (kM bs p),Op.bytesLess p x.path=true
 | [],_,_,x,hx=>by simp at hx
 | b :: bs,hr,hn,x,hx=>by
  unfold kM at hx;rw[List.takeWhile_cons]at hx;cases h:Op.bytesLess b.path p
  ·rw[h]at hx
   simp only[if_false,Bool.false_eq_true,List.length_nil,List.drop_zero]at hx;have hb:=fR _ _ h (hn b List.mem_cons_self);rcases List.mem_cons.1 hx with rfl | hx
   ·exact hb
   ·exact gI _ _ _ hb ((List.pairwise_cons.1 hr).1 x hx)
  ·rw[h]at hx
   simp only[if_true,List.length_cons,List.drop_succ_cons]at hx;exact zu0 bs (List.pairwise_cons.1 hr).2 (fun y hy=>hn y (List.mem_cons_of_mem _ hy)) x hx
theorem qX {bs:List En} {e:En} (h:dY bs) (hn:∀ x∈bs,x.path≠e.path):dY (dV bs e):=by
 unfold dV dY;rw[List.pairwise_append];refine ⟨h.sublist (List.take_sublist _ _),List.pairwise_cons.2 ⟨fun x hx=>zu0 bs h hn x hx,h.sublist (List.drop_sublist _ _)⟩,fun x hx y hy=>?_⟩
 have h1:=zd8 bs x hx;rcases List.mem_cons.1 hy with rfl | hy
 ·exact h1
 ·exact gI _ _ _ h1 (zu0 bs h hn y hy)
theorem qD {es:List En} {e:En} (h:dY es):dY (dC es e):=by
 refine qX (h.sublist List.filter_sublist) (fun x hx=>?_)
 have:=(List.mem_filter.1 hx).2;simp only[iS,Bool.and_eq_true,Bool.not_eq_true',decide_eq_false_iff_not]at this;exact this.1
theorem ze5 {es:List En} {e:En} (h:aU es) (he:aH e=0) (hh:cR es e.path=true) (hl:(dC es e).length≤12):aU (dC es e):=by
 have hpe:=bM he;refine ⟨hl,fun x hx=>?_,qD h.rise,fun x hx=>?_⟩
 ·rcases jJ.1 hx with rfl | ⟨hx,_⟩
  ·exact he
  ·exact h.ent x hx
 ·rw[eM]
  rcases jJ.1 hx with rfl | ⟨hx,hk⟩
  ·rcases eM.1 hh with h0 | ⟨d,hd,hdp,hdk⟩
   ·exact .inl h0
   ·by_cases h0:aE x.path=[]
    ·exact .inl h0
    ·have hb:=(cU hpe h0).2
     have hlen:=dZ hb;refine .inr ⟨d,jJ.2 (.inr ⟨hd,?_⟩),hdp,hdk⟩;have h1:d.path≠x.path:=fun e=>by rw[hdp]at e;rw[e]at hlen;omega
     have h2:bD d.path x.path=false:=by
      cases h3:bD d.path x.path
      ·rfl
      ·have:=dZ h3;rw[hdp]at this;omega
     simp[iS,h1,h2]
  ·have hpx:=bM (h.ent x hx)
   rcases eM.1 (h.home x hx) with h0 | ⟨d,hd,hdp,hdk⟩
   ·exact .inl h0
   ·by_cases h0:aE x.path=[]
    ·exact .inl h0
    ·have hb:=(cU hpx h0).2
     rw[←hdp]at hb;simp only[iS,Bool.and_eq_true,Bool.not_eq_true',decide_eq_false_iff_not,Bool.or_eq_true]at hk;by_cases hde:d.path=e.path
     ·rcases hk.2 with hk2 | hk2
      ·exact .inr ⟨e,jJ.2 (.inl rfl),by rw[←hde];exact hdp,hk2⟩
      ·rw[hde]at hb;rw[hb]at hk2;cases hk2
     ·refine .inr ⟨d,jJ.2 (.inr ⟨hd,?_⟩),hdp,hdk⟩
      simp only[iS,Bool.and_eq_true,Bool.not_eq_true',decide_eq_false_iff_not,Bool.or_eq_true];refine ⟨hde,hk.2.elim .inl (fun hk2=>.inr ?_)⟩
      cases h3:bD d.path e.path
      ·rfl
      ·rw[pE hb h3]at hk2;cases hk2
theorem zve {es:List En} {p:Bs} (h:aU es) (hp:aF p=0):aU (fA es p):=by
 refine ⟨Nat.le_trans (xM es p) h.len,fun x hx=>h.ent x (List.mem_filter.1 hx).1,h.rise.sublist List.filter_sublist,fun x hx=>?_⟩
 obtain ⟨hx,hk⟩:=List.mem_filter.1 hx;have hpx:=bM (h.ent x hx);rw[eM];rcases eM.1 (h.home x hx) with h0 | ⟨d,hd,hdp,hdk⟩
 ·exact .inl h0
 ·by_cases h0:aE x.path=[]
  ·exact .inl h0
  ·have hb:=(cU hpx h0).2
   rw[←hdp]at hb;have hpd:=bM (h.ent d hd);refine .inr ⟨d,List.mem_filter.2 ⟨hd,?_⟩,hdp,hdk⟩;simp only[eF,oD hpx hp,Bool.not_eq_true',Bool.or_eq_false_iff,decide_eq_false_iff_not]at hk;simp only[eF,oD hpd hp,Bool.not_eq_true',Bool.or_eq_false_iff,decide_eq_false_iff_not];refine ⟨fun e=>?_,?_⟩
   ·rw[e]at hb;rw[hb]at hk;exact absurd hk.2 (by simp)
   ·cases h3:bD d.path p
    ·rfl
    ·rw[pE hb h3]at hk;exact absurd hk.2 (by simp)
theorem zd5:aU []:=⟨by simp,fun e he=>by simp at he,List.Pairwise.nil,fun e he=>by simp at he⟩
def bU (es:List En) (e:En):Int :=
 if aR es=0 then (if aH e=0 then (if cR es e.path then (if 12<(dC es e).length then 2 else 0) else 9) else aH e) else aR es
def cK (es:List En) (e:En):List En:=if bU es e=0 then dC es e else []
theorem xJ {es:List En} {e:En} (h:bU es e=0):aU es∧aH e=0∧cR es e.path=true∧(dC es e).length≤12∧aU (dC es e):=by
 unfold bU at h;by_cases h1:aR es=0
 ·rw[if_pos h1]at h
  by_cases h2:aH e=0
  ·rw[if_pos h2]at h
   cases h3:cR es e.path
   ·rw[h3]at h;simp at h
   ·rw[h3]at h
    by_cases h4:12<(dC es e).length
    ·rw[if_pos rfl,if_pos h4]at h;cases h
    ·have hR:=eX.1 h1
     exact ⟨hR,h2,rfl,by omega,ze5 hR h2 h3 (by omega)⟩
  ·rw[if_neg h2]at h;exact absurd h h2
 ·rw[if_neg h1]at h;exact absurd h h1
def zg6 (es:List En):Prop:=aR es=cJ es
theorem zug {es:List En} (h:12<es.length):zg6 es:=by rw[zg6,tU h,vQ h]
theorem zmm {es:List En} (h:¬ 12<es.length) (hh:cP (cR es) none es=cP (eU es) none es):zg6 es:=by
 rw[zg6,aR,cJ,if_neg h,if_neg h,xB,hh]
theorem xI {p:Bs} (h:aF p=0) (h0:aE p≠[]):aE p≠p:=by
 have:=dZ (cU h h0).2;intro e;rw[e]at this;omega
end Go.Proofs.YtolnlfnndnpiiaaGreat
namespace Go.Proofs.YtolnlfnndnpiiaaGreat
open Go.RowKit
def zec (h z:Int):Int:=bits BinOp.xor IntKind.u32 h z * 16777619 % 4294967296
def fnv (zs:List Int):Int:=zs.foldl zec 2166136261
def nU (zs:List Int):Int:=wrap64 (bits BinOp.xor IntKind.u32 (fnv zs) ((zs.length:Int) * 65536 % 4294967296))
theorem zi7 {zs:List Int} {k:Nat} {z:Int} (hk:k<zs.length) (hz:zs.getD k 0=z):fnv (zs.take (k+1))=zec (fnv (zs.take k)) z:=by
 unfold fnv;rw[List.take_succ_eq_append_getElem hk,List.foldl_append];simp[List.getD_eq_getElem?_getD,hk]at hz
 simp[hz]
theorem zd1 (a:Option Addr) (cap:Nat) (zs:List Int) (w:World) (h:aP .u8 w a zs) (hu:U8 zs) (hl:zs.length≤1048576) :
  Calls Tryz.prog 250 #[.slice a zs.length cap] w fun e w'=>e=.returned (.int .i64 (nU zs))∧w'=w:=by
 go_enter Tryz.func250,Tryz.ntmps250;go_wp2
 go_loop [3,4] (fun h i=>∃ k:Nat,k≤zs.length∧i=.int .i64 k∧h=.int .u32 (fnv (zs.take k))) (fun _ i=>zs.length - (intOf i).toNat)
 case atStart=>exact ⟨0,Nat.zero_le _,rfl,rfl⟩
 case round =>
  obtain ⟨k,hk,rfl,rfl⟩:=hrel;generalize hx:fnv (zs.take k)=x;have HX:=aA hx;clear hx;by_cases hlt:k<zs.length
  ·obtain ⟨b,off,rfl,hb,hc⟩:=h (by intro e;simp[e]at hlt)
   have hz01:=hu.get k;have hc1:=hc k hlt;generalize hz:zs.getD k 0=z at hz01 hc1;have HZ:=aA hz;have HC:=aA hc;clear hc h hz;go_wp2
   go_round
   case rel=>exact ⟨k+1,by omega,by go_num,by rw[zi7 hlt HZ.out,HX.out];rfl⟩
   case measure=>simp[intOf];omega
  ·go_wp2
   go_ret
   exact ⟨aO (by unfold nU;rw[←HX.out,List.take_of_length_le (by omega)]),rfl⟩
theorem zk0 (a:Option Addr) (cap:Nat) (zs:List Int) (w:World) (h:aP .u8 w a zs) (hu:U8 zs) (hl:zs.length≤1048576) :
  Calls Tryz.prog 194 #[.slice a zs.length cap] w fun e w'=>e=.returned (.int .i64 (nU zs))∧w'=w:=by
 go_enter Tryz.func194,Tryz.ntmps194;go_wp2
 go_loop [3,5,8] (fun h _ i=>∃ k:Nat,k≤zs.length∧i=.int .i64 k∧h=.int .u32 (fnv (zs.take k))) (fun _ _ i=>zs.length - (intOf i).toNat)
 case atStart=>exact ⟨0,Nat.zero_le _,rfl,rfl⟩
 case round =>
  obtain ⟨k,hk,rfl,rfl⟩:=hrel;generalize hx:fnv (zs.take k)=x;have HX:=aA hx;clear hx;by_cases hlt:k<zs.length
  ·obtain ⟨b,off,rfl,hb,hc⟩:=h (by intro e;simp[e]at hlt)
   have hz01:=hu.get k;have hc1:=hc k hlt;generalize hz:zs.getD k 0=z at hz01 hc1;have HZ:=aA hz;have HC:=aA hc;clear hc h hz;go_wp2
   go_round
   case rel=>exact ⟨k+1,by omega,by go_num,by rw[zi7 hlt HZ.out,HX.out];rfl⟩
   case measure=>simp[intOf];omega
  ·go_wp2
   go_ret
   exact ⟨aO (by unfold nU;rw[←HX.out,List.take_of_length_le (by omega)]),rfl⟩
theorem zij (op:BinOp) (x y:Int):0≤bits op .u32 x y∧bits op .u32 x y<4294967296:=by
 unfold bits;simp only[IntKind.wrap_u32];omega
theorem wC (zs:List Int):0≤nU zs∧nU zs≤4294967295:=by
 have h:=zij .xor (fnv zs) ((zs.length:Int) * 65536 % 4294967296);unfold nU wrap64;omega
theorem zz0 {w:World} {B:Nat} {e:TypeId} {k:IntKind} {g n c:Nat} {zs:List Int} (h:w.ownsRow B e 1 (.slice (some ⟨g,0,none⟩) n c) n (zs.map (Value.int k))) (hn:n=zs.length):Own k w (some ⟨g,0,none⟩) zs:=by
 intro hz;have h0:0<n:=by rw[hn];exact List.length_pos_iff.2 hz
 refine ⟨g,0,rfl,(h.lt g rfl).2,fun i hi=>⟨?_,h.frozenAt _⟩⟩
 rw[Nat.zero_add,h.cellAt i (by omega)]
 simp[List.getD_eq_getElem?_getD,hi]
theorem eT.shape {B:Nat} {w:World} {v:Value} {P:Nat→List Int} {j:Nat} (h:eT B w v P j):∃ a c,v=.slice a j c:=by
 obtain ⟨A,C,h1,h2,h3⟩:=h;exact bH h1
def G2 (B T:Nat) (w:World) (v:Value) (P:Nat→List Int) (n:Nat):Prop :=
 ∃ A C:Nat→Nat,w.ownsRow B 22 1 v n ((List.range n).map fun i=>.slice (some ⟨A i,0,none⟩) (P i).length (C i)) ∧
  (∀ i,i<n→w.ownsRow B 5 1 (.slice (some ⟨A i,0,none⟩) (P i).length (C i)) (P i).length ((P i).map (Value.int .u8))) ∧
  (∀ i i',i<n→i'<n→A i=A i'→i=i')∧(∀ i,i<n→A i<T)∧∀ b,v.ownBlock=some b→b<T
theorem U8.piece {zs:List Int} (h:U8 zs) (i:Nat):U8 (dQ zs i):=fun z hz=>h z (List.mem_of_mem_drop (List.mem_of_mem_take hz))
theorem eT.at {B:Nat} {w:World} {a:Option Addr} {c:Nat} {P:Nat→List Int} {n j:Nat} (h:eT B w (.slice a n c) P n) (hj:j<n) :
  ∃ g x d,a=some ⟨g,0,none⟩∧w.cell? ⟨g,j,none⟩=some (.slice x (P j).length d)∧aP .u8 w x (P j):=by
 obtain ⟨A,C,h1,h2,h3⟩:=h;rcases h1.2 with ⟨_,h0⟩ | ⟨g,cap,cur,h',hb,hh,_⟩
 ·omega
 ·simp only[Value.slice.injEq,true_and]at h'
  obtain ⟨rfl,rfl⟩:=h';refine ⟨g,_,C j,rfl,?_,(zz0 (h2 j hj) rfl).reads⟩;rw[h1.cellAt j (by omega)]
  simp[hj]
def G1 (B T:Nat) (w:World) (v:Value) (ds:List Int):Prop :=
 w.ownsRow B 2 1 v ds.length (ds.map (Value.int .i64))∧∀ b,v.ownBlock=some b→b<T
def jY (zs:List Int) (j:Nat):List Int:=(List.range j).map fun i=>nU (dQ zs i)
theorem zda (zs:List Int) (j:Nat):(jY zs j).length=j:=by simp[jY]
theorem za4 (zs:List Int) (j:Nat):(jY zs (j+1)).map (Value.int .i64)=(jY zs j).map (Value.int .i64) ++ [.int .i64 (nU (dQ zs j))]:=by
 simp[jY,List.range_succ]
theorem eT.kept_own {B B':Nat} {w w':World} {v v':Value} {P:Nat→List Int} {n n' size:Nat} {e:TypeId} {xs:List Value} (h:eT B w v P n) (ho:w.ownsRow B' e size v' n' xs) (h1:e≠22) (h2:e≠5) (hk:aD (fun b=>v'.ownBlock=some b) w w'):eT B w' v P n:=by
 obtain ⟨A,C,k1,k2,k3⟩:=h;exact ⟨A,C,aL k1 hk (fun b hb hS=>cW ho k1 h1 hS hb),fun i hi=>aL (k2 i hi) hk (fun b hb hS=>cW ho (k2 i hi) h2 hS hb),k3⟩
theorem zv5 (a:Option Addr) (cap:Nat) (zs:List Int) (w:World) (h:aP .u8 w a zs) (hu:U8 zs) (hcap:zs.length≤cap) (hl:zs.length≤24) :
  Calls Tryz.prog 215 #[.slice a zs.length cap] w fun e w'=>∃ v,e=.returned v∧w'.ownsRow w.heap.size 2 1 v (cut zs).length ((jY zs (cut zs).length).map (Value.int .i64))∧Below w.heap.size w w':=by
 obtain ⟨i1,ki,kz0,kz1,kz2⟩:=info_parts Tryz.infoI64;have HR:=aA h;have HU:=aA hu;clear h hu;have hcl:(cut zs).length≤3:=by rw[iI];omega
 go_enter Tryz.func215,Tryz.ntmps215;go_wp2_with fail
 refine (zhh a cap zs _ (HR.out.below (aC _ _)) hcap (by omega)).mono ?_
 rintro e w1 ⟨pv,rfl,hG,hb1⟩;obtain ⟨pa,pc,rfl⟩:=hG.shape;generalize hN:(cut zs).length=N at *;have HN:=aA hN;clear hN;have O1:=aA (aI (World.ownsRow_made (base:=w.heap.size) (e:=2) (size:=1) w #[] 0 (Nat.le_refl _) (Nat.zero_le _) rfl) hb1);have HG:=aA (hG.mono (B':=w.heap.size) (by simp))
 have HB:=aA (aB (aC w (.cells #[] 2)) hb1);clear hG hb1;go_wp2_with fail
 go_loopw [3,5] (fun v i wr=>∃ j:Nat,j≤N∧i=.int .i64 j∧wr.ownsRow w.heap.size 2 1 v j ((jY zs j).map (Value.int .i64))∧eT w.heap.size wr (.slice pa N pc) (dQ zs) N∧Below w.heap.size w wr) (fun _ i _=>N - (intOf i).toNat)
 case atStart=>exact ⟨0,Nat.zero_le _,rfl,O1.out,HG.out,HB.out⟩
 case round =>
  obtain ⟨j,hj,rfl,hown,hG,hbel⟩:=hrel;by_cases hlt:j<N
  ·obtain ⟨g,x,d,rfl,hc0,hr0⟩:=hG.at hlt
   have hpl:(dQ zs j).length≤1048576:=by rw[eC];omega
   have hm1:j+1≤maxLen:=by unfold maxLen;omega
   have hm2:(j+1) * 8≤140737488355328:=by omega
   have hsz:=hbel.size;have HR0:=aA hr0;have HO:=aA hown;have HGj:=aA hG;have HBj:=aA hbel;clear hr0 hown hG hbel;go_wp2_with (first | (go_at_call 250;refine (zd1 _ _ (dQ zs j) _ HR0.out (HU.out.piece j) hpl).mono ?_;rintro e w1' ⟨rfl,rfl⟩) | (at_builtin;refine cS rfl (.tmp 15) (.tmp 21) 48 rfl w.heap.size 2 i1 (.int .i64 0) 1 8 Tryz.underlying48 ki kz0 kz1 kz2 rfl (by decide) _ _ _ rfl HO.out rfl rfl (by intro u hu;simp at hu;subst hu;rfl) hm1 hm2 hsz ?_;intro v' w2 hown2 hkept;have O2:=aA hown2;have K2:=aA hkept;clear hown2 hkept))
   go_roundw
   case rel=>exact ⟨j+1,by omega,by go_num,by rw[za4];exact O2.out,HGj.out.kept_own HO.out (by decide) (by decide) K2.out,aD.below_own HBj.out hsz HO.out K2.out⟩
   case measure=>simp[intOf];omega
  ·have hje:j=N:=by omega
   subst hje;go_wp2
   go_ret
   exact ⟨_,rfl,by rw[HN.out];exact hown,hbel⟩
theorem zl0 (a:Option Addr) (cap:Nat) (zs:List Int) (w:World) (hl:24<zs.length) (hl2:zs.length≤1048576) :
  Calls Tryz.prog 145 #[.slice a zs.length cap] w fun e w'=>e=.returned (.agg #[.int .i64 2,.slice none 0 0])∧Below w.heap.size w w':=by
 go_enter Tryz.func145,Tryz.ntmps145;go_wp2_with fail
 refine (zi0 a cap zs _ hl hl2).mono ?_;rintro e w1 ⟨rfl,hb1⟩;obtain ⟨⟨q0,q1⟩,q2,q3⟩:=(Box.new w (.int .i64 0) (.slice none 0 0) 160).below hb1;have n1:w.heap.size<w1.heap.size:=by have:=hb1.size;simp at this;omega
 have HB:=aA (aB (aC w (.cells #[.int .i64 0,.slice none 0 0] 160)) hb1);clear hb1;go_wp2_with fail
 exact bodyPost_ret (v:=.agg #[.int .i64 2,.slice none 0 0]) (by simp[results,Tryz.results145,go_sem,q0,q1,n1]) rfl ⟨rfl,aB ((HB.out.setCell (Nat.le_refl _) _).setCell (Nat.le_refl _) _) (aC _ _)⟩
theorem zm0 (a:Option Addr) (cap:Nat) (zs:List Int) (w:World) (h:aP .u8 w a zs) (hu:U8 zs) (hcap:zs.length≤cap) (hl:zs.length≤24) :
  Calls Tryz.prog 145 #[.slice a zs.length cap] w fun e w'=>∃ v,e=.returned (.agg #[.int .i64 0,v])∧w'.ownsRow w.heap.size 2 1 v (cut zs).length ((jY zs (cut zs).length).map (Value.int .i64))∧Below w.heap.size w w':=by
 obtain ⟨i1,ki,kz0,kz1,kz2⟩:=info_parts Tryz.infoI64;have HR:=aA h;have HU:=aA hu;clear h hu;have hcl:(cut zs).length≤3:=by rw[iI];omega
 go_enter Tryz.func145,Tryz.ntmps145;go_wp2_with fail
 refine (zj0 a cap zs _ (HR.out.below (aC _ _)) hcap hl).mono ?_;rintro e w1 ⟨pv,rfl,hG,hb1⟩;obtain ⟨pa,pc,rfl⟩:=hG.shape;generalize hN:(cut zs).length=N at *;have HN:=aA hN;clear hN;have n1:w.heap.size<w1.heap.size:=by have:=hb1.size;simp at this;omega
 have X1:=aA ((Box.new w (.int .i64 0) (.slice none 0 0) 160).below hb1);have HG:=aA (hG.mono (B':=w.heap.size+1) (by simp))
 have HB:=aA (aB (aC w (.cells #[.int .i64 0,.slice none 0 0] 160)) hb1);clear hG hb1;go_wp2_with fail
 go_loopw [4,6,18] (fun v _ i wr=>∃ j:Nat,j≤N∧i=.int .i64 j∧wr.ownsRow (w.heap.size+1) 2 1 v j ((jY zs j).map (Value.int .i64))∧eT (w.heap.size+1) wr (.slice pa N pc) (dQ zs) N∧Box wr w.heap.size (.int .i64 0) (.slice none 0 0)∧w.heap.size+1≤wr.heap.size∧Below w.heap.size w wr) (fun _ _ i _=>N - (intOf i).toNat)
 case atStart=>exact ⟨0,Nat.zero_le _,rfl,World.ownsRow_nil _ _ _ _,HG.out.below (aC _ _),X1.out.below (aC _ _),by simp;omega,aB HB.out (aC _ _)⟩
 case round =>
  obtain ⟨j,hj,rfl,hown,hG,hbox,hsz,hbel⟩:=hrel;by_cases hlt:j<N
  ·obtain ⟨g,x,d,rfl,hc0,hr0⟩:=hG.at hlt
   have hpl:(dQ zs j).length≤1048576:=by rw[eC];omega
   have hm1:j+1≤maxLen:=by unfold maxLen;omega
   have hm2:(j+1) * 8≤140737488355328:=by omega
   have HR0:=aA hr0;have HO:=aA hown;have HGj:=aA hG;have HBj:=aA hbel;have HX:=aA hbox;clear hr0 hown hG hbel hbox;go_wp2_with (first | (go_at_call 194;refine (zk0 _ _ (dQ zs j) _ HR0.out (HU.out.piece j) hpl).mono ?_;rintro e w1' ⟨rfl,rfl⟩) | (at_builtin;refine cS rfl (.tmp 22) (.tmp 25) 48 rfl (w.heap.size+1) 2 i1 (.int .i64 0) 1 8 Tryz.underlying48 ki kz0 kz1 kz2 rfl (by decide) _ _ _ rfl HO.out rfl rfl (by intro u hu;simp at hu;subst hu;rfl) hm1 hm2 hsz ?_;intro v' w2 hown2 hkept;have O2:=aA hown2;have K2:=aA hkept;clear hown2 hkept))
   go_roundw
   case rel=>exact ⟨j+1,by omega,by go_num,by rw[za4];exact O2.out,HGj.out.kept_own HO.out (by decide) (by decide) K2.out,HX.out.kept K2.out (fun hS=>by have:=(HO.out.lt _ hS).1;omega),Nat.le_trans hsz K2.out.size,HBj.out.trans (K2.out.below HBj.out.size (fun k hk hS=>by have:=(HO.out.lt _ hS).1;omega))⟩
   case measure=>simp[intOf];omega
  ·have hje:j=N:=by omega
   subst hje;obtain ⟨av,cv,rfl⟩:=bH hown;obtain ⟨⟨q0,q1⟩,q2,q3⟩:=hbox;have HO:=aA hown;have HBj:=aA hbel;clear hown hbel hG;go_wp2
   refine bodyPost_ret (v:=.agg #[.int .i64 0,.slice av j cv]) (by simp[results,Tryz.results145,go_sem,q0,q1]) rfl ⟨_,rfl,?_,(HBj.out.setCell (Nat.le_refl _) _).setCell (Nat.le_refl _) _⟩
   rw[HN.out];exact bF (aL (S:=fun b=>b=w.heap.size) HO.out (aD.two _ _ _ _ _ _) (fun b hb e=>by have:=(HO.out.lt b hb).1;omega)) (by omega)
end Go.Proofs.YtolnlfnndnpiiaaGreat
