/-
  Texts put together: OvrH OvrJ MntC.
-/
import Derived.Test.YtolnlfnndnpiiaaGreatKSnaps24
import Derived.Test.YtolnlfnndnpiiaaGreatKSnaps23
import Derived.Test.YtolnlfnndnpiiaaGreatKSnaps10
import Derived.Test.YtolnlfnndnpiiaaGreatKSnaps12
import Derived.Test.YtolnlfnndnpiiaaGreatKSnaps15
set_option linter.unusedVariables false
set_option maxHeartbeats 6400000
set_option maxRecDepth 100000
namespace Go.Proofs.YtolnlfnndnpiiaaGreat
open Go.RowKit Go.Maps
attribute [local go_sem ↓] Go.wp_at_zero Go.wp_at_succ
theorem zib {es:List En} {ups:List Bs} (h:eB es ups=2):∃ u∈ups,dF es u=2:=by
 unfold eB at h;split at h
 ·rename_i h2
  obtain ⟨u,hu,hr⟩:=List.any_eq_true.1 h2;exact ⟨u,hu,of_decide_eq_true hr⟩
 ·split at h <;> omega
theorem zkb {es:List En} {u:Bs} (h:dF es u=2):∃ d,aG es u=some d∧(d.kind=3∨d.kind=1):=by
 unfold dF at h;cases hf:aG es u with
 | none=>rw[hf]at h;simp at h
 | some d =>
  rw[hf]at h;refine ⟨d,rfl,?_⟩;by_cases hk:d.kind=3∨d.kind=1
  ·exact hk
  ·simp only[hk,if_false]at h
   split at h <;> omega
theorem zh2 {es:List En} (h:aU es) {p:Bs} (hp:aF p=0) {e:En} (he:aG es p=some e):eB es (bG p)≠2:=by
 intro h2;obtain ⟨u,hu,hr⟩:=zib h2;obtain ⟨d,hd,hk⟩:=zkb hr;have hb:fD p u=true:=by simpa [fD] using hu
 rw[lU hp]at hb;obtain ⟨hpu,hbl⟩:=of_decide_eq_true hb;obtain ⟨hem,rfl⟩:=eZ he;obtain ⟨d',hd',hpd,hk'⟩:=(fU.1 h).1.up hpu hem hbl;have h3:=eN h.rise hd';rw[hpd,hd]at h3;cases h3
 simp only[bZ,decide_eq_true_eq]at hk';omega
theorem zmc {es:List En} (h:aU es) (p:Bs):((bG p).any fun u=>(aG es u).any fun e=>!decide (e.kind=2))=decide (eB es (bG p)≠0):=by
 rw[Bool.eq_iff_iff,decide_eq_true_iff,zvh,List.any_eq_true];constructor
 ·rintro ⟨u,hu,hr⟩
  have:wO es u=true:=hr;rw[zc5 h]at this;exact ⟨u,hu,of_decide_eq_true this⟩
 ·rintro ⟨u,hu,hr⟩
  exact ⟨u,hu,by
           have:wO es u=true:=by rw[zc5 h];exact decide_eq_true hr
           exact this⟩
theorem pD {ls:List (List En)} {m:Nat} {es:List En} (h:ls[m]?=some es) (q:Bs):dM ls m q=aG es q:=by simp[dM,h]
theorem yO {ls:List (List En)} {m:Nat} {es:List En} (h:ls[m]?=some es) (hR:aU es) {p:Bs} (hn:aG es p=none) (ho:eB es (bG p)≠0):dW (dM ls) p (m+1)=none:=by
 refine vJ (by rw[pD h];exact hn) ?_
 have:=zmc hR p;rw[decide_eq_true ho]at this;rw[←this];simp only[pD h]
theorem zlc {ls:List (List En)} {m:Nat} {es:List En} (h:ls[m]?=some es) (hR:aU es) {p:Bs} (hn:aG es p=none) (ho:eB es (bG p)=0):dW (dM ls) p (m+1)=dW (dM ls) p m:=by
 refine qE (by rw[pD h];exact hn) ?_
 have:=zmc hR p;rw[decide_eq_false (by omega)]at this
 rw[←this];simp only[pD h]
theorem zS (a:Option Addr) (c n:Nat) (ls:List (List En)) (p:Bs) (w:World) (h:RdL w a ls) (hn:n=ls.length) (h4:ls.length≤4) (hR:∀ es∈ls,aU es) (hp:aF p=0) (hpl:p.length≤1048576) :
  Calls Tryz.prog 214 #[.slice a n c,.string (str p)] w fun r w'=>r=.returned (.int .i64 (dD (gY ls p)))∧Below w.heap.size w w':=by
 subst hn;have HR:=aA h;have HRi:=aA hR;have HV0:=aA (show gY ls p=dW (dM ls) p ls.length from sP h4)
 have hw1:IntKind.i64.wrap ((ls.length:Int) - 1)=(ls.length:Int) - 1:=by simp[IntKind.wrap,IntKind.signed,IntKind.bits];omega
 clear h hR;generalize hV:gY ls p=V at *;clear hV;go_enter Tryz.func214,Tryz.ntmps214;go_wp2_with fail
 go_loopw [5] (fun i wr=>∃ k:Nat,k≤ls.length∧i=.int .i64 ((k:Int) - 1)∧Hid (V=dW (dM ls) p k)∧Hid (Below w.heap.size w wr)) (fun i _=>(intOf i+1).toNat)
 case atStart=>exact ⟨ls.length,Nat.le_refl _,rfl,HV0,aA (Below.refl _ _)⟩
 case round =>
  obtain ⟨k,hk,hi,HV,HW⟩:=hrel;cases k with
  | zero =>
   rw[show ((0:Nat):Int) - 1 = -1 from rfl]at hi
   subst hi;have HN:=aA (show V=none from HV.out)
   go_wp2_with fail
   go_ret
   exact ⟨by rw[HN.out];rfl,HW.out⟩
  | succ m =>
   rw[show ((m+1:Nat):Int) - 1=(m:Int) from by omega]at hi
   subst hi;have hm0:(0:Int)≤(m:Int):=by omega
   have hm1:(m:Int)<(ls.length:Int):=by omega
   have hm2:IntKind.i64.wrap ((m:Int) - 1)=(m:Int) - 1:=by simp[IntKind.wrap,IntKind.signed,IntKind.bits];omega
   obtain ⟨b,off,es,x,cc,rfl,hb,he,c0,hr⟩:=(HR.out.below HW.out).at (k:=m) (by omega)
   have hRi:=HRi.out es (List.mem_of_getElem? he);have hel:=hRi.len;have HX:=aA he;have HRI:=aA hRi;have HOV:=aA (uU x cc es.length es p wr hr rfl (by omega) hp hpl)
   have HAT:Hid (∀ w',Below wr.heap.size wr w'→Calls Tryz.prog 163 #[.slice x es.length cc,.string (str p)] w' fun r w2=>r=.returned (.int .i64 (dD (atE es p)))∧w2=w'):=aA (fun w' hb'=>iZ x cc es.length es p w' (hr.below hb') rfl (by omega))
   have HRE:=aA hr;have KC:Hid (∀ w',Below wr.heap.size wr w'→w'.cell? ⟨b,off+m,none⟩=some (.slice x es.length cc)):=aA (fun w' hb'=>(hb'.cell (p:=⟨b,off+m,none⟩) hb).trans c0)
   clear he hRi hr;cases ha:atE es p with
   | none =>
    have hf:=iM ha;rw[ha]at HAT;have e1:dD none = -1:=rfl;rw[e1]at HAT;clear ha e1;rcases qT es (bG p) with ho | ho | ho
    ·have HN:=aA (HV.out.trans (zlc HX.out HRI.out hf ho))
     rw[ho]at HOV;clear hf ho;go_wp2_with fail
     refine HOV.out.mono ?_;rintro r w1 ⟨rfl,hb1⟩;have B1:=aA hb1;have c1:=KC.out w1 hb1;clear hb1 c0;go_wp2_with fail
     refine (HAT.out w1 B1.out).mono ?_;rintro r w2 ⟨rfl,rfl⟩;go_wp2_with fail
     go_roundw
     case rel=>exact ⟨m,by omega,rfl,HN,aA (aB HW.out B1.out)⟩
     case measure=>simp[intOf]
    ·have HN:=aA (HV.out.trans (yO HX.out HRI.out hf (by omega)))
     rw[ho]at HOV;clear hf ho;go_wp2_with fail
     refine HOV.out.mono ?_;rintro r w1 ⟨rfl,hb1⟩;have B1:=aA hb1;have c1:=KC.out w1 hb1;clear hb1 c0;go_wp2_with fail
     refine (HAT.out w1 B1.out).mono ?_;rintro r w2 ⟨rfl,rfl⟩;go_wp2_with fail
     go_ret
     exact ⟨by rw[HN.out];rfl,aB HW.out B1.out⟩
    ·have HN:=aA (HV.out.trans (yO HX.out HRI.out hf (by omega)))
     rw[ho]at HOV;clear hf ho;go_wp2_with fail
     refine HOV.out.mono ?_;rintro r w1 ⟨rfl,hb1⟩;have B1:=aA hb1;clear hb1 c0;go_wp2_with fail
     go_ret
     exact ⟨by rw[HN.out];rfl,aB HW.out B1.out⟩
   | some q =>
    obtain ⟨e,he,hf⟩:=lT ha;have hq:=pQ ha;have hno:=zh2 HRI.out hp hf;have HHit:=aA (HV.out.trans (rU (by rw[pD HX.out];exact hf)))
    rw[ha]at HAT;have e1:dD (some q)=(q:Int):=rfl;rw[e1]at HAT;have hq0:(0:Int)≤(q:Int):=by omega
    have hq1:(q:Int)<(es.length:Int):=by omega
    obtain ⟨bb,off2,e',x',cc',rfl,hb2,he',z0,z1,z2,z3,hr'⟩:=HRE.out.at hq;have:e'=e:=Option.some.inj (he'.symm.trans he);subst this;have KZ:Hid (∀ w',Below wr.heap.size wr w'→w'.cell? ⟨bb,off2+q * 4+1,none⟩=some (.int .i64 e'.kind)):=aA (fun w' hb'=>(hb'.cell (p:=⟨bb,off2+q * 4+1,none⟩) hb2).trans z1)
    have h2:(eB es (bG p)==2)=false:=by simpa using hno
    generalize eB es (bG p)=O at *;clear ha e1 he he' hr' z0 z1 z2 z3 hno hf;by_cases h3:e'.kind=3
    ·rw[if_pos h3]at HHit
     have h3':(e'.kind==3)=true:=by simpa using h3
     clear h3;go_wp2_with fail
     refine HOV.out.mono ?_;rintro r w1 ⟨rfl,hb1⟩;have B1:=aA hb1;have c1:=KC.out w1 hb1;have z1:=KZ.out w1 hb1;clear hb1 c0;go_wp2_with fail
     refine (HAT.out w1 B1.out).mono ?_;rintro r w2 ⟨rfl,rfl⟩;go_wp2_with fail
     go_ret
     exact ⟨by rw[HHit.out];rfl,aB HW.out B1.out⟩
    ·rw[if_neg h3]at HHit
     have h3':(e'.kind==3)=false:=by simpa using h3
     clear h3;go_wp2_with fail
     refine HOV.out.mono ?_;rintro r w1 ⟨rfl,hb1⟩;have B1:=aA hb1;have c1:=KC.out w1 hb1;have z1:=KZ.out w1 hb1;clear hb1 c0;go_wp2_with fail
     refine (HAT.out w1 B1.out).mono ?_;rintro r w2 ⟨rfl,rfl⟩;go_wp2_with fail
     go_ret
     exact ⟨by rw[HHit.out];rfl,aB HW.out B1.out⟩
theorem zxj (a:Option Addr) (c n:Nat) (ps:List Bs) (p:Bs) (w:World) (h:bX w a ps) (hn:n=ps.length) (hl:ps.length≤1048576) :
  Calls Tryz.prog 218 #[.slice a n c,.string (str p)] w fun r w'=>r=.returned (.bool (decide (p∈ps)))∧w'=w:=by
 subst hn;have HR:=aA h;clear h;go_enter Tryz.func218,Tryz.ntmps218;go_wp2_with fail
 go_loopw [5] (fun i wr=>∃ k:Nat,k≤ps.length∧i=.int .i64 k∧wr=w∧Hid (p∉ps.take k)) (fun i _=>ps.length - (intOf i).toNat)
 case atStart=>exact ⟨0,Nat.zero_le _,rfl,rfl,aA (by simp)⟩
 case round =>
  obtain ⟨k,hk,rfl,rfl,HN⟩:=hrel;by_cases hlt:k<ps.length
  ·obtain ⟨b,off,q,rfl,hb,he,c0⟩:=HR.out.at hlt
   have hk0:(0:Int)≤(k:Int):=by omega
   have hk1:(k:Int)<(ps.length:Int):=by omega
   by_cases hq:q=p
   ·have hq2:=gS hq
    have HT:=aA (show decide (p∈ps)=true from decide_eq_true (by rw[←hq];exact List.mem_of_getElem? he))
    clear hq he;go_wp2_with fail
    go_ret
    exact ⟨by rw[HT.out];rfl,rfl⟩
   ·have hq2:=jA hq
    have HT:=aA (show p∉ps.take (k+1) from by
     rw[nM he];intro hm;rcases List.mem_append.1 hm with hm | hm
     ·exact HN.out hm
     ·simp at hm;exact hq hm.symm)
    clear hq he;go_wp2_with fail
    go_roundw
    case rel=>exact ⟨k+1,by omega,by go_num,(by first | rfl | trivial),HT⟩
    case measure=>simp[intOf];omega
  ·have HT:=aA (show decide (p∈ps)=false from decide_eq_false (by have:=HN.out;rwa [List.take_of_length_le (by omega)]at this))
   go_wp2_with fail
   go_ret
   exact ⟨by rw[HT.out];rfl,rfl⟩
end Go.Proofs.YtolnlfnndnpiiaaGreat
namespace Go.Proofs.YtolnlfnndnpiiaaGreat
theorem zen {α:Type} {motive:List α→Prop} (nil:motive []) (snoc:∀ (l:List α) (x:α),motive l→motive (l ++ [x])) (l:List α):motive l:=by
 have h:∀ r:List α,motive r.reverse:=by
  intro r
  induction r with
  | nil=>exact nil
  | cons x r ih=>rw[List.reverse_cons];exact snoc _ _ ih
 have h2:=h l.reverse;rwa [List.reverse_reverse]at h2
theorem zy4 {p:Bs} (h:aF p=0):p=aE p++47 :: cE p:=by
 obtain ⟨ns,hN,hp,hc,-⟩:=fV h;have h1:cE p=kY ns:=by unfold cE;rw[hc]
 have h2:=zie hN.1;have h3:aE p=cA ns.dropLast:=by
  unfold aE;rw[hc];by_cases hl:1<ns.length
  ·rw[tH hl,List.dropLast_eq_take]
  ·have h4:bR ns=[]:=List.eq_nil_of_length_eq_zero (by rw[iX];omega)
   have h5:ns.dropLast=[]:=List.eq_nil_of_length_eq_zero (by rw[List.length_dropLast];omega)
   rw[h4,h5];rfl
 rw[h1,h3];have h6:cA ns=cA ns.dropLast++47 :: kY ns:=by
  conv=>lhs;rw[h2]
  rw[lE];simp[cA]
 rw[←h6];exact hp
theorem zsf:∀ (q a b:Bs),Op.bytesLess (q++a) (q++b)=Op.bytesLess a b
 | [],a,b=>rfl
 | c :: q,a,b=>by
  have:=zsf q a b;simp[Op.bytesLess,this]
def cpB (q x:Bs):Bs:=q++47 :: x
theorem zln (q a b:Bs):Op.bytesLess (cpB q a) (cpB q b)=Op.bytesLess a b:=by
 unfold cpB;rw[zsf];simp[Op.bytesLess]
theorem zs0 {e:En} {q:Bs} (h:aF e.path=0) (hq:aE e.path=q):e.path=cpB q (cE e.path):=by
 have:=zy4 h;rw[hq]at this;exact this
def qL (ns:List Bs):Prop:=ns.Pairwise fun x y=>Op.bytesLess x y=true
def mkE (n:Bs):En:=⟨n,0,0,[]⟩
theorem vF {ns:List Bs}:dY (ns.map mkE)↔qL ns:=by
 unfold dY qL;rw[List.pairwise_map];exact Iff.rfl
theorem zV (ns:List Bs):(ns.map mkE).map En.path=ns:=by
 rw[List.map_map]
 conv=>rhs;rw[←List.map_id ns]
 exact List.map_congr_left fun _ _=>rfl
theorem zgi {a b:List Bs} (ha:qL a) (hb:qL b) (h:∀ x,x∈a↔x∈b):a=b:=by
 have h1:a.map mkE=b.map mkE:=by
  have hra:=vF.2 ha;have hrb:=vF.2 hb;refine vG hra hrb (fun q=>?_)
  by_cases hq:q∈a
  ·have e1:=eN hra (List.mem_map.2 ⟨q,hq,rfl⟩)
   have e2:=eN hrb (List.mem_map.2 ⟨q,(h q).1 hq,rfl⟩);exact e1.trans e2.symm
  ·have hq2:q∉b:=fun hb=>hq ((h q).2 hb)
   rw[jR (fun x hx e=>?_),jR (fun x hx e=>?_)]
   ·obtain ⟨y,hy,rfl⟩:=List.mem_map.1 hx
    exact hq2 (by rw[←e];exact hy)
   ·obtain ⟨y,hy,rfl⟩:=List.mem_map.1 hx
    exact hq (by rw[←e];exact hy)
 rw[←zV a,←zV b,h1]
theorem zjc (ps:List Bs) (p:Bs):(gN ps p).map mkE=dV (ps.map mkE) (mkE p):=by
 have h1:kM (ps.map mkE) p=uW ps p:=by
  unfold kM uW;rw[List.takeWhile_map,List.length_map];rfl
 unfold gN dV;rw[show (mkE p).path=p from rfl,h1]
 simp
theorem zf8 {ps:List Bs} {p x:Bs}:x∈gN ps p↔x=p∨x∈ps:=by
 have h1:mkE x∈(gN ps p).map mkE↔x∈gN ps p:=by
  constructor
  ·intro h
   obtain ⟨y,hy,he⟩:=List.mem_map.1 h;have:y=x:=congrArg En.path he;rw[←this];exact hy
  ·exact fun h=>List.mem_map.2 ⟨x,h,rfl⟩
 rw[←h1,zjc,nK];constructor
 ·rintro (h | h)
  ·exact .inl (congrArg En.path h)
  ·obtain ⟨y,hy,he⟩:=List.mem_map.1 h
   have:y=x:=congrArg En.path he;exact .inr (by rw[←this];exact hy)
 ·rintro (h | h)
  ·exact .inl (by rw[h])
  ·exact .inr (List.mem_map.2 ⟨x,h,rfl⟩)
theorem zhi {ps:List Bs} {p:Bs} (h:qL ps) (hn:p∉ps):qL (gN ps p):=by
 rw[←vF,zjc];refine qX (vF.2 h) (fun x hx e=>?_)
 obtain ⟨y,hy,rfl⟩:=List.mem_map.1 hx;have:y=p:=e;exact hn (by rw[←this];exact hy)
theorem zle {T:List En} (h:Fit T) (q:Bs):qL (eK T q):=by
 unfold qL eK;rw[List.pairwise_map];have h1:(cL T q).Pairwise (fun x y=>Op.bytesLess x.path y.path=true):=List.Pairwise.filter _ h.rise
 refine h1.imp_of_mem (fun {a b} ha hb hab=>?_)
 have ha':=List.mem_filter.1 ha;have hb':=List.mem_filter.1 hb;rw[zs0 (h.path ha'.1) (of_decide_eq_true ha'.2),zs0 (h.path hb'.1) (of_decide_eq_true hb'.2),zln]at hab;exact hab
def yP (s:List Bs × List Bs) (e:En):List Bs × List Bs :=
 if cE e.path∈s.1 then s else (s.1 ++ [cE e.path],if e.kind=3 then s.2 else gN s.2 (cE e.path))
def eR (D:List En):List Bs × List Bs:=D.foldl yP ([],[])
theorem sO (D:List En) (e:En):eR (D ++ [e])=yP (eR D) e:=by simp[eR]
theorem xR (D:List En):(∀ x,x∈(eR D).1↔∃ e∈D,cE e.path=x)∧(∀ x,x∈(eR D).2↔(D.find? fun e=>decide (cE e.path=x)).any (fun e=>!decide (e.kind=3))=true)∧qL (eR D).2∧(eR D).1.length≤D.length∧(eR D).2.length≤D.length:=by
 induction D using zen with
 | nil=>exact ⟨fun x=>by simp[eR],fun x=>by simp[eR],List.Pairwise.nil,Nat.le_refl _,Nat.le_refl _⟩
 | snoc D e ih =>
  obtain ⟨h1,h2,h3,h4,h5⟩:=ih;rw[sO];unfold yP;by_cases hm:cE e.path∈(eR D).1
  ·rw[if_pos hm]
   obtain ⟨d,hd,hdl⟩:=(h1 _).1 hm;refine ⟨fun x=>?_,fun x=>?_,h3,by simp;omega,by simp;omega⟩
   ·rw[h1]
    constructor
    ·rintro ⟨y,hy,hl⟩;exact ⟨y,by simp[hy],hl⟩
    ·rintro ⟨y,hy,hl⟩
     rcases List.mem_append.1 hy with hy | hy
     ·exact ⟨y,hy,hl⟩
     ·simp at hy;subst hy;exact ⟨d,hd,by rw[hdl,hl]⟩
   ·rw[h2,List.find?_append]
    by_cases hx:cE e.path=x
    ·have:(D.find? fun e=>decide (cE e.path=x)).isSome=true:=by
      rw[List.find?_isSome];exact ⟨d,hd,decide_eq_true (by rw[hdl,hx])⟩
     obtain ⟨y,hy⟩:=Option.isSome_iff_exists.1 this;rw[hy];simp
    ·have h7:[e].find? (fun e=>decide (cE e.path=x))=none:=by simp[hx]
     rw[h7];simp
  ·rw[if_neg hm]
   have hno:D.find? (fun y=>decide (cE y.path=cE e.path))=none:=by
    rw[List.find?_eq_none];intro y hy hq;exact hm ((h1 _).2 ⟨y,hy,of_decide_eq_true hq⟩)
   have hno2:cE e.path∉(eR D).2:=fun hq=>by
    rw[h2,hno]at hq;simp at hq
   refine ⟨fun x=>?_,fun x=>?_,?_,by simp;omega,?_⟩
   ·rw[List.mem_append,h1]
    constructor
    ·rintro (⟨y,hy,hl⟩ | hx)
     ·exact ⟨y,by simp[hy],hl⟩
     ·simp at hx;exact ⟨e,by simp,hx.symm⟩
    ·rintro ⟨y,hy,hl⟩
     rcases List.mem_append.1 hy with hy | hy
     ·exact .inl ⟨y,hy,hl⟩
     ·simp at hy;subst hy;exact .inr (by simp[hl])
   ·rw[List.find?_append]
    by_cases hx:cE e.path=x
    ·subst hx
     rw[hno];by_cases h3k:e.kind=3
     ·simp only[h3k,if_true]
      have:¬ cE e.path∈(eR D).2:=hno2;simp[this,h3k]
     ·simp only[h3k,if_false]
      rw[zf8];simp[h3k]
    ·have h7:[e].find? (fun e=>decide (cE e.path=x))=none:=by simp[hx]
     rw[h7,Option.or_none];by_cases h3k:e.kind=3
     ·simp only[h3k,if_true];exact h2 x
     ·simp only[h3k,if_false]
      rw[zf8,h2];constructor
      ·rintro (h8 | h8)
       ·exact absurd h8.symm hx
       ·exact h8
      ·exact .inr
   ·by_cases h3k:e.kind=3
    ·simp only[h3k,if_true];exact h3
    ·simp only[h3k,if_false];exact zhi h3 hno2
   ·by_cases h3k:e.kind=3
    ·simp only[h3k,if_true];simp;omega
    ·simp only[h3k,if_false];rw[rS];simp;omega
def iC (es:List En) (q:Bs):Int:=if q=[] then 0 else fK es q
def gG (ls:List (List En)) (q:Bs):Nat→List En
 | 0=>[]
 | n+1=>match ls[n]? with
  | none=>[]
  | some es=>if iC es q=2 then [] else cL es q++(if iC es q=1 then [] else gG ls q n)
theorem uF {ls:List (List En)} {q:Bs} {n:Nat} {es:List En} (h:ls[n]?=some es) (h2:iC es q=2):gG ls q (n+1)=[]:=by simp[gG,h,h2]
theorem oW {ls:List (List En)} {q:Bs} {n:Nat} {es:List En} (h:ls[n]?=some es) (h1:iC es q=1):gG ls q (n+1)=cL es q:=by simp[gG,h,h1]
theorem rA {ls:List (List En)} {q:Bs} {n:Nat} {es:List En} (h:ls[n]?=some es) (h2:iC es q≠2) (h1:iC es q≠1):gG ls q (n+1)=cL es q++gG ls q n:=by simp[gG,h,h1,h2]
theorem zv6 {ls:List (List En)} {q:Bs} (h:∀ es∈ls,aU es):∀ n,n≤ls.length→(gG ls q n).length≤12 * n
 | 0,_=>by simp[gG]
 | n+1,hn=>by
  have ih:=zv6 (q:=q) h n (by omega)
  obtain ⟨es,he⟩:∃ es,ls[n]?=some es:=⟨_,List.getElem?_eq_getElem (by omega)⟩
  have h12:=(h es (List.mem_of_getElem? he)).len;have hk:(cL es q).length≤es.length:=List.length_filter_le _ _;by_cases h2:iC es q=2
  ·rw[uF he h2];simp
  ·by_cases h1:iC es q=1
   ·rw[oW he h1];omega
   ·rw[rA he h2 h1,List.length_append];omega
theorem zw6 {ls:List (List En)} {q:Bs}:∀ {n:Nat} {e:En},e∈gG ls q n→aE e.path=q∧∃ es∈ls,e∈es
 | 0,e,h=>by simp[gG]at h
 | n+1,e,h=>by
  cases he:ls[n]? with
  | none=>simp[gG,he]at h
  | some es =>
   have hk:∀ {x},x∈cL es q→aE x.path=q∧∃ es∈ls,x∈es:=fun hx=>⟨of_decide_eq_true (List.mem_filter.1 hx).2,es,List.mem_of_getElem? he,(List.mem_filter.1 hx).1⟩
   by_cases h2:iC es q=2
   ·rw[uF he h2]at h;simp at h
   ·by_cases h1:iC es q=1
    ·rw[oW he h1]at h;exact hk h
    ·rw[rA he h2 h1]at h
     rcases List.mem_append.1 h with h | h
     ·exact hk h
     ·exact zw6 h
theorem lO {c q:Bs} (hc:aF c=0) (hq:aE c=q):bG c=if q=[] then [] else bG q ++ [q]:=by
 obtain ⟨ns,hN,hp,hcu,-⟩:=fV hc;rw[fG hc,hcu];have hpar:q=(bR ns).getLastD []:=by rw[←hq];unfold aE;rw[hcu]
 by_cases h0:q=[]
 ·rw[if_pos h0]
  have:=kC.1 (hq.trans h0);rw[hcu]at this;exact this
 ·rw[if_neg h0]
  have hl:1<ns.length:=by
   refine Nat.lt_of_not_le (fun hle=>h0 ?_)
   have h4:bR ns=[]:=List.eq_nil_of_length_eq_zero (by rw[iX];omega)
   rw[hpar,h4];rfl
  rw[tH hl]at hpar;have hT:nP (ns.take (ns.length - 1)):=qS hN (by omega)
  have hqf:aF q=0:=by rw[hpar];exact pV hT
  rw[fG hqf];have hcq:aX q.tail=ns.take (ns.length - 1):=by rw[hpar];exact zzf hT
  rw[hcq];unfold bR;rw[List.length_take];obtain ⟨m,hm⟩:∃ m,ns.length=m+2:=⟨ns.length - 2,by omega⟩
  have e1:min (ns.length - 1) ns.length - 1=m:=by omega
  have e2:ns.length - 1=m+1:=by omega
  rw[e1,e2,List.range_succ,List.map_append]
  congr 1
  ·refine List.map_congr_left fun k hk=>?_
   have:=List.mem_range.1 hk;rw[List.take_take,Nat.min_eq_left (by omega)]
  ·simp[hpar,e2]
theorem zhb (es:List En) (ups:List Bs) (q:Bs):eB es (ups ++ [q])=if eB es ups=2∨dF es q=2 then 2 else if eB es ups=1∨dF es q=1 then 1 else 0:=by
 unfold eB;simp only[List.any_append,List.any_cons,List.any_nil,Bool.or_false];by_cases h1:ups.any (fun u=>decide (dF es u=2))=true
 ·simp[h1]
 ·by_cases h2:ups.any (fun u=>decide (dF es u=1))=true
  ·rcases vD es q with h | h | h <;> simp[h1,h2,h]
  ·rcases vD es q with h | h | h <;> simp[h1,h2,h]
theorem vA {es:List En} {c q:Bs} (hc:aF c=0) (hq:aE c=q):eB es (bG c)=iC es q:=by
 rw[lO hc hq];unfold iC;by_cases h0:q=[]
 ·rw[if_pos h0,if_pos h0];simp[eB]
 ·rw[if_neg h0,if_neg h0,zhb];rfl
theorem zy3 {ls:List (List En)} (hR:∀ es∈ls,aU es) {c q:Bs} (hc:aF c=0) (hq:aE c=q) :
  ∀ n,n≤ls.length→((gG ls q n).find? fun e=>decide (cE e.path=cE c)).any (fun e=>!decide (e.kind=3))=(dW (dM ls) c n).isSome
 | 0,_=>by simp[gG,dW]
 | n+1,hn=>by
  have ih:=zy3 hR hc hq n (by omega)
  obtain ⟨es,he⟩:∃ es,ls[n]?=some es:=⟨_,List.getElem?_eq_getElem (by omega)⟩
  have hRi:=hR es (List.mem_of_getElem? he);have hF:=(fU.1 hRi).1;have hcp:c=cpB q (cE c):=by have:=zy4 hc;rw[hq]at this;exact this
  have hkid:∀ x∈cL es q,cE x.path=cE c→x.path=c:=fun x hx hl=>by
   have hx':=List.mem_filter.1 hx;have:=zs0 (hF.path hx'.1) (of_decide_eq_true hx'.2);rw[hl,←hcp]at this;exact this
  cases hf:aG es c with
  | none =>
   have hno:(cL es q).find? (fun e=>decide (cE e.path=cE c))=none:=by
    rw[List.find?_eq_none];intro x hx hl;have h1:=hkid x hx (of_decide_eq_true hl);have h2:=eN hRi.rise (List.mem_filter.1 hx).1;rw[h1,hf]at h2;cases h2
   by_cases h2:iC es q=2
   ·rw[uF he h2,yO he hRi hf (by rw[vA hc hq,h2];decide)];rfl
   ·by_cases h1:iC es q=1
    ·rw[oW he h1,hno,yO he hRi hf (by rw[vA hc hq,h1];decide)];rfl
    ·have h0:eB es (bG c)=0:=by
      have:=vA (es:=es) hc hq;rcases qT es (bG c) with h | h | h
      ·exact h
      ·rw[h]at this;exact absurd this.symm h1
      ·rw[h]at this;exact absurd this.symm h2
     rw[rA he h2 h1,List.find?_append,hno,Option.none_or,zlc he hRi hf h0];exact ih
  | some e =>
   obtain ⟨hem,hep⟩:=eZ hf;have h2:iC es q≠2:=by rw[←vA hc hq];exact zh2 hRi hc hf
   have hek:e∈cL es q:=List.mem_filter.2 ⟨hem,decide_eq_true (by rw[hep];exact hq)⟩
   have hfi:(cL es q).find? (fun x=>decide (cE x.path=cE c))=some e:=by
    have:((cL es q).find? (fun x=>decide (cE x.path=cE c))).isSome=true:=by
     rw[List.find?_isSome];exact ⟨e,hek,decide_eq_true (by rw[hep])⟩
    obtain ⟨y,hy⟩:=Option.isSome_iff_exists.1 this;have hy1:=List.mem_of_find?_eq_some hy;have hy4:=List.find?_some hy;have hy2:=hkid y hy1 (by simpa using hy4)
    have hy3:=eN hRi.rise (List.mem_filter.1 hy1).1;rw[hy2,hf]at hy3;rw[hy,←hy3]
   have hpre:∃ r,gG ls q (n+1)=cL es q++r:=by
    by_cases h1:iC es q=1
    ·exact ⟨[],by rw[oW he h1,List.append_nil]⟩
    ·exact ⟨_,rA he h2 h1⟩
   obtain ⟨r,hr⟩:=hpre;rw[hr,List.find?_append,hfi,rU (by rw[pD he];exact hf)]
   by_cases h3:e.kind=3 <;> simp[h3]
theorem zwc {ls:List (List En)} (hR:∀ es∈ls,aU es) (h4:ls.length≤4) (q:Bs):(eR (gG ls q ls.length)).2=eK (aJ ls) q:=by
 obtain ⟨-,h2,h3,-⟩:=xR (gG ls q ls.length);have hF:=gA hR;have hfa:=oT hF;refine zgi h3 (zle hfa.fit q) (fun x=>?_)
 have key:∀ c,aF c=0→aE c=q→cE c=x→(x∈(eR (gG ls q ls.length)).2↔(aG (aJ ls) c).isSome=true):=fun c hc hq hx=>by
  rw[h2,←hx,zy3 hR hc hq ls.length (Nat.le_refl _),rE hF h4 hc];have e1:dW (dM ls) c ls.length=gY ls c:=(sP h4).symm;rw[e1];unfold xS;cases hs:gY ls c with
  | none=>simp
  | some k =>
   obtain ⟨-,e,he,-⟩:=kU (show dW (dM ls) c 4=some k from hs)
   simp[he]
 constructor
 ·intro hx
  have hx':=(h2 x).1 hx;cases hf:(gG ls q ls.length).find? fun e=>decide (cE e.path=x) with
  | none=>rw[hf]at hx';simp at hx'
  | some e =>
   have hem:=List.mem_of_find?_eq_some hf;have hel0:=List.find?_some hf;have hel:cE e.path=x:=by simpa using hel0
   obtain ⟨hpq,es,hes,hee⟩:=zw6 hem;have hpf:=(hF es hes).path hee;obtain ⟨y,hy⟩:=Option.isSome_iff_exists.1 ((key e.path hpf hpq hel).1 hx);obtain ⟨hym,hyp⟩:=eZ hy;exact List.mem_map.2 ⟨y,List.mem_filter.2 ⟨hym,decide_eq_true (by rw[hyp];exact hpq)⟩,by rw[hyp];exact hel⟩
 ·intro hx
  obtain ⟨y,hy,hyl⟩:=List.mem_map.1 hx;obtain ⟨hym,hyp⟩:=List.mem_filter.1 hy;exact (key y.path (hfa.fit.path hym) (of_decide_eq_true hyp) hyl).2 (by rw[eN hfa.fit.rise hym];rfl)
end Go.Proofs.YtolnlfnndnpiiaaGreat
namespace Go.Proofs.YtolnlfnndnpiiaaGreat
open Go.RowKit Go.Maps
attribute [local go_sem ↓] Go.wp_at_zero Go.wp_at_succ
def fJ (q:Bs):En:=⟨q,2,0,[]⟩
def gZ (U:List En) (e:En):Bool:=!decide (aE e.path=[])&&(aG U (aE e.path)).isNone
def gL:Nat→List En→En→Int × List En
 | 0,U,e=>(bU U e,cK U e)
 | n+1,U,e=>if gZ U e=true then (if (gL n U (fJ (aE e.path))).1=0 then (bU (gL n U (fJ (aE e.path))).2 e,cK (gL n U (fJ (aE e.path))).2 e) else gL n U (fJ (aE e.path))) else (bU U e,cK U e)
theorem wF {n:Nat} {U:List En} {e:En} (h:gZ U e=false):gL n U e=(bU U e,cK U e):=by
 cases n <;> simp[gL,h]
theorem zf0 {n:Nat} {U:List En} {e:En} (h:gZ U e=true) (h0:(gL n U (fJ (aE e.path))).1=0):gL (n+1) U e=(bU (gL n U (fJ (aE e.path))).2 e,cK (gL n U (fJ (aE e.path))).2 e):=by simp[gL,h,h0]
theorem ze0 {n:Nat} {U:List En} {e:En} (h:gZ U e=true) (h0:(gL n U (fJ (aE e.path))).1≠0):gL (n+1) U e=gL n U (fJ (aE e.path)):=by simp[gL,h,h0]
theorem wG:∀ {n:Nat} {U:List En} {e:En},(gL n U e).1=0→aU (gL n U e).2∧aV (gL n U e).2
 | 0,U,e,h=>by
  have h1:=xJ (show bU U e=0 from h)
  have h2:(gL 0 U e).2=dC U e:=by show cK U e=_;rw[cK,if_pos (show bU U e=0 from h)]
  rw[h2];exact ⟨h1.2.2.2.2,cG h1.2.2.2.2⟩
 | n+1,U,e,h=>by
  have key:∀ {L:List En},bU L e=0→aU (cK L e)∧aV (cK L e):=fun {L} hL=>by
   have h1:=xJ hL;rw[cK,if_pos hL];exact ⟨h1.2.2.2.2,cG h1.2.2.2.2⟩
  cases hn:gZ U e
  ·rw[wF hn]at h ⊢
   exact key h
  ·by_cases h0:(gL n U (fJ (aE e.path))).1=0
   ·rw[zf0 hn h0]at h ⊢
    exact key h
   ·rw[ze0 hn h0]at h
    exact absurd h h0
theorem sX (R b:Nat) (av:Option Addr) (n cv:Nat) (L:List En) (e:En) (x:Option Addr) (cc:Nat) (u:FrameMode) (w:World) (hX:Box w R (.int .i64 0) (.slice av n cv)) (hF:cI w b (.string (str e.path)) (.int .i64 e.kind) (.int .i64 e.size) (.slice x e.chunks.length cc))
  (h:RdE w av L) (hn:n=L.length) (hl:L.length≤1048576) (hs:aV L) (hr:aP .i64 w x e.chunks) (hp:e.path.length≤1048576) (hcl:e.chunks.length≤1048576) :
  CallsD Tryz.prog 195 #[.pointer (some ⟨R,0,none⟩),.pointer (some ⟨b,0,none⟩)] u w fun r u' w'=>u'=u∧(r=.returned (.tuple #[])∧∃ w1 av1 cv1,Below w.heap.size w w1∧GE w.heap.size w1.heap.size w1 (.slice av1 (cK L e).length cv1) (cK L e)∧w'=(w1.setCell ⟨R,0,none⟩ (.int .i64 (bU L e))).setCell ⟨R,1,none⟩ (.slice av1 (cK L e).length cv1)):=by
 subst hn;have HP:=aA (zr0 av cv L.length L e x e.chunks.length cc w h rfl hl hs rfl hr hp hcl);have HX:=aA hX;obtain ⟨⟨t0,t1⟩,t2,t3⟩:=hX;obtain ⟨f0,f1,f2,f3⟩:=hF;clear h hs hr;go_enter_d Tryz.func195,Tryz.ntmps195;go_wp2_with fail
 refine HP.out.mono ?_;rintro r w1 ⟨av1,cv1,rfl,hG,hb1⟩;have G1:=aA hG;have B1:=aA hb1;clear t0 t1 t2 t3 f0 f1 f2 f3;obtain ⟨⟨t0,t1⟩,t2,t3⟩:=HX.out.below hb1;clear hG hb1;go_wp2_with fail
 exact ⟨rfl,.tuple #[],by simp[results,Tryz.results195],rfl,w1,av1,cv1,B1.out,G1.out,rfl⟩
theorem ze7 (R b:Nat) (q:Int) (v:Value) (u:FrameMode) (w:World) (hX:Box w R (.int .i64 q) v) (hq:q≠0) :
  CallsD Tryz.prog 195 #[.pointer (some ⟨R,0,none⟩),.pointer (some ⟨b,0,none⟩)] u w fun r u' w'=>u'=u∧(r=.returned (.tuple #[])∧w'=w):=by
 obtain ⟨⟨t0,t1⟩,t2,t3⟩:=hX;have hq2:(q==0)=false:=by simpa using hq
 clear hq;go_enter_d Tryz.func195,Tryz.ntmps195;go_wp2_with fail
 exact ⟨rfl,.tuple #[],by simp[results,Tryz.results195],rfl,rfl⟩
theorem zon {B T:Nat} {w:World} {b:Nat} {u v:Value} {av:Option Addr} {n cv:Nat} {L:List En} (h:GE B T w (.slice av n cv) L) (hb:b<B):GE B T ((w.setCell ⟨b,0,none⟩ u).setCell ⟨b,1,none⟩ v) (.slice av n cv) L:=h.kept (aD.two w b 0 1 u v) (fun x hx _ e=>by omega)
theorem zwn {e:En} {n:Nat} (hp:aF e.path=0) (h0:aE e.path≠[]) (hn:(bG e.path).length=n+1):(bG (aE e.path)).length=n:=by
 have h1:=lO hp rfl;rw[if_neg h0]at h1;rw[h1,List.length_append]at hn;simpa using hn
theorem zx4 {e:En} (hp:aF e.path=0) (hn:(bG e.path).length=0):aE e.path=[]:=by
 by_cases h0:aE e.path=[]
 ·exact h0
 ·have h1:=lO hp rfl
  rw[if_neg h0]at h1;rw[h1]at hn;simp at hn
theorem wM {S:Nat→Prop} {w w':World} {b:Nat} {u0 u1 u2 u3:Value} (h:cI w b u0 u1 u2 u3) (hk:aD S w w') (hn:¬ S b):cI w' b u0 u1 u2 u3 :=
 ⟨(hk.cell (p:=⟨b,0,none⟩) h.lt hn).trans h.1,(hk.cell (p:=⟨b,1,none⟩) h.lt hn).trans h.2.1,(hk.cell (p:=⟨b,2,none⟩) h.lt hn).trans h.2.2.1,(hk.cell (p:=⟨b,3,none⟩) h.lt hn).trans h.2.2.2⟩
theorem zc0 {w:World} {B:Nat} {u v:Value} (h:Box w B u v) (u' v':Value):Box ((w.setCell ⟨B,0,none⟩ u').setCell ⟨B,1,none⟩ v') B u' v':=by
 obtain ⟨⟨m0,m1⟩,m2,m3⟩:=h;refine ⟨⟨?_,?_⟩,?_,?_⟩
 ·rw[aM (by simp)];exact dG m0
 ·exact dG (u:=v) (by rw[aM (by simp)];exact m1)
 ·rw[World.frozen?_setCell,World.frozen?_setCell];exact m2
 ·rw[World.frozen?_setCell,World.frozen?_setCell];exact m3
theorem zh7 (a:Option Addr) (c:Nat) (U:List En) (hR:aU U) (e:En) (x:Option Addr) (cc:Nat) (w:World) (hp:aF e.path=0) (h:RdE w a U) (hx:aP .i64 w x e.chunks) (hpl:e.path.length≤1048576) (hcl:e.chunks.length≤1048576) (h0:aE e.path=[]) :
  Calls Tryz.prog 148 #[.slice a U.length c,.agg #[.string (str e.path),.int .i64 e.kind,.int .i64 e.size,.slice x e.chunks.length cc]] w (eV (bU U e) (cK U e) w):=by
 have hmf:∀ (fn:Fn) (first cap:Array Value) (w:World),(Instr.makeFunc fn first cap).run Tryz.prog w=.ok (.func fn first cap) w:=fun _ _ _ _=>rfl
 have hsz:=aK e.path;have HPO:Hid (∀ u:World,Calls Tryz.prog 177 #[.string (str e.path)] u fun r w'=>r=.returned (.agg #[.int .i64 (nE e.path),.string (str (kZ e.path))])∧Below u.heap.size u w'):=aA (fun u=>by have h1:=gB (str e.path) u (by omega);rw[aT]at h1;exact h1)
 have hlU:=hR.len;have HSU:=aA (cG hR);have HR0:=aA h;have HX0:=aA hx;have B0:=aA (aB (aC w (.cells #[.string (str e.path),.int .i64 e.kind,.int .i64 e.size,.slice x e.chunks.length cc] 50)) (aC (w.alloc (.cells #[.string (str e.path),.int .i64 e.kind,.int .i64 e.size,.slice x e.chunks.length cc] 50)) (.cells #[.int .i64 0,.slice none 0 0] 131)));have FE0:=aA ((cI.new w (.string (str e.path)) (.int .i64 e.kind) (.int .i64 e.size) (.slice x e.chunks.length cc) 50).below (aC (w.alloc (.cells #[.string (str e.path),.int .i64 e.kind,.int .i64 e.size,.slice x e.chunks.length cc] 50)) (.cells #[.int .i64 0,.slice none 0 0] 131)))
 have BX0:=aA (Box.new (w.alloc (.cells #[.string (str e.path),.int .i64 e.kind,.int .i64 e.size,.slice x e.chunks.length cc] 50)) (.int .i64 0) (.slice none 0 0) 131);have hsA:(w.alloc (.cells #[.string (str e.path),.int .i64 e.kind,.int .i64 e.size,.slice x e.chunks.length cc] 50)).heap.size=w.heap.size+1:=by simp
 rw[hsA]at BX0;have hs0:((w.alloc (.cells #[.string (str e.path),.int .i64 e.kind,.int .i64 e.size,.slice x e.chunks.length cc] 50)).alloc (.cells #[.int .i64 0,.slice none 0 0] 131)).heap.size=w.heap.size+2:=by simp
 clear h hx hsA;rw[oH hp,if_pos h0]at HPO;go_enter_defers Tryz.func148,Tryz.ntmps148;obtain ⟨f0,f1,f2,f3⟩:=FE0.out;go_wp2_with fail
 clear f0 f1 f2 f3;generalize ((w.alloc (.cells #[.string (str e.path),.int .i64 e.kind,.int .i64 e.size,.slice x e.chunks.length cc] 50)).alloc (.cells #[.int .i64 0,.slice none 0 0] 131))=W0 at *;refine (HPO.out W0).mono ?_;rintro r w1 ⟨rfl,hb1⟩;generalize kZ e.path=PT at *;have A1:=aA (aB hb1 (aC w1 (.cells #[.int .i64 4,.string (str PT)] 188)));have T1:=aA (Box.new w1 (.int .i64 4) (.string (str PT)) 188);have BX1:=aA (BX0.out.below A1.out);have FE1:=aA (FE0.out.below A1.out);have B1:=aA (aB B0.out A1.out);have hs1:=A1.out.size;clear hb1 HPO;obtain ⟨⟨s0,s1⟩,s2,s3⟩:=T1.out
 obtain ⟨⟨t0,t1⟩,t2,t3⟩:=BX1.out;go_wp2_with fail
 clear s0 s1 s2 s3 t0 t1 t2 t3;generalize w1.alloc (.cells #[.int .i64 4,.string (str PT)] 188)=W1 at *;have BX2:=aA (zc0 BX1.out (.int .i64 0) (.slice a U.length c));have hne:w.heap.size≠w.heap.size+1:=by omega
 have KT:Hid (aD (fun b=>b=w.heap.size+1) W1 ((W1.setCell ⟨w.heap.size+1,0,none⟩ (.int .i64 0)).setCell ⟨w.heap.size+1,1,none⟩ (.slice a U.length c))):=aA (aD.two W1 (w.heap.size+1) 0 1 _ _)
 have hzW:((W1.setCell ⟨w.heap.size+1,0,none⟩ (.int .i64 0)).setCell ⟨w.heap.size+1,1,none⟩ (.slice a U.length c)).heap.size=W1.heap.size:=by simp[World.setCell]
 have BW:Hid (Below w.heap.size w ((W1.setCell ⟨w.heap.size+1,0,none⟩ (.int .i64 0)).setCell ⟨w.heap.size+1,1,none⟩ (.slice a U.length c))):=aA ((B1.out.setCell (p:=⟨w.heap.size+1,0,none⟩) (by show w.heap.size≤w.heap.size+1;omega) _).setCell (p:=⟨w.heap.size+1,1,none⟩) (by show w.heap.size≤w.heap.size+1;omega) _)
 have FE2:=aA (wM FE1.out KT.out hne);refine leaves_cons (f:=195) (args:=#[.pointer (some ⟨w.heap.size+1,0,none⟩),.pointer (some ⟨w.heap.size,0,none⟩)]) (by simp) (by simp[go_sem]) ?_
 generalize (W1.setCell ⟨w.heap.size+1,0,none⟩ (.int .i64 0)).setCell ⟨w.heap.size+1,1,none⟩ (.slice a U.length c)=W2 at *;refine (sX (w.heap.size+1) w.heap.size a U.length c U e x cc .returning W2 BX2.out FE2.out (HR0.out.below BW.out) rfl (by omega) HSU.out (HX0.out.below BW.out) hpl hcl).mono ?_
 rintro r u' w' ⟨rfl,rfl,w3,av3,cv3,hb3,hG3,rfl⟩;have BX3:=BX2.out.below hb3;obtain ⟨⟨t0,t1⟩,t2,t3⟩:=BX3;have HF:=aA (eV.of (q:=bU U e) (w2:=w) (u:=.int .i64 (bU U e)) (v:=.slice av3 (cK U e).length cv3) (show w.heap.size+1<W2.heap.size by omega) (by omega) rfl hG3 (aB BW.out hb3))
 simp[Leaves,settle,results,Tryz.results148,go_sem,t0,t1]
 exact HF.out
theorem zka (a:Option Addr) (c:Nat) (U:List En) (hR:aU U) (e:En) (x:Option Addr) (cc:Nat) (w:World) (hp:aF e.path=0) (h:RdE w a U) (hx:aP .i64 w x e.chunks) (hpl:e.path.length≤1048576) (hcl:e.chunks.length≤1048576) (h0:aE e.path≠[]) (d:En) (hd:aG U (aE e.path)=some d) :
  Calls Tryz.prog 148 #[.slice a U.length c,.agg #[.string (str e.path),.int .i64 e.kind,.int .i64 e.size,.slice x e.chunks.length cc]] w (eV (bU U e) (cK U e) w):=by
 have hmf:∀ (fn:Fn) (first cap:Array Value) (w:World),(Instr.makeFunc fn first cap).run Tryz.prog w=.ok (.func fn first cap) w:=fun _ _ _ _=>rfl
 have hsz:=aK e.path;have HPO:Hid (∀ u:World,Calls Tryz.prog 177 #[.string (str e.path)] u fun r w'=>r=.returned (.agg #[.int .i64 (nE e.path),.string (str (kZ e.path))])∧Below u.heap.size u w'):=aA (fun u=>by have h1:=gB (str e.path) u (by omega);rw[aT]at h1;exact h1)
 have hlU:=hR.len;have HSU:=aA (cG hR);have HR0:=aA h;have HX0:=aA hx;have B0:=aA (aB (aC w (.cells #[.string (str e.path),.int .i64 e.kind,.int .i64 e.size,.slice x e.chunks.length cc] 50)) (aC (w.alloc (.cells #[.string (str e.path),.int .i64 e.kind,.int .i64 e.size,.slice x e.chunks.length cc] 50)) (.cells #[.int .i64 0,.slice none 0 0] 131)));have FE0:=aA ((cI.new w (.string (str e.path)) (.int .i64 e.kind) (.int .i64 e.size) (.slice x e.chunks.length cc) 50).below (aC (w.alloc (.cells #[.string (str e.path),.int .i64 e.kind,.int .i64 e.size,.slice x e.chunks.length cc] 50)) (.cells #[.int .i64 0,.slice none 0 0] 131)))
 have BX0:=aA (Box.new (w.alloc (.cells #[.string (str e.path),.int .i64 e.kind,.int .i64 e.size,.slice x e.chunks.length cc] 50)) (.int .i64 0) (.slice none 0 0) 131);have hsA:(w.alloc (.cells #[.string (str e.path),.int .i64 e.kind,.int .i64 e.size,.slice x e.chunks.length cc] 50)).heap.size=w.heap.size+1:=by simp
 rw[hsA]at BX0;have hs0:((w.alloc (.cells #[.string (str e.path),.int .i64 e.kind,.int .i64 e.size,.slice x e.chunks.length cc] 50)).alloc (.cells #[.int .i64 0,.slice none 0 0] 131)).heap.size=w.heap.size+2:=by simp
 clear h hx hsA;rw[oH hp,if_neg h0,qU hp]at HPO;obtain ⟨hpp,hpb⟩:=cU hp h0;have hppl:(aE e.path).length≤1048576:=by have:=dZ hpb;omega
 have HEA0:=aA (fun u (hu:Below w.heap.size w u)=>oB a c U.length U (aE e.path) u (HR0.out.below hu) rfl (by omega) HSU.out hppl)
 rw[show dK U (aE e.path)=0 by rw[dK,if_pos (tP hR hpp),hd];rfl]at HEA0
 have HEA:Hid (∀ u:World,Below w.heap.size w u→Calls Tryz.prog 149 #[.slice a U.length c,.string (str (aE e.path))] u fun r w'=>∃ lv ln lc,r=.returned (.agg #[.int .i64 0,.slice lv ln lc])∧Below u.heap.size u w'):=aA (fun u hu=>(HEA0.out u hu).mono (fun r w' ⟨lv,lc,h2,_,h4⟩=>⟨lv,_,lc,h2,h4⟩))
 have hfl:∀ (w:World) (F:Int) (v:Value),(Instr.field 131 (.agg #[.int .i64 F,v]) 0).run Tryz.prog w=.ok (.int .i64 F) w:=fun _ _ _=>by kernel_rfl
 clear HEA0 hd hpp hpb;go_enter_defers Tryz.func148,Tryz.ntmps148;obtain ⟨f0,f1,f2,f3⟩:=FE0.out;go_wp2_with fail
 clear f0 f1 f2 f3;generalize ((w.alloc (.cells #[.string (str e.path),.int .i64 e.kind,.int .i64 e.size,.slice x e.chunks.length cc] 50)).alloc (.cells #[.int .i64 0,.slice none 0 0] 131))=W0 at *;refine (HPO.out W0).mono ?_;rintro r w1 ⟨rfl,hb1⟩;generalize aE e.path=PT at *;have A1:=aA (aB hb1 (aC w1 (.cells #[.int .i64 0,.string (str PT)] 188)));have T1:=aA (Box.new w1 (.int .i64 0) (.string (str PT)) 188);have BX1:=aA (BX0.out.below A1.out);have FE1:=aA (FE0.out.below A1.out);have B1:=aA (aB B0.out A1.out);have hs1:=A1.out.size;clear hb1 HPO;obtain ⟨⟨s0,s1⟩,s2,s3⟩:=T1.out
 obtain ⟨⟨t0,t1⟩,t2,t3⟩:=BX1.out;go_wp2_with fail
 clear s0 s1 s2 s3 t0 t1 t2 t3;generalize w1.alloc (.cells #[.int .i64 0,.string (str PT)] 188)=V1 at *;generalize w1.heap.size=bT at *;refine (HEA.out V1 B1.out).mono ?_;rintro r W1 ⟨lv,ln,lc,rfl,hbE⟩;have BX1':=aA (BX1.out.below hbE);have FE1':=aA (FE1.out.below hbE);have B1':=aA (aB B1.out hbE);have T1':=aA (T1.out.below hbE);have hsE:=hbE.size;clear BX1 FE1 B1 hbE T1;have BX1:=BX1';have FE1:=FE1';have B1:=B1';have T1:=T1';clear BX1' FE1' B1' T1';obtain ⟨⟨s0,s1⟩,s2,s3⟩:=T1.out;obtain ⟨⟨t0,t1⟩,t2,t3⟩:=BX1.out;go_wp2_with fail
 clear s0 s1 s2 s3 t0 t1 t2 t3;have BX2:=aA (zc0 BX1.out (.int .i64 0) (.slice a U.length c));have hne:w.heap.size≠w.heap.size+1:=by omega
 have KT:Hid (aD (fun b=>b=w.heap.size+1) W1 ((W1.setCell ⟨w.heap.size+1,0,none⟩ (.int .i64 0)).setCell ⟨w.heap.size+1,1,none⟩ (.slice a U.length c))):=aA (aD.two W1 (w.heap.size+1) 0 1 _ _)
 have hzW:((W1.setCell ⟨w.heap.size+1,0,none⟩ (.int .i64 0)).setCell ⟨w.heap.size+1,1,none⟩ (.slice a U.length c)).heap.size=W1.heap.size:=by simp[World.setCell]
 have BW:Hid (Below w.heap.size w ((W1.setCell ⟨w.heap.size+1,0,none⟩ (.int .i64 0)).setCell ⟨w.heap.size+1,1,none⟩ (.slice a U.length c))):=aA ((B1.out.setCell (p:=⟨w.heap.size+1,0,none⟩) (by show w.heap.size≤w.heap.size+1;omega) _).setCell (p:=⟨w.heap.size+1,1,none⟩) (by show w.heap.size≤w.heap.size+1;omega) _)
 have FE2:=aA (wM FE1.out KT.out hne);refine leaves_cons (f:=195) (args:=#[.pointer (some ⟨w.heap.size+1,0,none⟩),.pointer (some ⟨w.heap.size,0,none⟩)]) (by simp) (by simp[go_sem]) ?_
 generalize (W1.setCell ⟨w.heap.size+1,0,none⟩ (.int .i64 0)).setCell ⟨w.heap.size+1,1,none⟩ (.slice a U.length c)=W2 at *;refine (sX (w.heap.size+1) w.heap.size a U.length c U e x cc .returning W2 BX2.out FE2.out (HR0.out.below BW.out) rfl (by omega) HSU.out (HX0.out.below BW.out) hpl hcl).mono ?_
 rintro r u' w' ⟨rfl,rfl,w3,av3,cv3,hb3,hG3,rfl⟩;have BX3:=BX2.out.below hb3;obtain ⟨⟨t0,t1⟩,t2,t3⟩:=BX3;have HF:=aA (eV.of (q:=bU U e) (w2:=w) (u:=.int .i64 (bU U e)) (v:=.slice av3 (cK U e).length cv3) (show w.heap.size+1<W2.heap.size by omega) (by omega) rfl hG3 (aB BW.out hb3))
 simp[Leaves,settle,results,Tryz.results148,go_sem,t0,t1]
 exact HF.out
theorem zg7 (a:Option Addr) (c:Nat) (U:List En) (hR:aU U) (e:En) (x:Option Addr) (cc:Nat) (w:World) (hp:aF e.path=0) (h:RdE w a U) (hx:aP .i64 w x e.chunks) (hpl:e.path.length≤1048576) (hcl:e.chunks.length≤1048576) (h0:aE e.path≠[]) (hd:aG U (aE e.path)=none) (q q':Int) (L L':List En) (hqq:(q=0→q'=bU L e∧L'=cK L e)∧(q≠0→q'=q∧L'=L)) (hL:q=0→aU L∧aV L) (hrec:∀ u:World,Below w.heap.size w u→Calls Tryz.prog 148 #[.slice a U.length c,.agg #[.string (str (aE e.path)),.int .i64 2,.int .i64 0,.slice none 0 0]] u (eV q L u)) :
  Calls Tryz.prog 148 #[.slice a U.length c,.agg #[.string (str e.path),.int .i64 e.kind,.int .i64 e.size,.slice x e.chunks.length cc]] w (eV q' L' w):=by
 have hmf:∀ (fn:Fn) (first cap:Array Value) (w:World),(Instr.makeFunc fn first cap).run Tryz.prog w=.ok (.func fn first cap) w:=fun _ _ _ _=>rfl
 have hsz:=aK e.path;have HPO:Hid (∀ u:World,Calls Tryz.prog 177 #[.string (str e.path)] u fun r w'=>r=.returned (.agg #[.int .i64 (nE e.path),.string (str (kZ e.path))])∧Below u.heap.size u w'):=aA (fun u=>by have h1:=gB (str e.path) u (by omega);rw[aT]at h1;exact h1)
 have hlU:=hR.len;have HSU:=aA (cG hR);have HR0:=aA h;have HX0:=aA hx;have B0:=aA (aB (aC w (.cells #[.string (str e.path),.int .i64 e.kind,.int .i64 e.size,.slice x e.chunks.length cc] 50)) (aC (w.alloc (.cells #[.string (str e.path),.int .i64 e.kind,.int .i64 e.size,.slice x e.chunks.length cc] 50)) (.cells #[.int .i64 0,.slice none 0 0] 131)));have FE0:=aA ((cI.new w (.string (str e.path)) (.int .i64 e.kind) (.int .i64 e.size) (.slice x e.chunks.length cc) 50).below (aC (w.alloc (.cells #[.string (str e.path),.int .i64 e.kind,.int .i64 e.size,.slice x e.chunks.length cc] 50)) (.cells #[.int .i64 0,.slice none 0 0] 131)))
 have BX0:=aA (Box.new (w.alloc (.cells #[.string (str e.path),.int .i64 e.kind,.int .i64 e.size,.slice x e.chunks.length cc] 50)) (.int .i64 0) (.slice none 0 0) 131);have hsA:(w.alloc (.cells #[.string (str e.path),.int .i64 e.kind,.int .i64 e.size,.slice x e.chunks.length cc] 50)).heap.size=w.heap.size+1:=by simp
 rw[hsA]at BX0;have hs0:((w.alloc (.cells #[.string (str e.path),.int .i64 e.kind,.int .i64 e.size,.slice x e.chunks.length cc] 50)).alloc (.cells #[.int .i64 0,.slice none 0 0] 131)).heap.size=w.heap.size+2:=by simp
 clear h hx hsA;rw[oH hp,if_neg h0,qU hp]at HPO;obtain ⟨hpp,hpb⟩:=cU hp h0;have hppl:(aE e.path).length≤1048576:=by have:=dZ hpb;omega
 have HEA0:=aA (fun u (hu:Below w.heap.size w u)=>oB a c U.length U (aE e.path) u (HR0.out.below hu) rfl (by omega) HSU.out hppl)
 rw[show dK U (aE e.path)=4 by rw[dK,if_pos (tP hR hpp),hd];rfl]at HEA0
 have HEA:Hid (∀ u:World,Below w.heap.size w u→Calls Tryz.prog 149 #[.slice a U.length c,.string (str (aE e.path))] u fun r w'=>∃ lv ln lc,r=.returned (.agg #[.int .i64 4,.slice lv ln lc])∧Below u.heap.size u w'):=aA (fun u hu=>(HEA0.out u hu).mono (fun r w' ⟨lv,lc,h2,_,h4⟩=>⟨lv,_,lc,h2,h4⟩))
 have hfl:∀ (w:World) (F:Int) (v:Value),(Instr.field 131 (.agg #[.int .i64 F,v]) 0).run Tryz.prog w=.ok (.int .i64 F) w:=fun _ _ _=>by kernel_rfl
 have HREC:=aA hrec;have HLL:=aA hL;have HQQ:=aA hqq;clear HEA0 hd hpp hpb hrec hL hqq;go_enter_defers Tryz.func148,Tryz.ntmps148;obtain ⟨f0,f1,f2,f3⟩:=FE0.out;go_wp2_with fail
 clear f0 f1 f2 f3;generalize ((w.alloc (.cells #[.string (str e.path),.int .i64 e.kind,.int .i64 e.size,.slice x e.chunks.length cc] 50)).alloc (.cells #[.int .i64 0,.slice none 0 0] 131))=W0 at *;refine (HPO.out W0).mono ?_;rintro r w1 ⟨rfl,hb1⟩;generalize aE e.path=PT at *;have A1:=aA (aB hb1 (aC w1 (.cells #[.int .i64 0,.string (str PT)] 188)));have T1:=aA (Box.new w1 (.int .i64 0) (.string (str PT)) 188);have BX1:=aA (BX0.out.below A1.out);have FE1:=aA (FE0.out.below A1.out);have B1:=aA (aB B0.out A1.out);have hs1:=A1.out.size;clear hb1 HPO;obtain ⟨⟨s0,s1⟩,s2,s3⟩:=T1.out
 obtain ⟨⟨t0,t1⟩,t2,t3⟩:=BX1.out;go_wp2_with fail
 clear s0 s1 s2 s3 t0 t1 t2 t3;generalize w1.alloc (.cells #[.int .i64 0,.string (str PT)] 188)=V1 at *;generalize w1.heap.size=bT at *;refine (HEA.out V1 B1.out).mono ?_;rintro r W1 ⟨lv,ln,lc,rfl,hbE⟩;have BX1':=aA (BX1.out.below hbE);have FE1':=aA (FE1.out.below hbE);have B1':=aA (aB B1.out hbE);have T1':=aA (T1.out.below hbE);have hsE:=hbE.size;clear BX1 FE1 B1 hbE T1;have BX1:=BX1';have FE1:=FE1';have B1:=B1';have T1:=T1';clear BX1' FE1' B1' T1';obtain ⟨⟨s0,s1⟩,s2,s3⟩:=T1.out;obtain ⟨⟨t0,t1⟩,t2,t3⟩:=BX1.out;go_wp2_with fail
 clear s0 s1 s2 s3 t0 t1 t2 t3;refine (HREC.out W1 B1.out).mono ?_;rintro r w4 ⟨av4,cv4,rfl,hG4,hb4⟩;have BX4:=aA (BX1.out.below hb4);have FE4:=aA (FE1.out.below hb4);have B4:=aA (aB B1.out hb4);have G4:=aA hG4;have hs4:=hb4.size;clear hG4 hb4 BX1 FE1 B1 T1;obtain ⟨⟨t0,t1⟩,t2,t3⟩:=BX4.out;generalize hN4:L.length=N4 at *;go_wp2_with fail
 clear t0 t1 t2 t3;have BX5:=aA (zc0 BX4.out (.int .i64 q) (.slice av4 N4 cv4));have hne:w.heap.size≠w.heap.size+1:=by omega
 have KT:Hid (aD (fun b=>b=w.heap.size+1) w4 ((w4.setCell ⟨w.heap.size+1,0,none⟩ (.int .i64 q)).setCell ⟨w.heap.size+1,1,none⟩ (.slice av4 N4 cv4))):=aA (aD.two w4 (w.heap.size+1) 0 1 _ _)
 have hzW:((w4.setCell ⟨w.heap.size+1,0,none⟩ (.int .i64 q)).setCell ⟨w.heap.size+1,1,none⟩ (.slice av4 N4 cv4)).heap.size=w4.heap.size:=by simp[World.setCell]
 have BW:Hid (Below w.heap.size w ((w4.setCell ⟨w.heap.size+1,0,none⟩ (.int .i64 q)).setCell ⟨w.heap.size+1,1,none⟩ (.slice av4 N4 cv4))):=aA ((B4.out.setCell (p:=⟨w.heap.size+1,0,none⟩) (by show w.heap.size≤w.heap.size+1;omega) _).setCell (p:=⟨w.heap.size+1,1,none⟩) (by show w.heap.size≤w.heap.size+1;omega) _)
 have FE5:=aA (wM FE4.out KT.out hne);have G5:=aA (zon (u:=.int .i64 q) (v:=.slice av4 N4 cv4) G4.out (show w.heap.size+1<W1.heap.size by omega))
 refine leaves_cons (f:=195) (args:=#[.pointer (some ⟨w.heap.size+1,0,none⟩),.pointer (some ⟨w.heap.size,0,none⟩)]) (by simp) (by simp[go_sem]) ?_
 generalize (w4.setCell ⟨w.heap.size+1,0,none⟩ (.int .i64 q)).setCell ⟨w.heap.size+1,1,none⟩ (.slice av4 N4 cv4)=W5 at *;by_cases hq:q=0
 ·subst hq
  obtain ⟨hRL,hSL⟩:=HLL.out rfl;have hL12:=hRL.len;refine (sX (w.heap.size+1) w.heap.size av4 N4 cv4 L e x cc .returning W5 BX5.out FE5.out G5.out.rd hN4.symm (by omega) hSL (HX0.out.below BW.out) hpl hcl).mono ?_
  rintro r u' w' ⟨rfl,rfl,w6,av6,cv6,hb6,hG6,rfl⟩;have BX6:=BX5.out.below hb6;obtain ⟨⟨t0,t1⟩,t2,t3⟩:=BX6;have HF:=aA (eV.of (q:=bU L e) (w2:=w) (u:=.int .i64 (bU L e)) (v:=.slice av6 (cK L e).length cv6) (show w.heap.size+1<W5.heap.size by omega) (by omega) rfl hG6 (aB BW.out hb6))
  obtain ⟨e1,e2⟩:=HQQ.out.1 rfl;subst e1;subst e2;simp[Leaves,settle,results,Tryz.results148,go_sem,t0,t1]
  exact HF.out
 ·refine (ze7 (w.heap.size+1) w.heap.size q _ .returning W5 BX5.out hq).mono ?_
  rintro r u' w' ⟨rfl,rfl,rfl⟩;obtain ⟨⟨t0,t1⟩,t2,t3⟩:=BX5.out;have HF:Hid (eV q L w (.returned (.agg #[.int .i64 q,.slice av4 N4 cv4])) w'):=aA ⟨av4,cv4,by rw[hN4],by rw[hN4];exact (G5.out.mono (by omega)).wide (by omega),BW.out⟩
  obtain ⟨e1,e2⟩:=HQQ.out.2 hq;subst e1;subst e2;simp[Leaves,settle,results,Tryz.results148,go_sem,t0,t1]
  exact HF.out
theorem zf7 (a:Option Addr) (c:Nat) (U:List En) (hR:aU U):∀ (n:Nat) (e:En) (x:Option Addr) (cc:Nat) (w:World),(bG e.path).length=n→aF e.path=0→RdE w a U→aP .i64 w x e.chunks→e.path.length≤1048576→e.chunks.length≤1048576 →
  Calls Tryz.prog 148 #[.slice a U.length c,.agg #[.string (str e.path),.int .i64 e.kind,.int .i64 e.size,.slice x e.chunks.length cc]] w (eV (gL n U e).1 (gL n U e).2 w):=by
 intro n
 induction n with
 | zero =>
  intro e x cc w hn hp h hx hpl hcl;exact zh7 a c U hR e x cc w hp h hx hpl hcl (zx4 hp hn)
 | succ n ih =>
  intro e x cc w hn hp h hx hpl hcl;have h0:aE e.path≠[]:=fun e0=>by
   have h1:=lO hp rfl;rw[if_pos e0]at h1;rw[h1]at hn;simp at hn
  obtain ⟨hpp,hpb⟩:=cU hp h0;cases hd:aG U (aE e.path) with
  | some d =>
   have hnn:gZ U e=false:=by simp[gZ,hd]
   rw[wF hnn];exact zka a c U hR e x cc w hp h hx hpl hcl h0 d hd
  | none =>
   have hnn:gZ U e=true:=by simp[gZ,hd,h0]
   refine zg7 a c U hR e x cc w hp h hx hpl hcl h0 hd (gL n U (fJ (aE e.path))).1 _ (gL n U (fJ (aE e.path))).2 _ ⟨fun hq=>by rw[zf0 hnn hq];exact ⟨rfl,rfl⟩,fun hq=>by rw[ze0 hnn hq];exact ⟨rfl,rfl⟩⟩ (fun hz=>wG hz)
    (fun u hu=>ih (fJ (aE e.path)) none 0 u (zwn hp h0 hn) hpp (h.below hu) (fun hz=>absurd rfl hz) (by have:=dZ hpb;show (aE e.path).length≤1048576;omega) (by simp[fJ]))
end Go.Proofs.YtolnlfnndnpiiaaGreat
