/-
  Texts put together: OvrH OvrJ MntC AppAt OvrK.
-/
import Derived.Test.YtgaeikgoknoamaaGreatKCollec20
import Derived.Test.YtgaeikgoknoamaaGreatKCollec19
import Derived.Test.YtgaeikgoknoamaaGreatKCollec8
import Derived.Test.YtgaeikgoknoamaaGreatKCollec9
import Derived.Test.YtgaeikgoknoamaaGreatKCollec11
import Derived.Test.YtgaeikgoknoamaaGreatKCollec1
import Derived.Maps.AppendAt
import Derived.Test.YtgaeikgoknoamaaGreatKCollec10
set_option linter.unusedVariables false
set_option maxHeartbeats 12800000
set_option maxRecDepth 100000
namespace Go.Proofs.YtgaeikgoknoamaaGreat
open Go.RowKit Go.Maps
attribute [local go_sem ↓] Go.wp_at_zero Go.wp_at_succ
theorem zg7 {es:List En} {ups:List Bs} (h:dO es ups=2):∃ u∈ups,cO es u=2:=by
 unfold dO at h;split at h
 ·rename_i h2
  obtain ⟨u,hu,hr⟩:=List.any_eq_true.1 h2;exact ⟨u,hu,of_decide_eq_true hr⟩
 ·split at h <;> omega
theorem zi7 {es:List En} {u:Bs} (h:cO es u=2):∃ d,aL es u=some d∧(d.kind=3∨d.kind=1):=by
 unfold cO at h;cases hf:aL es u with
 | none=>rw[hf]at h;simp at h
 | some d =>
  rw[hf]at h;refine ⟨d,rfl,?_⟩;by_cases hk:d.kind=3∨d.kind=1
  ·exact hk
  ·simp only[hk,if_false]at h
   split at h <;> omega
theorem zH {es:List En} (h:bD es) {p:Bs} (hp:aG p=0) {e:En} (he:aL es p=some e):dO es (bM p)≠2:=by
 intro h2;obtain ⟨u,hu,hr⟩:=zg7 h2;obtain ⟨d,hd,hk⟩:=zi7 hr;have hb:eG p u=true:=by simpa [eG] using hu
 rw[kL hp]at hb;obtain ⟨hpu,hbl⟩:=of_decide_eq_true hb;obtain ⟨hem,rfl⟩:=eR he;obtain ⟨d',hd',hpd,hk'⟩:=(iV.1 h).1.up hpu hem hbl;have h3:=eJ h.rise hd';rw[hpd,hd]at h3;cases h3
 simp only[cG,decide_eq_true_eq]at hk';omega
theorem zl8 {es:List En} (h:bD es) (p:Bs):((bM p).any fun u=>(aL es u).any fun e=>!decide (e.kind=2))=decide (dO es (bM p)≠0):=by
 rw[Bool.eq_iff_iff,decide_eq_true_iff,zkd,List.any_eq_true];constructor
 ·rintro ⟨u,hu,hr⟩
  have:tU es u=true:=hr;rw[zr1 h]at this;exact ⟨u,hu,of_decide_eq_true this⟩
 ·rintro ⟨u,hu,hr⟩
  exact ⟨u,hu,by
           have:tU es u=true:=by rw[zr1 h];exact decide_eq_true hr
           exact this⟩
theorem nB {ls:List (List En)} {m:Nat} {es:List En} (h:ls[m]?=some es) (q:Bs):gB ls m q=aL es q:=by simp[gB,h]
theorem vQ {ls:List (List En)} {m:Nat} {es:List En} (h:ls[m]?=some es) (hR:bD es) {p:Bs} (hn:aL es p=none) (ho:dO es (bM p)≠0):fE (gB ls) p (m+1)=none:=by
 refine xY (by rw[nB h];exact hn) ?_
 have:=zl8 hR p;rw[decide_eq_true ho]at this;rw[←this];simp only[nB h]
theorem zk8 {ls:List (List En)} {m:Nat} {es:List En} (h:ls[m]?=some es) (hR:bD es) {p:Bs} (hn:aL es p=none) (ho:dO es (bM p)=0):fE (gB ls) p (m+1)=fE (gB ls) p m:=by
 refine qI (by rw[nB h];exact hn) ?_
 have:=zl8 hR p;rw[decide_eq_false (by omega)]at this
 rw[←this];simp only[nB h]
theorem wP (a:Option Addr) (c n:Nat) (ls:List (List En)) (p:Bs) (w:World) (h:RdL w a ls) (hn:n=ls.length) (h4:ls.length≤4) (hR:∀ es∈ls,bD es) (hp:aG p=0) (hpl:p.length≤1048576) :
  Calls Tryz.prog 275 #[.slice a n c,.string (str p)] w fun r w'=>r=.returned (.int .i64 (cD (kX ls p)))∧Below w.heap.size w w':=by
 subst hn;have HR:=aA h;have HRi:=aA hR;have HV0:=aA (show kX ls p=fE (gB ls) p ls.length from qJ h4)
 have hw1:IntKind.i64.wrap ((ls.length:Int) - 1)=(ls.length:Int) - 1:=by simp[IntKind.wrap,IntKind.signed,IntKind.bits];omega
 clear h hR;generalize hV:kX ls p=V at *;clear hV;go_enter Tryz.func275,Tryz.ntmps275;go_wp2_with fail
 go_loopw [5] (fun i wr=>∃ k:Nat,k≤ls.length∧i=.int .i64 ((k:Int) - 1)∧Hid (V=fE (gB ls) p k)∧Hid (Below w.heap.size w wr)) (fun i _=>(intOf i+1).toNat)
 case atStart=>exact ⟨ls.length,Nat.le_refl _,rfl,HV0,aA (Below.refl _ _)⟩
 case round =>
  obtain ⟨k,hk,hi,HV,HW⟩:=hrel;cases k with
  | zero =>
   rw[show ((0:Nat):Int) - 1 = -1 from rfl]at hi
   subst hi;have HN:=aA (show V=none from HV.out)
   go_wp2_with fail
   go_ret
   exact ⟨by rw[HN.out];rfl,HW.out⟩
  | succ m =>
   rw[show ((m+1:Nat):Int) - 1=(m:Int) from by omega]at hi
   subst hi;have hm0:(0:Int)≤(m:Int):=by omega
   have hm1:(m:Int)<(ls.length:Int):=by omega
   have hm2:IntKind.i64.wrap ((m:Int) - 1)=(m:Int) - 1:=by simp[IntKind.wrap,IntKind.signed,IntKind.bits];omega
   obtain ⟨b,off,es,x,cc,rfl,hb,he,c0,hr⟩:=(HR.out.below HW.out).at (k:=m) (by omega)
   have hRi:=HRi.out es (List.mem_of_getElem? he);have hel:=hRi.len;have HX:=aA he;have HRI:=aA hRi;have HOV:=aA (sC x cc es.length es p wr hr rfl (by omega) hp hpl)
   have HAT:Hid (∀ w',Below wr.heap.size wr w'→Calls Tryz.prog 189 #[.slice x es.length cc,.string (str p)] w' fun r w2=>r=.returned (.int .i64 (cD (atE es p)))∧w2=w'):=aA (fun w' hb'=>gU x cc es.length es p w' (hr.below hb') rfl (by omega))
   have HRE:=aA hr;have KC:Hid (∀ w',Below wr.heap.size wr w'→w'.cell? ⟨b,off+m,none⟩=some (.slice x es.length cc)):=aA (fun w' hb'=>(hb'.cell (p:=⟨b,off+m,none⟩) hb).trans c0)
   clear he hRi hr;cases ha:atE es p with
   | none =>
    have hf:=gJ ha;rw[ha]at HAT;have e1:cD none = -1:=rfl;rw[e1]at HAT;clear ha e1;rcases oS es (bM p) with ho | ho | ho
    ·have HN:=aA (HV.out.trans (zk8 HX.out HRI.out hf ho))
     rw[ho]at HOV;clear hf ho;go_wp2_with fail
     refine HOV.out.mono ?_;rintro r w1 ⟨rfl,hb1⟩;have B1:=aA hb1;have c1:=KC.out w1 hb1;clear hb1 c0;go_wp2_with fail
     refine (HAT.out w1 B1.out).mono ?_;rintro r w2 ⟨rfl,rfl⟩;go_wp2_with fail
     go_roundw
     case rel=>exact ⟨m,by omega,rfl,HN,aA (aB HW.out B1.out)⟩
     case measure=>simp[intOf]
    ·have HN:=aA (HV.out.trans (vQ HX.out HRI.out hf (by omega)))
     rw[ho]at HOV;clear hf ho;go_wp2_with fail
     refine HOV.out.mono ?_;rintro r w1 ⟨rfl,hb1⟩;have B1:=aA hb1;have c1:=KC.out w1 hb1;clear hb1 c0;go_wp2_with fail
     refine (HAT.out w1 B1.out).mono ?_;rintro r w2 ⟨rfl,rfl⟩;go_wp2_with fail
     go_ret
     exact ⟨by rw[HN.out];rfl,aB HW.out B1.out⟩
    ·have HN:=aA (HV.out.trans (vQ HX.out HRI.out hf (by omega)))
     rw[ho]at HOV;clear hf ho;go_wp2_with fail
     refine HOV.out.mono ?_;rintro r w1 ⟨rfl,hb1⟩;have B1:=aA hb1;clear hb1 c0;go_wp2_with fail
     go_ret
     exact ⟨by rw[HN.out];rfl,aB HW.out B1.out⟩
   | some q =>
    obtain ⟨e,he,hf⟩:=kK ha;have hq:=nO ha;have hno:=zH HRI.out hp hf;have HHit:=aA (HV.out.trans (sW (by rw[nB HX.out];exact hf)))
    rw[ha]at HAT;have e1:cD (some q)=(q:Int):=rfl;rw[e1]at HAT;have hq0:(0:Int)≤(q:Int):=by omega
    have hq1:(q:Int)<(es.length:Int):=by omega
    obtain ⟨bb,off2,e',x',cc',rfl,hb2,he',z0,z1,z2,z3,hr'⟩:=HRE.out.at hq;have:e'=e:=Option.some.inj (he'.symm.trans he);subst this;have KZ:Hid (∀ w',Below wr.heap.size wr w'→w'.cell? ⟨bb,off2+q * 4+1,none⟩=some (.int .i64 e'.kind)):=aA (fun w' hb'=>(hb'.cell (p:=⟨bb,off2+q * 4+1,none⟩) hb2).trans z1)
    have h2:(dO es (bM p)==2)=false:=by simpa using hno
    generalize dO es (bM p)=O at *;clear ha e1 he he' hr' z0 z1 z2 z3 hno hf;by_cases h3:e'.kind=3
    ·rw[if_pos h3]at HHit
     have h3':(e'.kind==3)=true:=by simpa using h3
     clear h3;go_wp2_with fail
     refine HOV.out.mono ?_;rintro r w1 ⟨rfl,hb1⟩;have B1:=aA hb1;have c1:=KC.out w1 hb1;have z1:=KZ.out w1 hb1;clear hb1 c0;go_wp2_with fail
     refine (HAT.out w1 B1.out).mono ?_;rintro r w2 ⟨rfl,rfl⟩;go_wp2_with fail
     go_ret
     exact ⟨by rw[HHit.out];rfl,aB HW.out B1.out⟩
    ·rw[if_neg h3]at HHit
     have h3':(e'.kind==3)=false:=by simpa using h3
     clear h3;go_wp2_with fail
     refine HOV.out.mono ?_;rintro r w1 ⟨rfl,hb1⟩;have B1:=aA hb1;have c1:=KC.out w1 hb1;have z1:=KZ.out w1 hb1;clear hb1 c0;go_wp2_with fail
     refine (HAT.out w1 B1.out).mono ?_;rintro r w2 ⟨rfl,rfl⟩;go_wp2_with fail
     go_ret
     exact ⟨by rw[HHit.out];rfl,aB HW.out B1.out⟩
theorem zf4 (a:Option Addr) (c n:Nat) (ps:List Bs) (p:Bs) (w:World) (h:aU w a ps) (hn:n=ps.length) (hl:ps.length≤1048576) :
  Calls Tryz.prog 131 #[.slice a n c,.string (str p)] w fun r w'=>r=.returned (.bool (decide (p∈ps)))∧w'=w:=by
 subst hn;have HR:=aA h;clear h;go_enter Tryz.func131,Tryz.ntmps131;go_wp2_with fail
 go_loopw [5] (fun i wr=>∃ k:Nat,k≤ps.length∧i=.int .i64 k∧wr=w∧Hid (p∉ps.take k)) (fun i _=>ps.length - (intOf i).toNat)
 case atStart=>exact ⟨0,Nat.zero_le _,rfl,rfl,aA (by simp)⟩
 case round =>
  obtain ⟨k,hk,rfl,rfl,HN⟩:=hrel;by_cases hlt:k<ps.length
  ·obtain ⟨b,off,q,rfl,hb,he,c0⟩:=HR.out.at hlt
   have hk0:(0:Int)≤(k:Int):=by omega
   have hk1:(k:Int)<(ps.length:Int):=by omega
   by_cases hq:q=p
   ·have hq2:=iD hq
    have HT:=aA (show decide (p∈ps)=true from decide_eq_true (by rw[←hq];exact List.mem_of_getElem? he))
    clear hq he;go_wp2_with fail
    go_ret
    exact ⟨by rw[HT.out];rfl,rfl⟩
   ·have hq2:=jK hq
    have HT:=aA (show p∉ps.take (k+1) from by
     rw[rH he];intro hm;rcases List.mem_append.1 hm with hm | hm
     ·exact HN.out hm
     ·simp at hm;exact hq hm.symm)
    clear hq he;go_wp2_with fail
    go_roundw
    case rel=>exact ⟨k+1,by omega,by go_num,(by first | rfl | trivial),HT⟩
    case measure=>simp[intOf];omega
  ·have HT:=aA (show decide (p∈ps)=false from decide_eq_false (by have:=HN.out;rwa [List.take_of_length_le (by omega)]at this))
   go_wp2_with fail
   go_ret
   exact ⟨by rw[HT.out];rfl,rfl⟩
end Go.Proofs.YtgaeikgoknoamaaGreat
namespace Go.Proofs.YtgaeikgoknoamaaGreat
theorem zxh {α:Type} {motive:List α→Prop} (nil:motive []) (snoc:∀ (l:List α) (x:α),motive l→motive (l ++ [x])) (l:List α):motive l:=by
 have h:∀ r:List α,motive r.reverse:=by
  intro r
  induction r with
  | nil=>exact nil
  | cons x r ih=>rw[List.reverse_cons];exact snoc _ _ ih
 have h2:=h l.reverse;rwa [List.reverse_reverse]at h2
theorem zo1 {p:Bs} (h:aG p=0):p=aF p++47 :: cN p:=by
 obtain ⟨ns,hN,hp,hc,-⟩:=eY h;have h1:cN p=sD ns:=by unfold cN;rw[hc]
 have h2:=zia hN.1;have h3:aF p=bL ns.dropLast:=by
  unfold aF;rw[hc];by_cases hl:1<ns.length
  ·rw[rA hl,List.dropLast_eq_take]
  ·have h4:bH ns=[]:=List.eq_nil_of_length_eq_zero (by rw[gS];omega)
   have h5:ns.dropLast=[]:=List.eq_nil_of_length_eq_zero (by rw[List.length_dropLast];omega)
   rw[h4,h5];rfl
 rw[h1,h3];have h6:bL ns=bL ns.dropLast++47 :: sD ns:=by
  conv=>lhs;rw[h2]
  rw[jZ];simp[bL]
 rw[←h6];exact hp
theorem zmb:∀ (q a b:Bs),Op.bytesLess (q++a) (q++b)=Op.bytesLess a b
 | [],a,b=>rfl
 | c :: q,a,b=>by
  have:=zmb q a b;simp[Op.bytesLess,this]
def cpB (q x:Bs):Bs:=q++47 :: x
theorem zdi (q a b:Bs):Op.bytesLess (cpB q a) (cpB q b)=Op.bytesLess a b:=by
 unfold cpB;rw[zmb];simp[Op.bytesLess]
theorem xM {e:En} {q:Bs} (h:aG e.path=0) (hq:aF e.path=q):e.path=cpB q (cN e.path):=by
 have:=zo1 h;rw[hq]at this;exact this
def oI (ns:List Bs):Prop:=ns.Pairwise fun x y=>Op.bytesLess x y=true
def mkE (n:Bs):En:=⟨n,0,0,[]⟩
theorem sS {ns:List Bs}:fG (ns.map mkE)↔oI ns:=by
 unfold fG oI;rw[List.pairwise_map];exact Iff.rfl
theorem wS (ns:List Bs):(ns.map mkE).map En.path=ns:=by
 rw[List.map_map]
 conv=>rhs;rw[←List.map_id ns]
 exact List.map_congr_left fun _ _=>rfl
theorem zwd {a b:List Bs} (ha:oI a) (hb:oI b) (h:∀ x,x∈a↔x∈b):a=b:=by
 have h1:a.map mkE=b.map mkE:=by
  have hra:=sS.2 ha;have hrb:=sS.2 hb;refine zj5 hra hrb (fun q=>?_)
  by_cases hq:q∈a
  ·have e1:=eJ hra (List.mem_map.2 ⟨q,hq,rfl⟩)
   have e2:=eJ hrb (List.mem_map.2 ⟨q,(h q).1 hq,rfl⟩);exact e1.trans e2.symm
  ·have hq2:q∉b:=fun hb=>hq ((h q).2 hb)
   rw[lW (fun x hx e=>?_),lW (fun x hx e=>?_)]
   ·obtain ⟨y,hy,rfl⟩:=List.mem_map.1 hx
    exact hq2 (by rw[←e];exact hy)
   ·obtain ⟨y,hy,rfl⟩:=List.mem_map.1 hx
    exact hq (by rw[←e];exact hy)
 rw[←wS a,←wS b,h1]
theorem zi8 (ps:List Bs) (p:Bs):(fO ps p).map mkE=dK (ps.map mkE) (mkE p):=by
 have h1:kC (ps.map mkE) p=sH ps p:=by
  unfold kC sH;rw[List.takeWhile_map,List.length_map];rfl
 unfold fO dK;rw[show (mkE p).path=p from rfl,h1]
 simp
theorem zp4 {ps:List Bs} {p x:Bs}:x∈fO ps p↔x=p∨x∈ps:=by
 have h1:mkE x∈(fO ps p).map mkE↔x∈fO ps p:=by
  constructor
  ·intro h
   obtain ⟨y,hy,he⟩:=List.mem_map.1 h;have:y=x:=congrArg En.path he;rw[←this];exact hy
  ·exact fun h=>List.mem_map.2 ⟨x,h,rfl⟩
 rw[←h1,zi8,lX];constructor
 ·rintro (h | h)
  ·exact .inl (congrArg En.path h)
  ·obtain ⟨y,hy,he⟩:=List.mem_map.1 h
   have:y=x:=congrArg En.path he;exact .inr (by rw[←this];exact hy)
 ·rintro (h | h)
  ·exact .inl (by rw[h])
  ·exact .inr (List.mem_map.2 ⟨x,h,rfl⟩)
theorem zxd {ps:List Bs} {p:Bs} (h:oI ps) (hn:p∉ps):oI (fO ps p):=by
 rw[←sS,zi8];refine oV (sS.2 h) (fun x hx e=>?_)
 obtain ⟨y,hy,rfl⟩:=List.mem_map.1 hx;have:y=p:=e;exact hn (by rw[←this];exact hy)
theorem zna {T:List En} (h:Fit T) (q:Bs):oI (fN T q):=by
 unfold oI fN;rw[List.pairwise_map];have h1:(cM T q).Pairwise (fun x y=>Op.bytesLess x.path y.path=true):=List.Pairwise.filter _ h.rise
 refine h1.imp_of_mem (fun {a b} ha hb hab=>?_)
 have ha':=List.mem_filter.1 ha;have hb':=List.mem_filter.1 hb;rw[xM (h.path ha'.1) (of_decide_eq_true ha'.2),xM (h.path hb'.1) (of_decide_eq_true hb'.2),zdi]at hab;exact hab
def vR (s:List Bs × List Bs) (e:En):List Bs × List Bs :=
 if cN e.path∈s.1 then s else (s.1 ++ [cN e.path],if e.kind=3 then s.2 else fO s.2 (cN e.path))
def dY (D:List En):List Bs × List Bs:=D.foldl vR ([],[])
theorem qH (D:List En) (e:En):dY (D ++ [e])=vR (dY D) e:=by simp[dY]
theorem uY (D:List En):(∀ x,x∈(dY D).1↔∃ e∈D,cN e.path=x)∧(∀ x,x∈(dY D).2↔(D.find? fun e=>decide (cN e.path=x)).any (fun e=>!decide (e.kind=3))=true)∧oI (dY D).2∧(dY D).1.length≤D.length∧(dY D).2.length≤D.length:=by
 induction D using zxh with
 | nil=>exact ⟨fun x=>by simp[dY],fun x=>by simp[dY],List.Pairwise.nil,Nat.le_refl _,Nat.le_refl _⟩
 | snoc D e ih =>
  obtain ⟨h1,h2,h3,h4,h5⟩:=ih;rw[qH];unfold vR;by_cases hm:cN e.path∈(dY D).1
  ·rw[if_pos hm]
   obtain ⟨d,hd,hdl⟩:=(h1 _).1 hm;refine ⟨fun x=>?_,fun x=>?_,h3,by simp;omega,by simp;omega⟩
   ·rw[h1]
    constructor
    ·rintro ⟨y,hy,hl⟩;exact ⟨y,by simp[hy],hl⟩
    ·rintro ⟨y,hy,hl⟩
     rcases List.mem_append.1 hy with hy | hy
     ·exact ⟨y,hy,hl⟩
     ·simp at hy;subst hy;exact ⟨d,hd,by rw[hdl,hl]⟩
   ·rw[h2,List.find?_append]
    by_cases hx:cN e.path=x
    ·have:(D.find? fun e=>decide (cN e.path=x)).isSome=true:=by
      rw[List.find?_isSome];exact ⟨d,hd,decide_eq_true (by rw[hdl,hx])⟩
     obtain ⟨y,hy⟩:=Option.isSome_iff_exists.1 this;rw[hy];simp
    ·have h7:[e].find? (fun e=>decide (cN e.path=x))=none:=by simp[hx]
     rw[h7];simp
  ·rw[if_neg hm]
   have hno:D.find? (fun y=>decide (cN y.path=cN e.path))=none:=by
    rw[List.find?_eq_none];intro y hy hq;exact hm ((h1 _).2 ⟨y,hy,of_decide_eq_true hq⟩)
   have hno2:cN e.path∉(dY D).2:=fun hq=>by
    rw[h2,hno]at hq;simp at hq
   refine ⟨fun x=>?_,fun x=>?_,?_,by simp;omega,?_⟩
   ·rw[List.mem_append,h1]
    constructor
    ·rintro (⟨y,hy,hl⟩ | hx)
     ·exact ⟨y,by simp[hy],hl⟩
     ·simp at hx;exact ⟨e,by simp,hx.symm⟩
    ·rintro ⟨y,hy,hl⟩
     rcases List.mem_append.1 hy with hy | hy
     ·exact .inl ⟨y,hy,hl⟩
     ·simp at hy;subst hy;exact .inr (by simp[hl])
   ·rw[List.find?_append]
    by_cases hx:cN e.path=x
    ·subst hx
     rw[hno];by_cases h3k:e.kind=3
     ·simp only[h3k,if_true]
      have:¬ cN e.path∈(dY D).2:=hno2;simp[this,h3k]
     ·simp only[h3k,if_false]
      rw[zp4];simp[h3k]
    ·have h7:[e].find? (fun e=>decide (cN e.path=x))=none:=by simp[hx]
     rw[h7,Option.or_none];by_cases h3k:e.kind=3
     ·simp only[h3k,if_true];exact h2 x
     ·simp only[h3k,if_false]
      rw[zp4,h2];constructor
      ·rintro (h8 | h8)
       ·exact absurd h8.symm hx
       ·exact h8
      ·exact .inr
   ·by_cases h3k:e.kind=3
    ·simp only[h3k,if_true];exact h3
    ·simp only[h3k,if_false];exact zxd h3 hno2
   ·by_cases h3k:e.kind=3
    ·simp only[h3k,if_true];simp;omega
    ·simp only[h3k,if_false];rw[pQ];simp;omega
def fW (es:List En) (q:Bs):Int:=if q=[] then 0 else eS es q
def fI (ls:List (List En)) (q:Bs):Nat→List En
 | 0=>[]
 | n+1=>match ls[n]? with
  | none=>[]
  | some es=>if fW es q=2 then [] else cM es q++(if fW es q=1 then [] else fI ls q n)
theorem rQ {ls:List (List En)} {q:Bs} {n:Nat} {es:List En} (h:ls[n]?=some es) (h2:fW es q=2):fI ls q (n+1)=[]:=by simp[fI,h,h2]
theorem mW {ls:List (List En)} {q:Bs} {n:Nat} {es:List En} (h:ls[n]?=some es) (h1:fW es q=1):fI ls q (n+1)=cM es q:=by simp[fI,h,h1]
theorem oX {ls:List (List En)} {q:Bs} {n:Nat} {es:List En} (h:ls[n]?=some es) (h2:fW es q≠2) (h1:fW es q≠1):fI ls q (n+1)=cM es q++fI ls q n:=by simp[fI,h,h1,h2]
theorem zf3 {ls:List (List En)} {q:Bs} (h:∀ es∈ls,bD es):∀ n,n≤ls.length→(fI ls q n).length≤12 * n
 | 0,_=>by simp[fI]
 | n+1,hn=>by
  have ih:=zf3 (q:=q) h n (by omega)
  obtain ⟨es,he⟩:∃ es,ls[n]?=some es:=⟨_,List.getElem?_eq_getElem (by omega)⟩
  have h12:=(h es (List.mem_of_getElem? he)).len;have hk:(cM es q).length≤es.length:=List.length_filter_le _ _;by_cases h2:fW es q=2
  ·rw[rQ he h2];simp
  ·by_cases h1:fW es q=1
   ·rw[mW he h1];omega
   ·rw[oX he h2 h1,List.length_append];omega
theorem zg3 {ls:List (List En)} {q:Bs}:∀ {n:Nat} {e:En},e∈fI ls q n→aF e.path=q∧∃ es∈ls,e∈es
 | 0,e,h=>by simp[fI]at h
 | n+1,e,h=>by
  cases he:ls[n]? with
  | none=>simp[fI,he]at h
  | some es =>
   have hk:∀ {x},x∈cM es q→aF x.path=q∧∃ es∈ls,x∈es:=fun hx=>⟨of_decide_eq_true (List.mem_filter.1 hx).2,es,List.mem_of_getElem? he,(List.mem_filter.1 hx).1⟩
   by_cases h2:fW es q=2
   ·rw[rQ he h2]at h;simp at h
   ·by_cases h1:fW es q=1
    ·rw[mW he h1]at h;exact hk h
    ·rw[oX he h2 h1]at h
     rcases List.mem_append.1 h with h | h
     ·exact hk h
     ·exact zg3 h
theorem lS {c q:Bs} (hc:aG c=0) (hq:aF c=q):bM c=if q=[] then [] else bM q ++ [q]:=by
 obtain ⟨ns,hN,hp,hcu,-⟩:=eY hc;rw[eL hc,hcu];have hpar:q=(bH ns).getLastD []:=by rw[←hq];unfold aF;rw[hcu]
 by_cases h0:q=[]
 ·rw[if_pos h0]
  have:=lF.1 (hq.trans h0);rw[hcu]at this;exact this
 ·rw[if_neg h0]
  have hl:1<ns.length:=by
   refine Nat.lt_of_not_le (fun hle=>h0 ?_)
   have h4:bH ns=[]:=List.eq_nil_of_length_eq_zero (by rw[gS];omega)
   rw[hpar,h4];rfl
  rw[rA hl]at hpar;have hT:mC (ns.take (ns.length - 1)):=oR hN (by omega)
  have hqf:aG q=0:=by rw[hpar];exact nU hT
  rw[eL hqf];have hcq:bB q.tail=ns.take (ns.length - 1):=by rw[hpar];exact zsb hT
  rw[hcq];unfold bH;rw[List.length_take];obtain ⟨m,hm⟩:∃ m,ns.length=m+2:=⟨ns.length - 2,by omega⟩
  have e1:min (ns.length - 1) ns.length - 1=m:=by omega
  have e2:ns.length - 1=m+1:=by omega
  rw[e1,e2,List.range_succ,List.map_append]
  congr 1
  ·refine List.map_congr_left fun k hk=>?_
   have:=List.mem_range.1 hk;rw[List.take_take,Nat.min_eq_left (by omega)]
  ·simp[hpar,e2]
theorem zf7 (es:List En) (ups:List Bs) (q:Bs):dO es (ups ++ [q])=if dO es ups=2∨cO es q=2 then 2 else if dO es ups=1∨cO es q=1 then 1 else 0:=by
 unfold dO;simp only[List.any_append,List.any_cons,List.any_nil,Bool.or_false];by_cases h1:ups.any (fun u=>decide (cO es u=2))=true
 ·simp[h1]
 ·by_cases h2:ups.any (fun u=>decide (cO es u=1))=true
  ·rcases sP es q with h | h | h <;> simp[h1,h2,h]
  ·rcases sP es q with h | h | h <;> simp[h1,h2,h]
theorem sL {es:List En} {c q:Bs} (hc:aG c=0) (hq:aF c=q):dO es (bM c)=fW es q:=by
 rw[lS hc hq];unfold fW;by_cases h0:q=[]
 ·rw[if_pos h0,if_pos h0];simp[dO]
 ·rw[if_neg h0,if_neg h0,zf7];rfl
theorem zp0 {ls:List (List En)} (hR:∀ es∈ls,bD es) {c q:Bs} (hc:aG c=0) (hq:aF c=q) :
  ∀ n,n≤ls.length→((fI ls q n).find? fun e=>decide (cN e.path=cN c)).any (fun e=>!decide (e.kind=3))=(fE (gB ls) c n).isSome
 | 0,_=>by simp[fI,fE]
 | n+1,hn=>by
  have ih:=zp0 hR hc hq n (by omega)
  obtain ⟨es,he⟩:∃ es,ls[n]?=some es:=⟨_,List.getElem?_eq_getElem (by omega)⟩
  have hRi:=hR es (List.mem_of_getElem? he);have hF:=(iV.1 hRi).1;have hcp:c=cpB q (cN c):=by have:=zo1 hc;rw[hq]at this;exact this
  have hkid:∀ x∈cM es q,cN x.path=cN c→x.path=c:=fun x hx hl=>by
   have hx':=List.mem_filter.1 hx;have:=xM (hF.path hx'.1) (of_decide_eq_true hx'.2);rw[hl,←hcp]at this;exact this
  cases hf:aL es c with
  | none =>
   have hno:(cM es q).find? (fun e=>decide (cN e.path=cN c))=none:=by
    rw[List.find?_eq_none];intro x hx hl;have h1:=hkid x hx (of_decide_eq_true hl);have h2:=eJ hRi.rise (List.mem_filter.1 hx).1;rw[h1,hf]at h2;cases h2
   by_cases h2:fW es q=2
   ·rw[rQ he h2,vQ he hRi hf (by rw[sL hc hq,h2];decide)];rfl
   ·by_cases h1:fW es q=1
    ·rw[mW he h1,hno,vQ he hRi hf (by rw[sL hc hq,h1];decide)];rfl
    ·have h0:dO es (bM c)=0:=by
      have:=sL (es:=es) hc hq;rcases oS es (bM c) with h | h | h
      ·exact h
      ·rw[h]at this;exact absurd this.symm h1
      ·rw[h]at this;exact absurd this.symm h2
     rw[oX he h2 h1,List.find?_append,hno,Option.none_or,zk8 he hRi hf h0];exact ih
  | some e =>
   obtain ⟨hem,hep⟩:=eR hf;have h2:fW es q≠2:=by rw[←sL hc hq];exact zH hRi hc hf
   have hek:e∈cM es q:=List.mem_filter.2 ⟨hem,decide_eq_true (by rw[hep];exact hq)⟩
   have hfi:(cM es q).find? (fun x=>decide (cN x.path=cN c))=some e:=by
    have:((cM es q).find? (fun x=>decide (cN x.path=cN c))).isSome=true:=by
     rw[List.find?_isSome];exact ⟨e,hek,decide_eq_true (by rw[hep])⟩
    obtain ⟨y,hy⟩:=Option.isSome_iff_exists.1 this;have hy1:=List.mem_of_find?_eq_some hy;have hy4:=List.find?_some hy;have hy2:=hkid y hy1 (by simpa using hy4)
    have hy3:=eJ hRi.rise (List.mem_filter.1 hy1).1;rw[hy2,hf]at hy3;rw[hy,←hy3]
   have hpre:∃ r,fI ls q (n+1)=cM es q++r:=by
    by_cases h1:fW es q=1
    ·exact ⟨[],by rw[mW he h1,List.append_nil]⟩
    ·exact ⟨_,oX he h2 h1⟩
   obtain ⟨r,hr⟩:=hpre;rw[hr,List.find?_append,hfi,sW (by rw[nB he];exact hf)]
   by_cases h3:e.kind=3 <;> simp[h3]
theorem zx8 {ls:List (List En)} (hR:∀ es∈ls,bD es) (h4:ls.length≤4) (q:Bs):(dY (fI ls q ls.length)).2=fN (aT ls) q:=by
 obtain ⟨-,h2,h3,-⟩:=uY (fI ls q ls.length);have hF:=kW hR;have hfa:=zP hF;refine zwd h3 (zna hfa.fit q) (fun x=>?_)
 have key:∀ c,aG c=0→aF c=q→cN c=x→(x∈(dY (fI ls q ls.length)).2↔(aL (aT ls) c).isSome=true):=fun c hc hq hx=>by
  rw[h2,←hx,zp0 hR hc hq ls.length (Nat.le_refl _),xE hF h4 hc];have e1:fE (gB ls) c ls.length=kX ls c:=(qJ h4).symm;rw[e1];unfold zk5;cases hs:kX ls c with
  | none=>simp
  | some k =>
   obtain ⟨-,e,he,-⟩:=qK (show fE (gB ls) c 4=some k from hs)
   simp[he]
 constructor
 ·intro hx
  have hx':=(h2 x).1 hx;cases hf:(fI ls q ls.length).find? fun e=>decide (cN e.path=x) with
  | none=>rw[hf]at hx';simp at hx'
  | some e =>
   have hem:=List.mem_of_find?_eq_some hf;have hel0:=List.find?_some hf;have hel:cN e.path=x:=by simpa using hel0
   obtain ⟨hpq,es,hes,hee⟩:=zg3 hem;have hpf:=(hF es hes).path hee;obtain ⟨y,hy⟩:=Option.isSome_iff_exists.1 ((key e.path hpf hpq hel).1 hx);obtain ⟨hym,hyp⟩:=eR hy;exact List.mem_map.2 ⟨y,List.mem_filter.2 ⟨hym,decide_eq_true (by rw[hyp];exact hpq)⟩,by rw[hyp];exact hel⟩
 ·intro hx
  obtain ⟨y,hy,hyl⟩:=List.mem_map.1 hx;obtain ⟨hym,hyp⟩:=List.mem_filter.1 hy;exact (key y.path (hfa.fit.path hym) (of_decide_eq_true hyp) hyl).2 (by rw[eJ hfa.fit.rise hym];rfl)
end Go.Proofs.YtgaeikgoknoamaaGreat
namespace Go.Proofs.YtgaeikgoknoamaaGreat
open Go.RowKit Go.Maps
attribute [local go_sem ↓] Go.wp_at_zero Go.wp_at_succ
def gI (q:Bs):En:=⟨q,2,0,[]⟩
def iU (U:List En) (e:En):Bool:=!decide (aF e.path=[])&&(aL U (aF e.path)).isNone
def iG:Nat→List En→En→Int × List En
 | 0,U,e=>(eT U e,gA U e)
 | n+1,U,e=>if iU U e=true then (if (iG n U (gI (aF e.path))).1=0 then (eT (iG n U (gI (aF e.path))).2 e,gA (iG n U (gI (aF e.path))).2 e) else iG n U (gI (aF e.path))) else (eT U e,gA U e)
theorem zs0 {n:Nat} {U:List En} {e:En} (h:iU U e=false):iG n U e=(eT U e,gA U e):=by
 cases n <;> simp[iG,h]
theorem zn3 {n:Nat} {U:List En} {e:En} (h:iU U e=true) (h0:(iG n U (gI (aF e.path))).1=0):iG (n+1) U e=(eT (iG n U (gI (aF e.path))).2 e,gA (iG n U (gI (aF e.path))).2 e):=by simp[iG,h,h0]
theorem zm3 {n:Nat} {U:List En} {e:En} (h:iU U e=true) (h0:(iG n U (gI (aF e.path))).1≠0):iG (n+1) U e=iG n U (gI (aF e.path)):=by simp[iG,h,h0]
theorem zt0:∀ {n:Nat} {U:List En} {e:En},(iG n U e).1=0→bD (iG n U e).2∧bJ (iG n U e).2
 | 0,U,e,h=>by
  have h1:=uS (show eT U e=0 from h)
  have h2:(iG 0 U e).2=cZ U e:=by show gA U e=_;rw[gA,if_pos (show eT U e=0 from h)]
  rw[h2];exact ⟨h1.2.2.2.2,cS h1.2.2.2.2⟩
 | n+1,U,e,h=>by
  have key:∀ {L:List En},eT L e=0→bD (gA L e)∧bJ (gA L e):=fun {L} hL=>by
   have h1:=uS hL;rw[gA,if_pos hL];exact ⟨h1.2.2.2.2,cS h1.2.2.2.2⟩
  cases hn:iU U e
  ·rw[zs0 hn]at h ⊢
   exact key h
  ·by_cases h0:(iG n U (gI (aF e.path))).1=0
   ·rw[zn3 hn h0]at h ⊢
    exact key h
   ·rw[zm3 hn h0]at h
    exact absurd h h0
theorem zgj {e:En} {n:Nat} (hp:aG e.path=0) (h0:aF e.path≠[]) (hn:(bM e.path).length=n+1):(bM (aF e.path)).length=n:=by
 have h1:=lS hp rfl;rw[if_neg h0]at h1;rw[h1,List.length_append]at hn;simpa using hn
theorem zld {e:En} (hp:aG e.path=0) (hn:(bM e.path).length=0):aF e.path=[]:=by
 by_cases h0:aF e.path=[]
 ·exact h0
 ·have h1:=lS hp rfl
  rw[if_neg h0]at h1;rw[h1]at hn;simp at hn
end Go.Proofs.YtgaeikgoknoamaaGreat
namespace Go.Proofs.YtgaeikgoknoamaaGreat
open Go.RowKit Go.Maps
theorem eE {P:Program} {wr:World} {news:Array Value} {ops:Array Oper} {rest:List Oper} {o:Oper} {a:Act} {Q:Exit→Act→World→Prop} (hgd:o.guard=none) (s x:Operand) (t:TypeId)
  (ho:o.op=.call { callee:=.builtin .append,args:=#[s,x],argTypes:=#[t,t] })
  (base:Nat) (e:TypeId) (i:TypeInfo) (z:Value) (size bytes:Nat) (ht:P.underlying t=some (.slice e)) (hi:P.info? e=some i) (hz:i.zero=some z)
  (hsize:i.size=size) (hby:i.bytes=bytes) (hzs:z.cells.size=size) (hsz:0<size)
  (v:Value) (n:Nat) (xs:List Value) (hs:a.eval s=v) (hown:wr.ownsRow base e size v n xs)
  (hx:a.eval x=.slice (some ⟨wr.heap.size,0,none⟩) 1 1) (hl:news.size=size) (h1:∀ u∈news.toList,u.oneCell'=true)
  (h63:n+1≤maxLen) (hbytes:(n+1) * bytes≤140737488355328) (hbase:base≤wr.heap.size)
  (h:∀ v' w',w'.ownsRow base e size v' (n+1) (xs++news.toList)→aE (fun b=>v.ownBlock=some b) wr w'→(v'.ownBlock=v.ownBlock∨∃ g,v'.ownBlock=some g∧wr.heap.size≤g)→wpList P ops Q rest (a.put o.dst v') w') :
  wpList P ops Q (o :: rest) a (wr.alloc (.cells news e)):=by
 refine wpList_append_own_at _ hgd s x t ho base e i z size bytes ht hi hz hsize hby hzs hsz v n xs hs (hown.alloc _) ⟨wr.heap.size,0,none⟩ 1 1 news.toList hx (by simp[hl]) ?_ h1 h63 hbytes (by simp;omega) ?_
 ·intro j u hj
  have hadd:(⟨wr.heap.size,0,none⟩:Addr).add j=⟨wr.heap.size,j,none⟩:=by unfold Addr.add;split <;> simp_all
  rw[hadd,cell_of_row _ wr.heap.size j news e (0,0) (heap_alloc_new wr _)];simpa using hj
 ·intro v' w' ho' hg _ hat
  refine h v' w' ho' ⟨hg.os,hg.tape,hg.output,Nat.le_trans (by simp) hg.size,fun k hk hn=>?_⟩ ?_
  ·rw[hg.block k (by simp;omega) (fun e=>hn e.symm)]
   exact Below.heap_alloc _ _ _ hk
  ·rcases hat with hat | hat
   ·exact .inl hat
   ·exact .inr ⟨_,hat,by simp⟩
end Go.Proofs.YtgaeikgoknoamaaGreat
namespace Go.Proofs.YtgaeikgoknoamaaGreat
open Go.RowKit Go.Maps
attribute [local go_sem ↓] Go.wp_at_zero Go.wp_at_succ
theorem zw6 (a:Option Addr) (c n:Nat) (w:World) :
  Calls Tryz.prog 276 #[.slice a n c,.string (str [])] w fun r w'=>r=.returned (.int .i64 0)∧w'=w:=by
 have hs0:((str []).toList == [])=true:=by rw[aM];rfl
 go_enter Tryz.func276,Tryz.ntmps276;go_wp2_with fail
 go_ret
 exact ⟨rfl,rfl⟩
theorem zc4 (a:Option Addr) (c n:Nat) (es:List En) (q:Bs) (w:World) (h:RdE w a es) (hn:n=es.length) (hRi:bD es) (hq:q=[]∨aG q=0) (hql:q.length≤1048576) :
  Calls Tryz.prog 276 #[.slice a n c,.string (str q)] w fun r w'=>r=.returned (.int .i64 (fW es q))∧Below w.heap.size w w':=by
 by_cases h0:q=[]
 ·subst h0
  have e1:fW es []=0:=by simp[fW]
  rw[e1];exact (zw6 a c n w).mono (fun r w' ⟨h1,h2⟩=>⟨h1,by rw[h2];exact Below.refl _ _⟩)
 ·have e1:fW es q=eS es q:=by simp[fW,h0]
  rw[e1];exact zv6 a c n es q w h hn (by have:=hRi.len;omega) hRi (by rcases hq with hq | hq;exact absurd hq h0;exact hq) hql
theorem znh {es:List En} {q:Bs} {k:Nat} {e:En} (he:es[k]?=some e) (h:aF e.path=q):cM (es.take (k+1)) q=cM (es.take k) q ++ [e]:=by
 rw[rH he];simp[cM,h]
theorem zif {es:List En} {q:Bs} {k:Nat} {e:En} (he:es[k]?=some e) (h:aF e.path≠q):cM (es.take (k+1)) q=cM (es.take k) q:=by
 rw[rH he];simp[cM,h]
structure pC (B:Nat) (w:World) (ov sv:Value) (D:List En):Prop where
 out:bR B w ov (dY D).2
 seen:bR B w sv (dY D).1
 apart:∀ g,ov.ownBlock=some g→sv.ownBlock≠some g
theorem pC.below {B:Nat} {w w':World} {ov sv:Value} {D:List En} (h:pC B w ov sv D) (hb:Below w.heap.size w w'):pC B w' ov sv D:=⟨h.out.below hb,h.seen.below hb,h.apart⟩
theorem pC.skip {B:Nat} {w:World} {ov sv:Value} {D:List En} {e:En} (h:pC B w ov sv D) (hm:cN e.path∈(dY D).1):pC B w ov sv (D ++ [e]):=by
 have:dY (D ++ [e])=dY D:=by rw[qH,vR,if_pos hm]
 exact ⟨by rw[this];exact h.out,by rw[this];exact h.seen,h.apart⟩
theorem pC.lens {B:Nat} {w:World} {ov sv:Value} {D:List En} (h:pC B w ov sv D):(dY D).1.length≤D.length∧(dY D).2.length≤D.length:=⟨(uY D).2.2.2.1,(uY D).2.2.2.2⟩
theorem qW (a:Option Addr) (c n:Nat) (ls:List (List En)) (q:Bs) (w:World) (h:RdL w a ls) (hn:n=ls.length) (h4:ls.length≤4) (hR:∀ es∈ls,bD es) (hq:q=[]∨aG q=0) (hql:q.length≤1048576) :
  Calls Tryz.prog 270 #[.slice a n c,.string (str q)] w fun r w'=>∃ av cv,r=.returned (.slice av (fN (aT ls) q).length cv)∧bR w.heap.size w' (.slice av (fN (aT ls) q).length cv) (fN (aT ls) q)∧Below w.heap.size w w':=by
 subst hn;obtain ⟨i1,ki,kz0,kz1,kz2⟩:=info_parts mI;have HR:=aA h;have HRi:=aA hR;have HQ:=aA hq;have HNM:=aA (zx8 hR h4 q);have HCL:=aA (zf3 (q:=q) hR ls.length (Nat.le_refl _));have hw1:IntKind.i64.wrap ((ls.length:Int) - 1)=(ls.length:Int) - 1:=by simp[IntKind.wrap,IntKind.signed,IntKind.bits];omega
 have B0:=aA (aB (aC w (.cells #[] 9)) (aC (w.alloc (.cells #[] 9)) (.cells #[] 9)));have T0:Hid (pC w.heap.size ((w.alloc (.cells #[] 9)).alloc (.cells #[] 9)) (.slice (some ⟨w.heap.size,0,none⟩) 0 0) (.slice (some ⟨w.heap.size+1,0,none⟩) 0 0) []):=aA ⟨aJ (eX w) (aC _ _),by have:=eX (w.alloc (.cells #[] 9));rw[show (w.alloc (.cells #[] 9)).heap.size=w.heap.size+1 by simp]at this;exact aW this (by omega),fun g h1 h2=>by simp[Value.ownBlock]at h1 h2;omega⟩
 clear h hR hq;generalize hDD:fI ls q ls.length=DD at *;have HDD:=aA hDD;clear hDD;go_enter Tryz.func270,Tryz.ntmps270;go_wp2_with fail
 generalize (w.alloc (.cells #[] 9)).alloc (.cells #[] 9)=W0 at *;go_loopw [5,6,7] (fun ov sv i wr=>∃ (k:Nat) (D:List En),k≤ls.length∧i=.int .i64 ((k:Int) - 1)∧Hid (D++fI ls q k=DD)∧Hid (pC w.heap.size wr ov sv D)∧Hid (Below w.heap.size w wr)) (fun _ _ i _=>(intOf i+1).toNat)
 case atStart=>exact ⟨ls.length,[],Nat.le_refl _,rfl,aA (by rw[List.nil_append];exact HDD.out),T0,B0⟩
 case round =>
  obtain ⟨k,D,hk,hi,HD,HT,HW⟩:=hrel;have hcl:=HCL.out;cases k with
  | zero =>
   rw[show ((0:Nat):Int) - 1 = -1 from rfl]at hi
   subst hi;have HE:=aA (show D=DD from by have:=HD.out;simpa [fI] using this)
   obtain ⟨ov,oc,hov⟩:=HT.out.out.shape;have HO:Hid (bR w.heap.size wr (.slice ov (dY D).2.length oc) (fN (aT ls) q)):=aA (by have:=HT.out.out;rw[hov]at this;rw[←HNM.out,←HE.out];exact this)
   have HL:=aA (show (dY D).2.length=(fN (aT ls) q).length by rw[←HNM.out,HE.out])
   subst hov;clear hcl;go_wp2_with fail
   go_ret
   exact ⟨ov,oc,by rw[HL.out];rfl,by rw[←HL.out];exact HO.out,HW.out⟩
  | succ m =>
   rw[show ((m+1:Nat):Int) - 1=(m:Int) from by omega]at hi
   subst hi;have hm0:(0:Int)≤(m:Int):=by omega
   have hm1:(m:Int)<(ls.length:Int):=by omega
   have hm2:IntKind.i64.wrap ((m:Int) - 1)=(m:Int) - 1:=by simp[IntKind.wrap,IntKind.signed,IntKind.bits];omega
   obtain ⟨b,off,es,x,cc,rfl,hb,he,c0,hr⟩:=HR.out.at (k:=m) (by omega)
   have hRi:=HRi.out es (List.mem_of_getElem? he);have hel:=hRi.len;have HX:=aA he;have HRI:=aA hRi;have HSM:=aA (cS hRi);have HHI:=aA (zc4 x cc es.length es q wr (hr.below HW.out) rfl hRi HQ.out hql);have HRE:=aA hr;have KC:Hid (∀ w',Below w.heap.size w w'→w'.cell? ⟨b,off+m,none⟩=some (.slice x es.length cc)):=aA (fun w' hb'=>(hb'.cell (p:=⟨b,off+m,none⟩) hb).trans c0)
   clear he hRi hr c0;have c0:=KC.out _ HW.out;by_cases h2:fW es q=2
   ·rw[h2]at HHI
    have HE:=aA (show D=DD from by have:=HD.out;rw[rQ HX.out h2,List.append_nil]at this;exact this)
    obtain ⟨ov,oc,hov⟩:=HT.out.out.shape;have HO:Hid (bR w.heap.size wr (.slice ov (dY D).2.length oc) (fN (aT ls) q)):=aA (by have:=HT.out.out;rw[hov]at this;rw[←HNM.out,←HE.out];exact this)
    have HL:=aA (show (dY D).2.length=(fN (aT ls) q).length by rw[←HNM.out,HE.out])
    subst hov;clear hcl h2;go_wp2_with fail
    refine HHI.out.mono ?_;rintro r w1 ⟨rfl,hb1⟩;have B1:=aA hb1;clear hb1 c0;go_wp2_with fail
    go_ret
    exact ⟨ov,oc,by rw[HL.out];rfl,by rw[←HL.out];exact HO.out.below B1.out,aB HW.out B1.out⟩
   ·have hn2:(fW es q==2)=false:=by simpa using h2
    have HKD:Hid ((D++cM es q).length≤12 * ls.length):=aA (by
     have:=HD.out;by_cases h1:fW es q=1
     ·rw[mW HX.out h1]at this;rw[this];exact hcl
     ·rw[oX HX.out h2 h1,←List.append_assoc]at this
      have h5:=congrArg List.length this;rw[List.length_append]at h5;omega)
    have HHq:=aA (show (fW es q=1→D++cM es q=DD)∧(fW es q≠1→(D++cM es q)++fI ls q m=DD) from ⟨fun h1=>by have:=HD.out;rw[mW HX.out h1]at this;exact this,fun h1=>by have:=HD.out;rw[oX HX.out h2 h1,←List.append_assoc]at this;exact this⟩)
    generalize fW es q=HH at *;clear h2 hcl;go_wp2_with fail
    refine HHI.out.mono ?_;rintro r w1 ⟨rfl,hb1⟩;have B1:=aA (aB HW.out hb1);have T1:=aA (HT.out.below hb1);clear hb1 c0 HT HHI HW;go_wp2_with fail
    go_loopw [5,6,9] (fun ov sv i wx=>∃ j:Nat,j≤es.length∧i=.int .i64 j∧Hid (pC w.heap.size wx ov sv (D++cM (es.take j) q))∧Hid (Below w.heap.size w wx)) (fun _ _ i _=>es.length - (intOf i).toNat)
    case atStart=>exact ⟨0,Nat.zero_le _,rfl,aA (by simpa [cM] using T1.out),B1⟩
    case round =>
     obtain ⟨j,hj,rfl,HT,HW⟩:=hrel;have c1:=KC.out _ HW.out;obtain ⟨ov,oc,hov⟩:=HT.out.out.shape;obtain ⟨sv,sc,hsv⟩:=HT.out.seen.shape;subst hov;subst hsv;obtain ⟨LS,hLS⟩:∃ LS,LS=(dY (D++cM (es.take j) q)).1.length:=⟨_,rfl⟩;obtain ⟨LO,hLO⟩:∃ LO,LO=(dY (D++cM (es.take j) q)).2.length:=⟨_,rfl⟩;have hlens:=HT.out.lens;rw[←hLS,←hLO]at HT hlens ⊢;have HLS:=aA hLS;have HLO:=aA hLO;clear hLS hLO;by_cases hlt:j<es.length
     ·obtain ⟨bb,off2,e,xx,c2,hxe,hbb,he,y0,y1,y2,y3,hre⟩:=(HRE.out.below HW.out).at hlt
      subst hxe;have hpf:=bO (HRI.out.ent e (List.mem_of_getElem? he));have hpos:=sN hpf;have hsm:=HSM.out e (List.mem_of_getElem? he);have HXe:=aA he;have hj0:(0:Int)≤(j:Int):=by omega
      have hj1:(j:Int)<(es.length:Int):=by omega
      have HP:=aA (show (bH (bB (str e.path).data.toList.tail)).getLastD []=aF e.path from by rw[aV];rfl)
      have HLA:=aA (show sD (bB (str e.path).data.toList.tail)=cN e.path from by rw[aV];rfl)
      have BA:=aA (aC wr (.cells #[.string (str e.path),.int .i64 e.kind,.int .i64 e.size,.slice xx e.chunks.length c2] 87));have F0:=aA (cP.new wr (.string (str e.path)) (.int .i64 e.kind) (.int .i64 e.size) (.slice xx e.chunks.length c2) 87);have hkj:(D++cM (es.take j) q).length≤48:=by
       have h5:=HKD.out;have h6:(cM (es.take j) q).length≤(cM es q).length:=((List.take_sublist j es).filter _).length_le;rw[List.length_append]at h5 ⊢;omega
      clear he hre hpf;obtain ⟨t0,t1,t2,t3⟩:=F0.out;go_wp2_with fail
      clear t0 t1 t2 t3 y0 y1 y2 y3 c1;generalize wr.alloc (.cells #[.string (str e.path),.int .i64 e.kind,.int .i64 e.size,.slice xx e.chunks.length c2] 87)=WE at *;refine (zfa _ _ (by rw[aN];omega) (by rw[aN];omega)).mono ?_
      rintro r w2 ⟨rfl,hb2⟩;rw[HLA.out];have F2:=aA (F0.out.below hb2);have BE2:=aA (aB BA.out hb2);clear hb2;have t0:=F2.out.1;go_wp2_with fail
      clear t0;refine (iI _ _ (by rw[aN];omega) (by rw[aN];omega)).mono ?_
      rintro r w3 ⟨rfl,hb3⟩;rw[HP.out];have F3:=aA (F2.out.below hb3);have BE3:=aA (aB BE2.out hb3);have T3:=aA (HT.out.below BE3.out);have B3:=aA (aB HW.out BE3.out);have hwz:=B3.out.size;have k3:=F3.out.2.1;have k0:=F3.out.1;clear hb3 F2 F0;by_cases hqq:aF e.path=q
      ·have hs1:=iD hqq
       have HKI:=aA (show D++cM (es.take (j+1)) q=(D++cM (es.take j) q) ++ [e] from by rw[znh HXe.out hqq,List.append_assoc])
       clear hqq;have HIN:=aA (zf4 sv sc LS (dY (D++cM (es.take j) q)).1 (cN e.path) w3 (T3.out.seen.reads) HLS.out (by rw[←HLS.out];omega))
       by_cases hmm:cN e.path∈(dY (D++cM (es.take j) q)).1
       ·rw[decide_eq_true hmm]at HIN
        have TN:=aA (T3.out.skip hmm);clear hmm;go_wp2_with fail
        refine HIN.out.mono ?_;rintro r w4 ⟨rfl,hw4⟩;have hw5:=hw4.symm;clear hw4;subst hw5;go_wp2_with fail
        go_roundw
        case rel=>exact ⟨j+1,by omega,by go_num,aA (by rw[HKI.out];exact TN.out),B3⟩
        case measure=>simp[intOf];omega
       ·rw[decide_eq_false hmm]at HIN
        have HMM:=aA hmm;clear hmm;have hm3:LS+1≤maxLen:=by unfold maxLen;omega
        have hm4:(LS+1) * 16≤140737488355328:=by omega
        have OS3:Hid (w3.ownsRow w.heap.size 9 1 (.slice sv LS sc) LS ((dY (D++cM (es.take j) q)).1.map vS)):=by have:=T3.out.seen;unfold bR at this;rw[←HLS.out]at this;exact this
        have HAP:Hid (∀ (W:World),aE (fun b=>(Value.slice sv LS sc).ownBlock=some b) w3 W→W.cell? ⟨wr.heap.size,1,none⟩=some (.int .i64 e.kind)):=aA (fun W hK=>(hK.cell (p:=⟨wr.heap.size,1,none⟩) F3.out.lt (fun hq=>absurd (HT.out.seen.lt _ hq).2 (Nat.lt_irrefl _))).trans F3.out.2.1)
        by_cases h3:e.kind=3
        ·have h3':(e.kind != 3)=false:=by simp[h3]
         have HST:=aA (show dY ((D++cM (es.take j) q) ++ [e])=((dY (D++cM (es.take j) q)).1 ++ [cN e.path],(dY (D++cM (es.take j) q)).2) from by rw[qH,vR,if_neg HMM.out,if_pos h3])
         clear h3;go_wp2_with fail
         refine HIN.out.mono ?_;rintro r w4 ⟨rfl,hw4⟩;have hw5:=hw4.symm;clear hw4;subst hw5;go_wp2_with (at_builtin;refine eE rfl (.tmp 58) (.tmp 60) 25 rfl w.heap.size 9 i1 (.string ⟨#[]⟩) 1 16 Tryz.underlying25 ki kz0 kz1 kz2 rfl (by decide) _ _ _ rfl OS3.out rfl rfl (by intro u hu;simp at hu;subst hu;rfl) hm3 hm4 hwz ?_;intro v' w5 hown5 hkept hat;have O5:=aA (show bR w.heap.size w5 v' ((dY (D++cM (es.take j) q)).1 ++ [cN e.path]) from bR.snoc (by rw[←HLS.out];exact hown5) rfl);have K5:=aA hkept;have A5:=aA hat;have k5:=HAP.out _ hkept;clear hown5 hkept hat)
         go_roundw
         case rel =>
          refine ⟨j+1,by omega,by go_num,aA ?_,aA ?_⟩
          ·rw[HKI.out]
           refine ⟨?_,?_,?_⟩
           ·rw[HST.out];exact T3.out.out.kept K5.out (fun g hg=>T3.out.apart g hg)
           ·rw[HST.out];exact O5.out
           ·intro g hg hg2
            rcases A5.out with h8 | ⟨g',h8,h9⟩
            ·rw[h8]at hg2;exact T3.out.apart g hg hg2
            ·rw[h8]at hg2
             have:=(T3.out.out.lt g hg).2;simp at hg2
             omega
          ·exact aE.below_own B3.out hwz OS3.out K5.out
         case measure=>simp[intOf];omega
        ·have h3':(e.kind != 3)=true:=by simp[h3]
         have HST:=aA (show dY ((D++cM (es.take j) q) ++ [e])=((dY (D++cM (es.take j) q)).1 ++ [cN e.path],fO (dY (D++cM (es.take j) q)).2 (cN e.path)) from by rw[qH,vR,if_neg HMM.out,if_neg h3])
         clear h3;have HPUT:Hid (∀ (W:World),aE (fun b=>(Value.slice sv LS sc).ownBlock=some b) w3 W→Calls Tryz.prog 278 #[.slice ov LO oc,.string (str (cN e.path))] W fun r w'=>∃ av cv N,r=.returned (.slice av N cv)∧N=(fO (dY (D++cM (es.take j) q)).2 (cN e.path)).length∧bR W.heap.size w' (.slice av N cv) (fO (dY (D++cM (es.take j) q)).2 (cN e.path))∧Below W.heap.size W w'):=aA (fun W hK=>(zxc ov oc LO _ (cN e.path) W (T3.out.out.kept hK (fun g hg=>T3.out.apart g hg)) HLO.out (by rw[←HLO.out];omega)).mono (fun r w' ⟨av,cv,h1,h2,h3⟩=>⟨av,cv,_,h1,rfl,h2,h3⟩))
         go_wp2_with fail
         refine HIN.out.mono ?_;rintro r w4 ⟨rfl,hw4⟩;have hw5:=hw4.symm;clear hw4;subst hw5;go_wp2_with (at_builtin;refine eE rfl (.tmp 58) (.tmp 60) 25 rfl w.heap.size 9 i1 (.string ⟨#[]⟩) 1 16 Tryz.underlying25 ki kz0 kz1 kz2 rfl (by decide) _ _ _ rfl OS3.out rfl rfl (by intro u hu;simp at hu;subst hu;rfl) hm3 hm4 hwz ?_;intro v' w5 hown5 hkept hat;have O5:=aA (show bR w.heap.size w5 v' ((dY (D++cM (es.take j) q)).1 ++ [cN e.path]) from bR.snoc (by rw[←HLS.out];exact hown5) rfl);have K5:=aA hkept;have A5:=aA hat;have k5:=HAP.out _ hkept;clear hown5 hkept hat)
         refine (HPUT.out w5 K5.out).mono ?_;rintro r w6 ⟨av6,cv6,N6,rfl,hN6,hO6,hb6⟩;have HN6:=aA hN6;have O6:=aA hO6;have B6:=aA hb6;have BW5:=aA (aE.below_own B3.out hwz OS3.out K5.out);have hwz5:=BW5.out.size;clear hN6 hO6 hb6;go_wp2_with fail
         go_roundw
         case rel =>
          refine ⟨j+1,by omega,by go_num,aA ?_,aA ?_⟩
          ·rw[HKI.out]
           refine ⟨?_,?_,?_⟩
           ·rw[HST.out];exact O6.out.mono hwz5
           ·rw[HST.out];exact O5.out.below B6.out
           ·intro g hg hg2
            have h8:=(O6.out.lt g hg).1;have h9:=(O5.out.lt g hg2).2;omega
          ·exact aB BW5.out B6.out
         case measure=>simp[intOf];omega
      ·have hs1:=jK hqq
       have HKI:=aA (show D++cM (es.take (j+1)) q=D++cM (es.take j) q from by rw[zif HXe.out hqq])
       clear hqq;go_wp2_with fail
       go_roundw
       case rel=>exact ⟨j+1,by omega,by go_num,aA (by rw[HKI.out];exact T3.out),B3⟩
       case measure=>simp[intOf];omega
     ·have hE:es.take j=es:=List.take_of_length_le (by omega)
      rw[hE]at HT HLS HLO;clear hE;by_cases h1:HH=1
      ·have HE:=aA (HHq.out.1 h1)
       have HO:Hid (bR w.heap.size wr (.slice ov LO oc) (fN (aT ls) q)):=aA (by have:=HT.out.out;rw[←HNM.out,←HE.out];exact this)
       have HL:=aA (show LO=(fN (aT ls) q).length by rw[←HNM.out,←HE.out];exact HLO.out)
       subst h1;go_wp2_with fail
       go_ret
       exact ⟨ov,oc,by rw[←HL.out];rfl,by rw[←HL.out];exact HO.out,HW.out⟩
      ·have HE:=aA (HHq.out.2 h1)
       have h1':(HH==1)=false:=by simpa using h1
       clear h1;go_wp2_with fail
       go_roundw
       case rel=>exact ⟨m,D++cM es q,by omega,rfl,HE,HT,HW⟩
       case measure=>simp[intOf]
end Go.Proofs.YtgaeikgoknoamaaGreat
