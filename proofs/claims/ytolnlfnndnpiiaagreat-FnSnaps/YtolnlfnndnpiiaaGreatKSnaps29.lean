/-
  Texts put together: MntN MntO MntP MntQ MntR MntS MntH DrawF MntU MntV.
-/
import Derived.Test.YtolnlfnndnpiiaaGreatKSnaps27
import Derived.Test.YtolnlfnndnpiiaaGreatKSnaps26
import Derived.Test.YtolnlfnndnpiiaaGreatKSnaps28
import Derived.Test.YtolnlfnndnpiiaaGreatKSnaps22
import Derived.Test.YtolnlfnndnpiiaaGreatKSnaps13
import Derived.Test.YtolnlfnndnpiiaaGreatKSnaps21
set_option linter.unusedVariables false
set_option maxHeartbeats 6400000
set_option maxRecDepth 100000
namespace Go.Proofs.YtolnlfnndnpiiaaGreat
theorem zg0 {x:En}:∀ {us:List Bs} {o:List En},x∈us.foldl cF o→x∈o∨∃ u∈us,x=fJ u
 | [],o,h=>.inl h
 | u :: us,o,h=>by
  rcases zg0 (us:=us) (o:=cF o u) h with h | ⟨v,hv,e⟩
  ·unfold cF at h
   split at h
   ·rcases jJ.1 h with h | ⟨h,-⟩
    ·exact .inr ⟨u,List.mem_cons_self,h⟩
    ·exact .inl h
   ·exact .inl h
  ·exact .inr ⟨v,List.mem_cons_of_mem _ hv,e⟩
theorem ze4:∀ {us:List Bs} {o:List En},(∀ u∈us,aG o u≠none)→us.foldl cF o=o
 | [],o,h=>rfl
 | u :: us,o,h=>by
  have h1:cF o u=o:=by rw[cF,if_neg (h u List.mem_cons_self)]
  rw[List.foldl_cons,h1];exact ze4 (fun v hv=>h v (List.mem_cons_of_mem _ hv))
theorem pF {es:List En} {x:En} (hx:x∈es):aG es x.path≠none:=by
 intro h;have:=List.find?_eq_none.1 h x hx;simp at this
theorem zsi {U:List En} (h:Fit U) {q:Bs} (hq:aF q=0) (hf:aG U q≠none):∀ u∈bG q,aG U u≠none:=by
 intro u hu;cases hx:aG U q with
 | none=>exact absurd hx hf
 | some x =>
  obtain ⟨hm,hp⟩:=eZ hx;rw[fG hq]at hu;obtain ⟨h1,h2⟩:=(kO hq).1 hu;obtain ⟨d,hd,hdp,-⟩:=h.up h1 hm (by rw[hp];exact h2)
  rw[←hdp];exact pF hd
theorem zzi {q u:Bs} (hq:aF q=0) (hu:u∈bG q):u≠q:=by
 intro e;rw[fG hq]at hu;have:=dZ ((kO hq).1 hu).2;rw[e]at this;omega
theorem zjm {U:List En} (h:Fit U) {e:En} (hp:aF e.path=0):fC U e=if gZ U e=true then dC (fC U (fJ (aE e.path))) e else dC U e:=by
 have hk:=lO hp rfl;by_cases h0:aE e.path=[]
 ·rw[if_pos h0]at hk
  rw[fC,hk,if_neg (by simp[gZ,h0])]
  rfl
 ·rw[if_neg h0]at hk
  obtain ⟨hq,-⟩:=cU hp h0;rw[fC,hk,List.foldl_append,List.foldl_cons,List.foldl_nil];by_cases hf:aG U (aE e.path)=none
  ·rw[if_pos (by simp[gZ,h0,hf])]
   have h1:aG ((bG (aE e.path)).foldl cF U) (aE e.path)=none:=jR (fun x hx hxp=>by
    rcases zg0 hx with hx | ⟨u,hu,rfl⟩
    ·exact pF hx (by rw[hxp];exact hf)
    ·exact zzi hq hu hxp)
   rw[cF,if_pos h1];rfl
  ·rw[if_neg (by cases hs:aG U (aE e.path) with
    | none=>exact absurd hs hf
    | some x=>simp[gZ,hs])]
   rw[ze4 (zsi h hq hf),cF,if_neg hf]
theorem zzl {U:List En} (h:Fit U) {p:Bs} (hp:aF p=0) (h0:aE p≠[]) (hf:aG U (aE p)=none):∀ x∈U,x.path≠p∧bD x.path p=false:=by
 intro x hx;obtain ⟨hq,hb⟩:=cU hp h0;have key:bD x.path (aE p)=true→False:=fun hxb=>by
  obtain ⟨d,hd,hdp,-⟩:=h.up hq hx hxb;exact pF hd (by rw[hdp];exact hf)
 refine ⟨fun e=>key (by rw[e];exact hb),?_⟩
 cases hxb:bD x.path p with
 | false=>rfl
 | true=>exact absurd (pE hxb hb) (fun h=>key h)
theorem zyk {D:List En} {e:En} (h:∀ x∈D,x.path≠e.path∧bD x.path e.path=false):(dC D e).length=D.length+1:=by
 rw[rR]
 congr 1
 rw[iH,List.filter_eq_self.2];intro x hx;obtain ⟨h1,h2⟩:=h x hx;simp[iS,h1,h2]
theorem zv8 {D:List En} {e:En} (h:aU D) (he:aH e=0) (hh:cR D e.path=true):(bU D e,cK D e)=if (dC D e).length≤12 then ((0:Int),dC D e) else (2,[]):=by
 have h1:bU D e=if 12<(dC D e).length then 2 else 0:=by rw[bU,if_pos (eX.2 h),if_pos he,if_pos hh]
 by_cases hl:12<(dC D e).length
 ·rw[if_neg (by omega),cK,h1,if_pos hl];rfl
 ·rw[if_pos (by omega),cK,h1,if_neg hl];rfl
theorem wE {U:List En} (h:aU U):∀ (n:Nat) (e:En),(bG e.path).length=n→aH e=0→(∀ u∈bG e.path,∀ x,aG U u=some x→bZ x.kind=true)→gL n U e=if (fC U e).length≤12 then (0,fC U e) else (2,[])
 | n,e,hn,he,hd=>by
  have hp:=bM he;have hF:=(fU.1 h).1;have hfu:=zjm hF hp;have hk:=lO hp rfl;by_cases hu:gZ U e=true
  ·rw[if_pos hu]at hfu
   have h0:aE e.path≠[]:=by intro e0;simp[gZ,e0]at hu
   have hf:aG U (aE e.path)=none:=by
    cases hs:aG U (aE e.path) with
    | none=>rfl
    | some x=>simp[gZ,hs]at hu
   rw[if_neg h0]at hk;obtain ⟨hq,hb⟩:=cU hp h0;cases n with
   | zero=>exact absurd (zx4 hp hn) h0
   | succ n =>
    have ih:=wE h n (fJ (aE e.path)) (zwn hp h0 hn) (uG hq) (fun u hu2 x hx=>hd u (by rw[hk];exact List.mem_append_left _ hu2) x hx)
    by_cases hl:(fC U (fJ (aE e.path))).length≤12
    ·rw[if_pos hl]at ih
     have hz:(gL n U (fJ (aE e.path))).1=0:=by rw[ih]
     have hR:=(wG hz).1;rw[zf0 hu hz];rw[ih]at hR ⊢;rw[hfu];exact zv8 hR he (eM.2 (.inr ⟨fJ (aE e.path),jJ.2 (.inl rfl),rfl,rfl⟩))
    ·rw[if_neg hl]at ih
     have hz:(gL n U (fJ (aE e.path))).1≠0:=by rw[ih];decide
     rw[ze0 hu hz,ih,if_neg];rw[hfu,zyk]
     ·omega
     ·intro x hx
      rcases jJ.1 hx with rfl | ⟨hx,-⟩
      ·exact ⟨xI hp h0,by
        cases hxb:bD (aE e.path) e.path with
        | false=>exact hxb
        | true=>have a1:=dZ hxb;have a2:=dZ hb;omega⟩
      ·rcases zg0 hx with hx | ⟨u,hu2,rfl⟩
       ·exact zzl hF hp h0 hf x hx
       ·have hu3:u∈bG (aE e.path):=hu2
        rw[fG hq]at hu3;have a1:=dZ ((kO hq).1 hu3).2;have a2:=dZ hb;refine ⟨fun e1=>?_,?_⟩
        ·have e2:u=e.path:=e1
         rw[e2]at a1;omega
        ·cases hxb:bD u e.path with
         | false=>exact hxb
         | true=>have a3:=dZ hxb;omega
  ·have hu2:gZ U e=false:=by simpa using hu
   rw[if_neg hu]at hfu;rw[wF hu2,hfu];refine zv8 h he ?_;by_cases h0:aE e.path=[]
   ·exact eM.2 (.inl h0)
   ·cases hs:aG U (aE e.path) with
    | none=>simp[gZ,h0,hs]at hu
    | some x =>
     obtain ⟨hm,hxp⟩:=eZ hs;rw[if_neg h0]at hk;exact eM.2 (.inr ⟨x,hm,hxp,hd _ (by rw[hk];simp) x hs⟩)
theorem zd4 (D:List En) (e:En) (q:Bs):aG (dC D e) q=if q=e.path then some e else if (bZ e.kind||!(bD q e.path))=true then aG D q else none:=by
 have hb:iH D e=D.filter fun x=>(fun p:Bs=>!(decide (p=e.path))&&(bZ e.kind||!(bD p e.path))) x.path:=rfl
 rw[dC,zr1 (fun x hx=>by
  have:=(List.mem_filter.1 hx).2;simp only[iS,Bool.and_eq_true,Bool.not_eq_true',decide_eq_false_iff_not]at this;exact this.1)]
 by_cases h:q=e.path
 ·rw[if_pos h,if_pos h]
 ·rw[if_neg h,if_neg h,hb]
  have h2:=zL D (fun p:Bs=>!(decide (p=e.path))&&(bZ e.kind||!(bD p e.path))) q
  rw[h2];simp[h]
theorem zpd (o:List En) (u q:Bs):aG (cF o u) q=if aG o q=none∧q=u then some (fJ u) else aG o q:=by
 unfold cF;by_cases h:aG o u=none
 ·rw[if_pos h,zd4]
  by_cases hq:q=u
  ·subst hq;simp[fJ,h]
  ·have:¬ q=(fJ u).path:=hq
   rw[if_neg this,if_pos (by rfl),if_neg (fun hx=>hq hx.2)]
 ·rw[if_neg h]
  by_cases hq:q=u
  ·subst hq;simp[h]
  ·rw[if_neg (fun hx=>hq hx.2)]
theorem zc4 (q:Bs):∀ (us:List Bs) (o:List En),aG (us.foldl cF o) q=if aG o q=none∧q∈us then some (fJ q) else aG o q
 | [],o=>by simp
 | u :: us,o=>by
  rw[List.foldl_cons,zc4 q us,zpd];by_cases h1:aG o q=none
  ·by_cases h2:q=u
   ·subst h2;simp[h1]
   ·simp[h1,h2]
  ·simp[h1]
theorem zb4 (U:List En) (e:En) (q:Bs):aG (fC U e) q=if q=e.path then some e else if (bZ e.kind||!(bD q e.path))=true then (if aG U q=none∧q∈bG e.path then some (fJ q) else aG U q) else none:=by
 rw[fC,zd4,zc4]
theorem zgn {T:List En} (h:iW T) {p:Bs} (hp:aF p=0) (hh:dU T p=0):∀ u∈bG p,aG T u=some (fJ u):=by
 have hk:=lO hp rfl;intro u hu;by_cases h0:aE p=[]
 ·rw[if_pos h0]at hk;rw[hk]at hu;simp at hu
 ·rw[if_neg h0]at hk
  obtain ⟨hq,-⟩:=cU hp h0;have key:∀ d∈T,bZ d.kind=true→d.path=u→aG T u=some (fJ u):=fun d hd hdk hdp=>by
   have h1:=eN h.fit.rise hd;rw[hdp]at h1;rw[h1];have hup:aF u=0:=by rw[←hdp];exact h.fit.path hd
   have:=zvl (h.fit.ent d hd) (uG hup) hdp hdk rfl;rw[asT,if_neg (by rw[h.dir hd hdk];decide)]at this
   exact congrArg some this
  cases hs:aG T (aE p) with
  | none=>rw[uK h0 hs]at hh;cases hh
  | some d =>
   obtain ⟨hd,hdp⟩:=eZ hs;have hdk:bZ d.kind=true:=by
    have h1:=h.kind d hd;simp only[dU,if_neg h0,hs]at hh;simp only[jH,decide_eq_true_eq]at h1;rcases h1 with h1 | h1
    ·rw[if_pos h1]at hh;cases hh
    ·simp[bZ,h1]
   rw[hk]at hu;rcases List.mem_append.1 hu with hu | hu
   ·rw[fG hq]at hu
    obtain ⟨h1,h2⟩:=(kO hq).1 hu;obtain ⟨d2,hd2,hdp2,hdk2⟩:=h.fit.up h1 hd (by rw[hdp];exact h2)
    exact key d2 hd2 hdk2 hdp2
   ·simp only[List.mem_singleton]at hu
    exact key d hd hdk (by rw[hdp,hu])
theorem oY {t U:List En} (ht:iW t) (hU:Fit U) {p:Bs} (hp:aF p=0) (hh:dU (dA t U) p=0):∀ u∈bG p,∀ x,aG U u=some x→bZ x.kind=true:=by
 intro u hu x hx;have h1:=zgn (qA ht hU) hp hh u hu;rw[uY ht hU,mB hx]at h1;by_cases h3:x.kind=3
 ·rw[if_pos h3]at h1;cases h1
 ·rw[if_neg h3]at h1
  have h2:asT x=fJ u:=Option.some.inj h1;have h4:(asT x).kind=2:=by rw[h2];rfl
  rcases kQ (hU.ent x (eZ hx).1) with hk | hk | hk | hk
  ·rw[asT,if_neg (by rw[hk];decide),hk]at h4;cases h4
  ·simp[bZ,hk]
  ·exact absurd hk h3
  ·simp[bZ,hk]
theorem zjd {U:List En} (h:aU U) {e:En} (he:aH e=0) (hd:∀ u∈bG e.path,∀ x,aG U u=some x→bZ x.kind=true) (hl:(fC U e).length≤12):aU (fC U e):=by
 have h1:=wE h _ e rfl he hd;rw[if_pos hl]at h1;have h2:=(wG (n:=(bG e.path).length) (U:=U) (e:=e) (by rw[h1])).1
 rwa [h1]at h2
theorem zig {U:List En} (h:aU U) {e:En} (he:aH e=0) (hd:∀ u∈bG e.path,∀ x,aG U u=some x→bZ x.kind=true):sV U e=if (fC U e).length≤12 then (0,fC U e) else (2,[]):=wE h _ e rfl he hd
theorem jP.one {O U:List En} {e:En} {r r2:Int} {V V2:List En} (h:jP O U e r V) (h2:jP O U e r2 V2):r=r2∧V=V2:=by
 by_cases hl:12<(fC U e).length
 ·obtain ⟨a1,a2⟩:=h.1 hl;obtain ⟨b1,b2⟩:=h2.1 hl;exact ⟨a1.trans b1.symm,a2.trans b2.symm⟩
 ·obtain ⟨a1,a2⟩:=h.2 hl;obtain ⟨b1,b2⟩:=h2.2 hl;exact ⟨a1.trans b1.symm,a2.trans b2.symm⟩
theorem sB {U:List En} (h:aU U) {e:En} (he:aH e=0) (hd:∀ u∈bG e.path,∀ x,aG U u=some x→bZ x.kind=true):jP U U e (lJ U e) (kI U e):=by
 have h1:=zig h he hd;refine ⟨fun hl=>?_,fun hl=>?_⟩
 ·rw[if_neg (by omega)]at h1
  exact ⟨by rw[lJ,h1],by rw[kI,h1,if_neg (by decide)]⟩
 ·rw[if_pos (by omega)]at h1
  exact ⟨by rw[lJ,h1],by rw[kI,h1,if_pos rfl]⟩
theorem zi4 {T:List En} (h:iW T) {p:Bs} {e:En} (hf:aG T p=some e):dU T p=0:=by
 obtain ⟨hm,hp⟩:=eZ hf;rcases eM.1 (h.fit.home e hm) with h0 | ⟨d,hd,hdp,hdk⟩
 ·rw[hp]at h0;exact sC h0
 ·rw[hp]at hdp
  have h1:=eN h.fit.rise hd;rw[hdp]at h1;by_cases h0:aE p=[]
  ·exact sC h0
  ·simp only[dU,if_neg h0,h1]
   rw[if_neg (by rw[h.dir hd hdk];decide)]
theorem wI {U:List En} {p:Bs} (h:aU U) (hp:aF p=0):dK U p=0↔aG U p≠none:=by
 rw[dK,if_pos (tP h hp)];cases aG U p <;> simp
theorem nF {ls:List (List En)} {U:List En} {p:Bs} (h:bJ (ls ++ [U]) p=0):iW (aJ ls)∧aU U∧aF p=0∧aJ (ls ++ [U])=dA (aJ ls) U:=by
 obtain ⟨h4,hR,hp⟩:=jD h;exact ⟨oT (gA fun es he=>hR es (List.mem_append_left _ he)),hR U (by simp),hp,kP ls U⟩
theorem zp8 {p:Bs} (hp:aF p=0):p≠[47]:=fun e=>by rw[e]at hp;revert hp;decide
theorem zc8 {ls:List (List En)} {p:Bs} (hz:bV ls=0) (hp:aF p=0):iD ls p=(match aG (aJ ls) p with | some e=>if e.kind=2 then 0 else 9 | none=>4):=by
 rw[iD,if_neg (zp8 hp),(pB (tO hz hp)).1];cases aG (aJ ls) p with
 | none=>rfl
 | some e=>simp
theorem zq9 {ls:List (List En)} {p:Bs} (hz:bV ls=0) (hp:aF p=0):lB ls p=wrS (aJ ls) p:=by
 rw[lB,wrS,zh4 hz hp,zc8 hz hp];by_cases h:dU (aJ ls) p=0
 ·rw[if_pos h,if_pos h]
  cases aG (aJ ls) p with
  | none=>rfl
  | some e=>by_cases hk:e.kind=2 <;> simp[hk]
 ·rw[if_neg h,if_neg h]
theorem zkk {ls:List (List En)} {p:Bs} (hz:bV ls=0) (hp:aF p=0):mM ls p=mkS (aJ ls) p:=by
 rw[mM,mkS,zh4 hz hp,(pB (tO hz hp)).1];by_cases h:dU (aJ ls) p=0
 ·rw[if_pos h,if_pos h]
  cases aG (aJ ls) p with
  | none=>rfl
  | some e=>simp
 ·rw[if_neg h,if_neg h]
theorem zfl {ls:List (List En)} {p:Bs} (hz:bV ls=0) (hp:aF p=0):lZ ls p=rmS (aJ ls) p:=by
 rw[lZ,rmS,(pB (tO hz hp)).1,rN,zc8 hz hp];cases aG (aJ ls) p with
 | none=>rfl
 | some e =>
  have htq:rX p=p:=by rw[rX,if_neg (zp8 hp)]
  by_cases hk:e.kind=2
  ·simp[hk,htq]
  ·simp[hk]
theorem zyl {T:List En} (h:Fit T) {p q:Bs} (hp:aF p=0) (hf:∀ e,aG T p=some e→bZ e.kind=false) (hb:bD q p=true):aG T q=none :=
 h.bare_find hp (fun d hd hdp=>by
  have h1:=eN h.rise hd;rw[hdp]at h1;exact hf d h1) hb
theorem za7 {U:List En} {p:Bs} (hp:aF p=0):aH (kA U p)=0∧(kA U p).path=p∧asT (kA U p)=wD p∧(kA U p).kind≠3:=by
 have h4:aH (⟨p,4,0,[]⟩:En)=0:=by
  rw[fX (e:=⟨p,4,0,[]⟩) hp (by simp[iJ]) (by simp[lM]) (by simp[mF])]
  rfl
 have key:kA U p=⟨p,4,0,[]⟩∨kA U p=⟨p,2,0,[]⟩:=by
  unfold kA;cases aG U p with
  | none=>exact .inr rfl
  | some x =>
   by_cases hk:x.kind=3
   ·left;simp[hk]
   ·right;simp[hk]
 rcases key with h | h <;> rw[h]
 ·exact ⟨h4,rfl,by simp[asT,gX,wD],by simp⟩
 ·exact ⟨uG hp,rfl,by simp[asT,wD],by simp⟩
theorem zki {T:List En} {p:Bs} (h:iW T) (hp:aF p=0):rmS T p=zo3 T p:=by
 unfold rmS zo3;cases hs:aG T p with
 | none=>rfl
 | some e =>
  have hl:(eK T p).length=(cL T p).length:=by simp[eK]
  simp only[];by_cases hk:e.kind=2
  ·rw[if_pos hk,hl]
   by_cases h0:cL T p=[]
   ·simp[h0]
   ·rw[if_pos (List.length_pos_iff.2 h0),if_neg h0]
  ·rw[if_neg hk,if_pos]
   rw[zeh];intro x hx hxp;have hkd:=h.kind e (eZ hs).1;have h0:aE x.path≠[]:=fun e0=>by rw[hxp]at e0;rw[e0]at hp;revert hp;decide
   have hb:=(cU (h.fit.path hx) h0).2;rw[hxp]at hb;have hn:=zyl h.fit hp (fun d hd=>by
    rw[hs]at hd;cases hd
    simp only[jH,decide_eq_true_eq]at hkd;rcases hkd with hkd | hkd
    ·rw[hkd];rfl
    ·exact absurd hkd hk) hb
   exact pF hx hn
def hI (p:Bs):En:=⟨p,3,0,[]⟩
theorem zp2 {p:Bs} (hp:aF p=0):aH (hI p)=0:=by
 rw[fX (e:=hI p) hp (by simp[iJ,hI]) (by simp[lM,hI]) (by simp[mF,hI])]
 rfl
theorem wL:∀ {us:List Bs} {o:List En},dY o→dY (us.foldl cF o)
 | [],o,h=>h
 | u :: us,o,h=>by
  rw[List.foldl_cons];refine wL ?_;unfold cF;split
  ·exact qD h
  ·exact h
theorem zii {U:List En} (h:dY U) (p:Bs):dY (bB U p true):=h.sublist List.filter_sublist
theorem zif {U:List En} (h:dY U) {p:Bs} (hp:aF p=0):fC (bB U p true) (hI p)=fC U (hI p):=by
 refine vG (qD (wL (zii h p))) (qD (wL h)) (fun q=>?_)
 have h1:=zb4 (bB U p true) (hI p) q;have h2:=zb4 U (hI p) q;rw[h1,h2];by_cases hq:q=(hI p).path
 ·rw[if_pos hq,if_pos hq]
 ·rw[if_neg hq,if_neg hq]
  cases hb:bD q (hI p).path with
  | true=>rw[if_neg (by simp[hI,bZ]),if_neg (by simp[hI,bZ])]
  | false =>
   have h3:=wJ U p q;rw[if_neg (show ¬ q=p from hq),show bD q p=false from hb]at h3
   simp only[Bool.false_eq_true,if_false]at h3;rw[h3]
end Go.Proofs.YtolnlfnndnpiiaaGreat
namespace Go.Proofs.YtolnlfnndnpiiaaGreat
open Go.RowKit Go.Maps
attribute [local go_sem ↓] Go.wp_at_zero Go.wp_at_succ
structure yG (ls:List (List En)) (U:List En) (p:Bs) (q rep:Int) (V:List En):Prop where
 bad:bJ (ls ++ [U]) p≠0→q=bJ (ls ++ [U]) p∧rep=0∧V=[]
 no:bJ (ls ++ [U]) p=0→mM (ls ++ [U]) p≠0→q=0∧rep=mM (ls ++ [U]) p∧V=U
 yes:bJ (ls ++ [U]) p=0→mM (ls ++ [U]) p=0→q=0∧rep=lJ U ⟨p,lK U p,0,[]⟩∧V=kI U ⟨p,lK U p,0,[]⟩
structure rZ (ls:List (List En)) (U:List En) (p:Bs) (zs:List Int) (q rep:Int) (V:List En):Prop where
 bad:bJ (ls ++ [U]) p≠0→q=bJ (ls ++ [U]) p∧rep=0∧V=[]
 big:bJ (ls ++ [U]) p=0→cZ p zs≠0→q=cZ p zs∧rep=0∧V=[]
 no:bJ (ls ++ [U]) p=0→cZ p zs=0→lB (ls ++ [U]) p≠0→q=0∧rep=lB (ls ++ [U]) p∧V=U
 yes:bJ (ls ++ [U]) p=0→cZ p zs=0→lB (ls ++ [U]) p=0→q=0∧rep=lJ U (cV p zs)∧V=kI U (cV p zs)
structure tZ (ls:List (List En)) (U:List En) (p:Bs) (q rep:Int) (V:List En):Prop where
 bad:bJ (ls ++ [U]) p≠0→q=bJ (ls ++ [U]) p∧rep=0∧V=[]
 no:bJ (ls ++ [U]) p=0→lZ (ls ++ [U]) p≠0→q=0∧rep=lZ (ls ++ [U]) p∧V=U
 gone:bJ (ls ++ [U]) p=0→lZ (ls ++ [U]) p=0→fB (ls ++ [fA U p]) p≠0→q=0∧rep=0∧V=fA U p
 white:bJ (ls ++ [U]) p=0→lZ (ls ++ [U]) p=0→fB (ls ++ [fA U p]) p=0→q=0∧rep=lJ U ⟨p,3,0,[]⟩∧V=kI U ⟨p,3,0,[]⟩
theorem zo0 (a:Option Addr) (c n:Nat) (ls:List (List En)) (u:Option Addr) (uc m:Nat) (U:List En) (p:Bs) (w:World) (h:RdL w a ls) (hn:n=ls.length) (hl:ls.length≤1000000) (hs:eJ ls) (hU:RdE w u U) (hm:m=U.length) (hUl:U.length≤1000000) (hUs:aV U) (hpl:p.length≤1048576) :
  Calls Tryz.prog 65 #[.slice a n c,.slice u m uc,.string (str p)] w fun r w'=>∃ q rep V,yG ls U p q rep V∧cY q rep V w r w':=by
 subst hn;subst hm;have X0:=aA (cC.new w (.int .i64 0) (.int .i64 0) (.slice none 0 0) 64);have B0:=aA (aC w (.cells #[.int .i64 0,.int .i64 0,.slice none 0 0] 64));have HW:=aA (mX a c ls.length ls u uc U.length U _ (h.below B0.out) rfl hl (hU.below B0.out) rfl);have HSL:=aA (pM hs hUl hUs);have HLn:=aA (show (ls ++ [U]).length≤1048576 by rw[List.length_append];simp;omega)
 have HU:=aA hU;have HUs:=aA hUs;clear h hU hs hUs;have HST:=aA (fun (q:Int) v (hv:Below w.heap.size w v)=>sR u uc U.length U q v (HU.out.below hv) rfl (by omega) HUs.out)
 obtain ⟨al,hal⟩:∃ al,al=ls ++ [U]:=⟨_,rfl⟩;rw[←hal]at HW HSL HLn;have HALL:=aA hal;clear hal;go_enter Tryz.func65,Tryz.ntmps65;go_wp2_with fail
 refine HW.out.mono ?_;rintro r w1 ⟨av,cv,rfl,hr1,hb1⟩;have X1:=aA (X0.out.below hb1);have B1:=aA (aB B0.out hb1);have R1:=aA hr1;have hlt:=X1.out.lt;have HAS:=aA (oA av cv al.length al p w1 hr1 rfl HLn.out HSL.out hpl);clear hr1 hb1 HW X0 B0;by_cases hz:bJ al p=0
 ·obtain ⟨h4,hRs,hp⟩:=jD hz
  have HRU:=aA (show aU U from hRs U (by rw[HALL.out];simp))
  have HZ:=aA hz;have HP:=aA hp;rw[hz]at HAS;clear hz hRs hp;go_wp2_with fail
  refine HAS.out.mono ?_;rintro r w2 ⟨rfl,hb2⟩;have X2:=aA (X1.out.below hb2);have B2:=aA (aB B1.out hb2);have R2:=aA (R1.out.below hb2);clear hb2 HAS X1 B1 R1;have HMR:=aA (zz5 av cv al.length al p w2 R2.out rfl HLn.out HSL.out HP.out hpl);by_cases hc:mM al p=0
  ·have HCP:Hid (yG ls U p 0 (lJ U ⟨p,lK U p,0,[]⟩) (kI U ⟨p,lK U p,0,[]⟩)):=aA (by
    have z1:=HZ.out;have z2:=hc;rw[HALL.out]at z1 z2;exact ⟨fun h=>absurd z1 h,fun _ h=>absurd z2 h,fun _ _=>⟨rfl,rfl,rfl⟩⟩)
   have HDK:=aA (fun v (hv:Below w.heap.size w v)=>zea u uc U.length U p v (HU.out.below hv) rfl (by omega) HUs.out hpl)
   have HWR:=aA (fun v (hv:Below w.heap.size w v)=>tN u uc U.length U ⟨p,lK U p,0,[]⟩ none 0 0 v HRU.out (HU.out.below hv) rfl HP.out rfl (fun hz=>absurd rfl hz) hpl (by simp))
   rw[hc]at HMR;generalize lK U p=DK at *;clear hc;go_wp2_with fail
   refine HMR.out.mono ?_;rintro r w3 ⟨rfl,hb3⟩;have X3:=aA (X2.out.below hb3);have B3:=aA (aB B2.out hb3);clear hb3 HMR X2 B2;go_wp2_with fail
   refine (HDK.out w3 B3.out).mono ?_;rintro r w4 ⟨rfl,hb4⟩;have X4:=aA (X3.out.below hb4);have B4:=aA (aB B3.out hb4);have HWR4:=aA (HWR.out w4 B4.out);clear hb4 X3 B3 HWR HDK;go_wp2_with fail
   refine HWR4.out.mono ?_;rintro r w9 ⟨av9,cv9,rfl,hG9,hb9⟩;have G9:=aA hG9;have B9:=aA (aB B4.out hb9);have hl9:=X4.out.lt;obtain ⟨⟨t0,t1,t2⟩,t3,t4,t5⟩:=X4.out.below hb9;clear hG9 hb9;go_wp2_with fail
   exact bodyPost_ret (v:=.agg #[.int .i64 0,.int .i64 (lJ U ⟨p,DK,0,[]⟩),.slice av9 (kI U ⟨p,DK,0,[]⟩).length cv9]) (by simp[results,Tryz.results65,go_sem,t0,t1,t2]) rfl ⟨0,lJ U ⟨p,DK,0,[]⟩,kI U ⟨p,DK,0,[]⟩,HCP.out,cY.of hl9 (Nat.le_refl _) rfl G9.out B9.out⟩
  ·have HCP:Hid (yG ls U p 0 (mM al p) U):=aA (by
    have z1:=HZ.out;have z2:=hc;rw[HALL.out]at z1 z2 ⊢;exact ⟨fun h=>absurd z1 h,fun _ _=>⟨rfl,rfl,rfl⟩,fun _ h=>absurd h z2⟩)
   generalize mM al p=F at *;have hz2:(F != 0)=true:=by simp;exact hc
   clear hc;go_wp2_with fail
   refine HMR.out.mono ?_;rintro r w3 ⟨rfl,hb3⟩;have X3:=aA (X2.out.below hb3);have B3:=aA (aB B2.out hb3);clear hb3 HMR X2 B2;go_wp2_with fail
   refine (HST.out F w3 B3.out).mono ?_;rintro r w9 ⟨av9,cv9,rfl,hG9,hb9⟩;have G9:=aA hG9;have B9:=aA (aB B3.out hb9);have hl9:=X3.out.lt;obtain ⟨⟨t0,t1,t2⟩,t3,t4,t5⟩:=X3.out.below hb9;clear hG9 hb9;go_wp2_with fail
   exact bodyPost_ret (v:=.agg #[.int .i64 0,.int .i64 F,.slice av9 U.length cv9]) (by simp[results,Tryz.results65,go_sem,t0,t1,t2]) rfl ⟨0,F,U,HCP.out,cY.of hl9 (Nat.le_refl _) rfl G9.out B9.out⟩
 ·have HCP:Hid (yG ls U p (bJ al p) 0 []):=aA (by
   rw[HALL.out]at hz ⊢;exact ⟨fun _=>⟨rfl,rfl,rfl⟩,fun h=>absurd h hz,fun h=>absurd h hz⟩)
  generalize bJ al p=F at *;have hz2:(F != 0)=true:=by simp;exact hz
  clear hz;go_wp2_with fail
  refine HAS.out.mono ?_;rintro r w2 ⟨rfl,hb2⟩;have B2:=aA (aB B1.out hb2);have hl1:=X1.out.lt;obtain ⟨⟨t0,t1,t2⟩,t3,t4,t5⟩:=X1.out.below hb2;clear hb2;go_wp2_with fail
  exact bodyPost_ret (v:=.agg #[.int .i64 F,.int .i64 0,.slice none 0 0]) (by simp[results,Tryz.results65,go_sem,t0,t1,t2]) rfl ⟨F,0,[],HCP.out,cY.of (b:=w.heap.size) (Nat.lt_succ_self _) (Nat.le_refl _) rfl (GW.nil _ _) B2.out⟩
theorem wR (a:Option Addr) (c n:Nat) (ls:List (List En)) (u:Option Addr) (uc m:Nat) (U:List En) (p:Bs) (w:World) (h:RdL w a ls) (hn:n=ls.length) (hl:ls.length≤1000000) (hs:eJ ls) (hU:RdE w u U) (hm:m=U.length) (hUl:U.length≤1000000) (hUs:aV U) (hpl:p.length≤1048576) :
  Calls Tryz.prog 67 #[.slice a n c,.slice u m uc,.string (str p)] w fun r w'=>∃ q rep V,tZ ls U p q rep V∧cY q rep V w r w':=by
 subst hn;subst hm;have X0:=aA (cC.new w (.int .i64 0) (.int .i64 0) (.slice none 0 0) 64);have B0:=aA (aC w (.cells #[.int .i64 0,.int .i64 0,.slice none 0 0] 64));have HW:=aA (mX a c ls.length ls u uc U.length U _ (h.below B0.out) rfl hl (hU.below B0.out) rfl);have HSL:=aA (pM hs hUl hUs);have HLn:=aA (show (ls ++ [U]).length≤1048576 by rw[List.length_append];simp;omega)
 have HU:=aA hU;have HUs:=aA hUs;have HSM:=aA (hs);have HRD:=aA h;have hf0:∀ (w:World) (F:Int) (v:Value),(Instr.field 131 (.agg #[.int .i64 F,v]) 0).run Tryz.prog w=.ok (.int .i64 F) w:=fun _ _ _=>by kernel_rfl
 have hf1:∀ (w:World) (F:Int) (v:Value),(Instr.field 131 (.agg #[.int .i64 F,v]) 1).run Tryz.prog w=.ok v w:=fun _ _ _=>by kernel_rfl
 clear h hU hs hUs;have HST:=aA (fun (q:Int) v (hv:Below w.heap.size w v)=>sR u uc U.length U q v (HU.out.below hv) rfl (by omega) HUs.out)
 obtain ⟨al,hal⟩:∃ al,al=ls ++ [U]:=⟨_,rfl⟩;rw[←hal]at HW HSL HLn;have HALL:=aA hal;clear hal;go_enter Tryz.func67,Tryz.ntmps67;go_wp2_with fail
 refine HW.out.mono ?_;rintro r w1 ⟨av,cv,rfl,hr1,hb1⟩;have X1:=aA (X0.out.below hb1);have B1:=aA (aB B0.out hb1);have R1:=aA hr1;have hlt:=X1.out.lt;have HAS:=aA (oA av cv al.length al p w1 hr1 rfl HLn.out HSL.out hpl);clear hr1 hb1 HW X0 B0;by_cases hz:bJ al p=0
 ·obtain ⟨h4,hRs,hp⟩:=jD hz
  have HRU:=aA (show aU U from hRs U (by rw[HALL.out];simp))
  have HZ:=aA hz;have HP:=aA hp;rw[hz]at HAS;clear hz hRs hp;go_wp2_with fail
  refine HAS.out.mono ?_;rintro r w2 ⟨rfl,hb2⟩;have X2:=aA (X1.out.below hb2);have B2:=aA (aB B1.out hb2);have R2:=aA (R1.out.below hb2);clear hb2 HAS X1 B1 R1;have HMR:=aA (zl2 av cv al.length al p w2 R2.out rfl HLn.out HSL.out hpl);by_cases hc:lZ al p=0
  ·have HC:=aA hc
   rw[hc]at HMR;clear hc;have hdz:lR U p=fA U p:=by rw[lR,if_pos (tP HRU.out HP.out)]
   have HDB:=aA (fun v (hv:Below w.heap.size w v)=>yS u uc U.length U p v (HU.out.below hv) rfl (by omega) HUs.out hpl)
   rw[hdz,tP HRU.out HP.out]at HDB;have hrl:(fA U p).length≤1000000:=by have:=List.length_filter_le (fun e:En=>!(eF e.path p)) U;have e9:fA U p=U.filter (fun e:En=>!(eF e.path p)):=rfl;rw[e9];omega
   have HRS:=aA (show aV (fA U p) from fun e he=>HUs.out e (List.mem_filter.1 he).1)
   have HL2:=aA (pM HSM.out hrl HRS.out);have HN2:=aA (show (ls ++ [fA U p]).length≤1048576 by rw[List.length_append];simp;omega)
   have HCP1:Hid (fB (ls ++ [fA U p]) p≠0→tZ ls U p 0 0 (fA U p)):=aA (fun z3=>by
    have z1:=HZ.out;have z2:=HC.out;rw[HALL.out]at z1 z2;exact ⟨fun h=>absurd z1 h,fun _ h=>absurd z2 h,fun _ _ _=>⟨rfl,rfl,rfl⟩,fun _ _ h=>absurd h z3⟩)
   have HCP2:Hid (fB (ls ++ [fA U p]) p=0→tZ ls U p 0 (lJ U ⟨p,3,0,[]⟩) (kI U ⟨p,3,0,[]⟩)):=aA (fun z3=>by
    have z1:=HZ.out;have z2:=HC.out;rw[HALL.out]at z1 z2;exact ⟨fun h=>absurd z1 h,fun _ h=>absurd z2 h,fun _ _ h=>absurd z3 h,fun _ _ _=>⟨rfl,rfl,rfl⟩⟩)
   have HWR:=aA (fun v (hv:Below w.heap.size w v)=>tN u uc U.length U ⟨p,3,0,[]⟩ none 0 0 v HRU.out (HU.out.below hv) rfl HP.out rfl (fun hz=>absurd rfl hz) hpl (by simp))
   clear hdz;generalize fA U p=RU at *;go_wp2_with fail
   refine HMR.out.mono ?_;rintro r w3 ⟨rfl,hb3⟩;have X3:=aA (X2.out.below hb3);have B3:=aA (aB B2.out hb3);clear hb3 HMR X2 B2;go_wp2_with fail
   refine (HDB.out w3 B3.out).mono ?_;rintro r w4 ⟨dv,dc,rfl,hG4,hb4⟩;have hs3:=B3.out.size;have hx3:=X3.out.lt;have X4:=aA (X3.out.below hb4);have B4:=aA (aB B3.out hb4);have G4:=aA (GW.of hG4);clear hb4 hG4 X3 B3 HDB;have HW4:=aA (mX a c ls.length ls dv dc RU.length RU w4 (HRD.out.below B4.out) rfl hl G4.out.rd rfl);go_wp2_with fail
   refine HW4.out.mono ?_;rintro r w5 ⟨av5,cv5,rfl,hr5,hb5⟩;have X5:=aA (X4.out.below hb5);have B5:=aA (aB B4.out hb5);have G5:=aA (G4.out.below hb5);have HLO:Hid (Calls Tryz.prog 112 #[.slice av5 (ls ++ [RU]).length cv5,.string (str p)] w5 fun r w'=>∃ lv ln lc,r=.returned (.agg #[.int .i64 (fB (ls ++ [RU]) p),.slice lv ln lc])∧Below w5.heap.size w5 w'):=aA ((kW av5 cv5 (ls ++ [RU]).length (ls ++ [RU]) p w5 hr5 rfl HN2.out HL2.out hpl).mono (fun r w' ⟨lv,lc,h2,_,h4⟩=>⟨lv,_,lc,h2,h4⟩))
   clear hr5 hb5 HW4 X4 B4 G4 HL2 HN2;generalize fB (ls ++ [RU]) p=PC at *;generalize ls ++ [RU]=al2 at *;by_cases hq:PC=0
   ·have HCP:=aA (HCP2.out hq)
    subst hq;clear HCP1 HCP2;go_wp2_with fail
    refine HLO.out.mono ?_;rintro r w6 ⟨lv,ln,lc,rfl,hb6⟩;have X6:=aA (X5.out.below hb6);have B6:=aA (aB B5.out hb6);clear hb6 X5 B5 HLO G5;have HWR6:=aA (HWR.out w6 B6.out);clear HWR;go_wp2_with fail
    refine HWR6.out.mono ?_;rintro r w9 ⟨av9,cv9,rfl,hG9,hb9⟩;have G9:=aA hG9;have B9:=aA (aB B6.out hb9);have hl9:=X6.out.lt;obtain ⟨⟨t0,t1,t2⟩,t3,t4,t5⟩:=X6.out.below hb9;clear hG9 hb9;go_wp2_with fail
    exact bodyPost_ret (v:=.agg #[.int .i64 0,.int .i64 (lJ U ⟨p,3,0,[]⟩),.slice av9 (kI U ⟨p,3,0,[]⟩).length cv9]) (by simp[results,Tryz.results67,go_sem,t0,t1,t2]) rfl ⟨0,lJ U ⟨p,3,0,[]⟩,kI U ⟨p,3,0,[]⟩,HCP.out,cY.of hl9 (Nat.le_refl _) rfl G9.out B9.out⟩
   ·have HCP:=aA (HCP1.out hq)
    have hz2:(PC != 0)=true:=by simp;exact hq
    clear HCP1 HCP2 hq HWR;go_wp2_with fail
    refine HLO.out.mono ?_;rintro r w6 ⟨lv,ln,lc,rfl,hb6⟩;have hl6:=X5.out.lt;have B6:=aA (aB B5.out hb6);have G6:=aA (G5.out.below hb6);obtain ⟨⟨t0,t1,t2⟩,t3,t4,t5⟩:=X5.out.below hb6;clear hb6 X5 B5 HLO G5;go_wp2_with fail
    exact bodyPost_ret (v:=.agg #[.int .i64 0,.int .i64 0,.slice dv RU.length dc]) (by simp[results,Tryz.results67,go_sem,t0,t1,t2]) rfl ⟨0,0,RU,HCP.out,cY.of (b:=w.heap.size) hx3 (Nat.le_refl _) rfl G6.out B6.out⟩
  ·have HCP:Hid (tZ ls U p 0 (lZ al p) U):=aA (by
    have z1:=HZ.out;have z2:=hc;rw[HALL.out]at z1 z2 ⊢;exact ⟨fun h=>absurd z1 h,fun _ _=>⟨rfl,rfl,rfl⟩,fun _ h=>absurd h z2,fun _ h=>absurd h z2⟩)
   generalize lZ al p=F at *;have hz2:(F != 0)=true:=by simp;exact hc
   clear hc;go_wp2_with fail
   refine HMR.out.mono ?_;rintro r w3 ⟨rfl,hb3⟩;have X3:=aA (X2.out.below hb3);have B3:=aA (aB B2.out hb3);clear hb3 HMR X2 B2;go_wp2_with fail
   refine (HST.out F w3 B3.out).mono ?_;rintro r w9 ⟨av9,cv9,rfl,hG9,hb9⟩;have G9:=aA hG9;have B9:=aA (aB B3.out hb9);have hl9:=X3.out.lt;obtain ⟨⟨t0,t1,t2⟩,t3,t4,t5⟩:=X3.out.below hb9;clear hG9 hb9;go_wp2_with fail
   exact bodyPost_ret (v:=.agg #[.int .i64 0,.int .i64 F,.slice av9 U.length cv9]) (by simp[results,Tryz.results67,go_sem,t0,t1,t2]) rfl ⟨0,F,U,HCP.out,cY.of hl9 (Nat.le_refl _) rfl G9.out B9.out⟩
 ·have HCP:Hid (tZ ls U p (bJ al p) 0 []):=aA (by
   rw[HALL.out]at hz ⊢;exact ⟨fun _=>⟨rfl,rfl,rfl⟩,fun h=>absurd h hz,fun h=>absurd h hz,fun h=>absurd h hz⟩)
  generalize bJ al p=F at *;have hz2:(F != 0)=true:=by simp;exact hz
  clear hz;go_wp2_with fail
  refine HAS.out.mono ?_;rintro r w2 ⟨rfl,hb2⟩;have B2:=aA (aB B1.out hb2);have hl1:=X1.out.lt;obtain ⟨⟨t0,t1,t2⟩,t3,t4,t5⟩:=X1.out.below hb2;clear hb2;go_wp2_with fail
  exact bodyPost_ret (v:=.agg #[.int .i64 F,.int .i64 0,.slice none 0 0]) (by simp[results,Tryz.results67,go_sem,t0,t1,t2]) rfl ⟨F,0,[],HCP.out,cY.of (b:=w.heap.size) (Nat.lt_succ_self _) (Nat.le_refl _) rfl (GW.nil _ _) B2.out⟩
theorem yW (a:Option Addr) (c n:Nat) (ls:List (List En)) (u:Option Addr) (uc m:Nat) (U:List En) (p:Bs) (zs:List Int) (d:Option Addr) (dn dc:Nat) (w:World) (h:RdL w a ls) (hn:n=ls.length) (hl:ls.length≤1000000) (hs:eJ ls) (hU:RdE w u U) (hm:m=U.length) (hUl:U.length≤1000000) (hUs:aV U) (hpl:p.length≤1048576) (hd:aP .u8 w d zs) (hdn:dn=zs.length) (hu8:U8 zs) (hdc:zs.length≤dc) (hdl:zs.length≤1048576) :
  Calls Tryz.prog 63 #[.slice a n c,.slice u m uc,.string (str p),.slice d dn dc] w fun r w'=>∃ q rep V,rZ ls U p zs q rep V∧cY q rep V w r w':=by
 subst hn;subst hm;subst hdn;have X0:=aA (cC.new w (.int .i64 0) (.int .i64 0) (.slice none 0 0) 64);have B0:=aA (aC w (.cells #[.int .i64 0,.int .i64 0,.slice none 0 0] 64));have HW:=aA (mX a c ls.length ls u uc U.length U _ (h.below B0.out) rfl hl (hU.below B0.out) rfl);have HSL:=aA (pM hs hUl hUs);have HLn:=aA (show (ls ++ [U]).length≤1048576 by rw[List.length_append];simp;omega)
 have HU:=aA hU;have HUs:=aA hUs;have HD:=aA hd;have HU8:=aA hu8;clear hd hu8;clear h hU hs hUs;have HST:=aA (fun (q:Int) v (hv:Below w.heap.size w v)=>sR u uc U.length U q v (HU.out.below hv) rfl (by omega) HUs.out)
 obtain ⟨al,hal⟩:∃ al,al=ls ++ [U]:=⟨_,rfl⟩;rw[←hal]at HW HSL HLn;have HALL:=aA hal;clear hal;go_enter Tryz.func63,Tryz.ntmps63;go_wp2_with fail
 refine HW.out.mono ?_;rintro r w1 ⟨av,cv,rfl,hr1,hb1⟩;have X1:=aA (X0.out.below hb1);have B1:=aA (aB B0.out hb1);have R1:=aA hr1;have hlt:=X1.out.lt;have HAS:=aA (oA av cv al.length al p w1 hr1 rfl HLn.out HSL.out hpl);clear hr1 hb1 HW X0 B0;by_cases hz:bJ al p=0
 ·obtain ⟨h4,hRs,hp⟩:=jD hz
  have HRU:=aA (show aU U from hRs U (by rw[HALL.out];simp))
  have HZ:=aA hz;have HP:=aA hp;rw[hz]at HAS;clear hz hRs hp;go_wp2_with fail
  refine HAS.out.mono ?_;rintro r w2 ⟨rfl,hb2⟩;have X2:=aA (X1.out.below hb2);have B2:=aA (aB B1.out hb2);have R2:=aA (R1.out.below hb2);clear hb2 HAS X1 B1 R1;have HFE:=aA (yT p d dc zs.length zs w2 (HD.out.below B2.out) rfl HU8.out hdc hpl hdl);by_cases hf:cZ p zs=0
  ·have HFC:=aA hf
   have hfl:kB p zs=[cV p zs]:=by rw[kB,if_pos hf]
   have HEC:=aA (show (cV p zs).chunks.length≤1048576 by show (jY zs (cut zs).length).length≤1048576;rw[zda,iI];omega)
   have HEP:=aA (show (cV p zs).path=p from rfl)
   rw[hf,hfl]at HFE;have HCP1:Hid (lB al p≠0→rZ ls U p zs 0 (lB al p) U):=aA (fun z2=>by
    have z1:=HZ.out;rw[HALL.out]at z1 z2 ⊢;exact ⟨fun h=>absurd z1 h,fun _ h=>absurd hf h,fun _ _ _=>⟨rfl,rfl,rfl⟩,fun _ _ h=>absurd h z2⟩)
   have HCP2:Hid (lB al p=0→rZ ls U p zs 0 (lJ U (cV p zs)) (kI U (cV p zs))):=aA (fun z2=>by
    have z1:=HZ.out;rw[HALL.out]at z1 z2;exact ⟨fun h=>absurd z1 h,fun _ h=>absurd hf h,fun _ _ h=>absurd z2 h,fun _ _ _=>⟨rfl,rfl,rfl⟩⟩)
   clear hf hfl;generalize cV p zs=fe at *;go_wp2_with fail
   refine HFE.out.mono ?_;rintro r w3 ⟨lv,lc,rfl,hG3,hb3⟩;simp only[List.length_singleton]at hG3 ⊢;have A3:=aA (aC w3 (.cells #[.int .i64 0,.slice lv 1 lc] 131));have T3:=aA (Box.new w3 (.int .i64 0) (.slice lv 1 lc) 131);have X3:=aA (X2.out.below (aB hb3 A3.out));have B3:=aA (aB B2.out (aB hb3 A3.out));have RE3:=aA (hG3.rd.below A3.out);have R3:=aA (R2.out.below (aB hb3 A3.out));clear hG3 hb3 HFE X2 B2 R2 A3;obtain ⟨yb,yo,e',y,yc,rfl,hyb,hye,y0,y1,y2,y3,hyr⟩:=RE3.out.at (k:=0) (by simp)
   simp only[List.getElem?_cons_zero,Option.some.injEq]at hye;subst hye;simp only[Nat.zero_mul,Nat.add_zero]at y0 y1 y2 y3;have HYR:=aA hyr;have KY:Hid (∀ W:World,Below (w3.alloc (.cells #[.int .i64 0,.slice (some ⟨yb,yo,none⟩) 1 lc] 131)).heap.size (w3.alloc (.cells #[.int .i64 0,.slice (some ⟨yb,yo,none⟩) 1 lc] 131)) W→(W.cell? ⟨yb,yo,none⟩=some (.string (str fe.path))∧W.cell? ⟨yb,yo+1,none⟩=some (.int .i64 fe.kind)∧W.cell? ⟨yb,yo+2,none⟩=some (.int .i64 fe.size)∧W.cell? ⟨yb,yo+3,none⟩=some (.slice y fe.chunks.length yc))∧aP .i64 W y fe.chunks):=aA (fun W hW=>⟨⟨(hW.cell (p:=⟨yb,yo,none⟩) hyb).trans y0,(hW.cell (p:=⟨yb,yo+1,none⟩) hyb).trans y1,(hW.cell (p:=⟨yb,yo+2,none⟩) hyb).trans y2,(hW.cell (p:=⟨yb,yo+3,none⟩) hyb).trans y3⟩,HYR.out.below hW⟩)
   have HMR:=aA (zt3 av cv al.length al p (w3.alloc (.cells #[.int .i64 0,.slice (some ⟨yb,yo,none⟩) 1 lc] 131)) R3.out rfl HLn.out HSL.out HP.out hpl);clear hyr y0 y1 y2 y3 hyb RE3;obtain ⟨⟨s0,s1⟩,s2,s3⟩:=T3.out;by_cases hc:lB al p=0
   ·have HCP:=aA (HCP2.out hc)
    rw[hc]at HMR;clear hc HCP1 HCP2;go_wp2_with fail
    clear s0 s1 s2 s3;generalize w3.alloc (.cells #[.int .i64 0,.slice (some ⟨yb,yo,none⟩) 1 lc] 131)=W3 at *;generalize w3.heap.size=b3 at *;refine HMR.out.mono ?_;rintro r w4 ⟨rfl,hb4⟩;have X4:=aA (X3.out.below hb4);have T4:=aA (T3.out.below hb4);have B4:=aA (aB B3.out hb4);have KY4:=aA (KY.out w4 hb4);have HWR4:=aA (tN u uc U.length U fe y fe.chunks.length yc w4 HRU.out (HU.out.below B4.out) rfl (by rw[HEP.out];exact HP.out) rfl KY4.out.2 (by rw[HEP.out];exact hpl) HEC.out)
    clear hb4 X3 T3 B3 HMR;obtain ⟨⟨s0,s1⟩,s2,s3⟩:=T4.out;obtain ⟨⟨y0,y1,y2,y3⟩,-⟩:=KY4.out;go_wp2_with fail
    clear s0 s1 s2 s3 y0 y1 y2 y3;refine HWR4.out.mono ?_;rintro r w9 ⟨av9,cv9,rfl,hG9,hb9⟩;have G9:=aA hG9;have B9:=aA (aB B4.out hb9);have hl9:=X4.out.lt;obtain ⟨⟨t0,t1,t2⟩,t3,t4,t5⟩:=X4.out.below hb9;clear hG9 hb9;go_wp2_with fail
    exact bodyPost_ret (v:=.agg #[.int .i64 0,.int .i64 (lJ U fe),.slice av9 (kI U fe).length cv9]) (by simp[results,Tryz.results63,go_sem,t0,t1,t2]) rfl ⟨0,lJ U fe,kI U fe,HCP.out,cY.of hl9 (Nat.le_refl _) rfl G9.out B9.out⟩
   ·have HCP:=aA (HCP1.out hc)
    generalize lB al p=F at *;have hz2:(F != 0)=true:=by simp;exact hc
    clear hc HCP1 HCP2;go_wp2_with fail
    clear s0 s1 s2 s3;generalize w3.alloc (.cells #[.int .i64 0,.slice (some ⟨yb,yo,none⟩) 1 lc] 131)=W3 at *;generalize w3.heap.size=b3 at *;refine HMR.out.mono ?_;rintro r w4 ⟨rfl,hb4⟩;have X4:=aA (X3.out.below hb4);have B4:=aA (aB B3.out hb4);clear hb4 X3 T3 B3 HMR;go_wp2_with fail
    refine (HST.out F w4 B4.out).mono ?_;rintro r w9 ⟨av9,cv9,rfl,hG9,hb9⟩;have G9:=aA hG9;have B9:=aA (aB B4.out hb9);have hl9:=X4.out.lt;obtain ⟨⟨t0,t1,t2⟩,t3,t4,t5⟩:=X4.out.below hb9;clear hG9 hb9;go_wp2_with fail
    exact bodyPost_ret (v:=.agg #[.int .i64 0,.int .i64 F,.slice av9 U.length cv9]) (by simp[results,Tryz.results63,go_sem,t0,t1,t2]) rfl ⟨0,F,U,HCP.out,cY.of hl9 (Nat.le_refl _) rfl G9.out B9.out⟩
  ·have HCP:Hid (rZ ls U p zs (cZ p zs) 0 []):=aA (by
    have z1:=HZ.out;rw[HALL.out]at z1;exact ⟨fun h=>absurd z1 h,fun _ _=>⟨rfl,rfl,rfl⟩,fun _ h=>absurd h hf,fun _ h=>absurd h hf⟩)
   have hz2:(cZ p zs != 0)=true:=by simp;exact hf
   clear hf;generalize cZ p zs=FC at *;go_wp2_with fail
   refine HFE.out.mono ?_;rintro r w3 ⟨lv,lc,rfl,hG3,hb3⟩;generalize (kB p zs).length=LL at *;have A3:=aA (aC w3 (.cells #[.int .i64 FC,.slice lv LL lc] 131));have T3:=aA (Box.new w3 (.int .i64 FC) (.slice lv LL lc) 131);have X3:=aA (X2.out.below (aB hb3 A3.out));have B3:=aA (aB B2.out (aB hb3 A3.out));have hl1:=X2.out.lt;clear hG3 hb3 HFE X2 B2 R2 A3;obtain ⟨⟨s0,s1⟩,s2,s3⟩:=T3.out;obtain ⟨⟨t0,t1,t2⟩,t3,t4,t5⟩:=X3.out;go_wp2_with fail
   exact bodyPost_ret (v:=.agg #[.int .i64 FC,.int .i64 0,.slice none 0 0]) (by simp[results,Tryz.results63,go_sem,t0,t1,t2]) rfl ⟨FC,0,[],HCP.out,cY.of (b:=w.heap.size) (Nat.lt_succ_self _) (Nat.le_refl _) rfl (GW.nil _ _) B3.out⟩
 ·have HCP:Hid (rZ ls U p zs (bJ al p) 0 []):=aA (by
   rw[HALL.out]at hz ⊢;exact ⟨fun _=>⟨rfl,rfl,rfl⟩,fun h=>absurd h hz,fun h=>absurd h hz,fun h=>absurd h hz⟩)
  generalize bJ al p=F at *;have hz2:(F != 0)=true:=by simp;exact hz
  clear hz;go_wp2_with fail
  refine HAS.out.mono ?_;rintro r w2 ⟨rfl,hb2⟩;have B2:=aA (aB B1.out hb2);have hl1:=X1.out.lt;obtain ⟨⟨t0,t1,t2⟩,t3,t4,t5⟩:=X1.out.below hb2;clear hb2;go_wp2_with fail
  exact bodyPost_ret (v:=.agg #[.int .i64 F,.int .i64 0,.slice none 0 0]) (by simp[results,Tryz.results63,go_sem,t0,t1,t2]) rfl ⟨F,0,[],HCP.out,cY.of (b:=w.heap.size) (Nat.lt_succ_self _) (Nat.le_refl _) rfl (GW.nil _ _) B2.out⟩
theorem sW {p:Bs} {zs:List Int} (hp:aF p=0) (hl:zs.length≤24):aH (cV p zs)=0:=by
 have h1:iJ (cV p zs)=true:=decide_eq_true ⟨by simp[cV],.inl rfl⟩
 have h2:lM (cV p zs)=true:=decide_eq_true (by simp[cV];omega)
 have h3:mF (cV p zs)=true:=decide_eq_true (by show ((jY zs (cut zs).length).length:Int)=((zs.length:Int)+7) / 8;rw[jZ,iI];omega)
 rw[fX hp h1 h2 h3,if_pos];rw[List.all_eq_true];intro z hz;simp only[cV,jY,List.mem_map]at hz;obtain ⟨i,_,rfl⟩:=hz;exact decide_eq_true (wC _)
theorem zcn (w:World) (z:Int):(w.alloc (.cells #[.int .u8 z] 5)).ownsRow w.heap.size 5 1 (.slice (some ⟨w.heap.size,0,none⟩) 1 1) 1 ([z].map (Value.int .u8)) :=
 ⟨rfl,.inr ⟨w.heap.size,1,#[.int .u8 z],rfl,Nat.le_refl _,heap_alloc_new w _,Nat.le_refl _,by decide,rfl,rfl⟩⟩
end Go.Proofs.YtolnlfnndnpiiaaGreat
namespace Go.Proofs.YtolnlfnndnpiiaaGreat
theorem zhk {ls:List (List En)} (h:mL ls=0):zh6 (aJ ls):=by
 obtain ⟨h1,-,h3⟩:=zik h;exact oL.2 ⟨oT (gA (dR.1 h1).2),h3⟩
theorem uM {T:List En} {p:Bs} (h:wrS T p=0):dU T p=0:=by
 by_cases hh:dU T p=0
 ·exact hh
 ·rw[wrS,if_neg hh]at h;exact h
theorem uL {T:List En} {p:Bs} (h:mkS T p=0):dU T p=0:=by
 by_cases hh:dU T p=0
 ·exact hh
 ·rw[mkS,if_neg hh]at h;exact h
theorem zim {U:List En} {p:Bs} {T t:List En} (ht:iW t) (hU:aU U) (hp:aF p=0) (h:mkS (dA t U) p=0):(⟨p,lK U p,0,[]⟩:En)=kA U p:=by
 have hF:=(fU.1 hU).1;have hn:aG (dA t U) p=none:=by
  rw[mkS,if_pos (uL h)]at h;cases hs:aG (dA t U) p with
  | none=>rfl
  | some x=>rw[hs]at h;simp at h
 rw[uY ht hF]at hn;cases hu:aG U p with
 | none =>
  have hc:dK U p≠0:=fun hc=>(wI hU hp).1 hc hu
  rw[lK,if_neg hc,kA,hu]
 | some x =>
  have hc:dK U p=0:=(wI hU hp).2 (by rw[hu];simp)
  rw[mB hu]at hn;by_cases hk:x.kind=3
  ·rw[lK,if_pos hc,kA,hu];simp[hk]
  ·rw[if_neg hk]at hn;cases hn
theorem zrl {ls:List (List En)} {U:List En} {p:Bs} {zs:List Int} {q rep q2 rep2:Int} {V V2:List En} (h:rZ ls U p zs q rep V) (h2:iG (jM (ls ++ [U]) p zs) (WrS (aJ (ls ++ [U])) U p (cV p zs)) q2 rep2 V2):q=q2∧rep=rep2∧V=V2:=by
 by_cases hz:bJ (ls ++ [U]) p=0
 ·obtain ⟨ht,hU,hp,hT⟩:=nF hz
  have hF:=(fU.1 hU).1;have hfm:jM (ls ++ [U]) p zs=cZ p zs:=by rw[jM,if_pos hz,cZ,if_pos hp]
  rw[hfm]at h2;by_cases hfc:cZ p zs=0
  ·obtain ⟨g1,g2⟩:=h2.good hfc
   have hzl:zs.length≤24:=by
    rw[cZ,if_pos hp]at hfc;by_cases hb:24<zs.length
    ·rw[if_pos hb]at hfc;cases hfc
    ·omega
   have hwv:=zq9 (oU hz).1 hp;by_cases hw:lB (ls ++ [U]) p=0
   ·obtain ⟨a1,a2,a3⟩:=h.yes hz hfc hw
    rw[hwv]at hw;have hfw:=sB hU (sW hp hzl) (oY ht hF hp (by rw[←hT];exact uM hw))
    obtain ⟨b1,b2⟩:=hfw.one (g2.yes hw);exact ⟨a1.trans g1.symm,a2.trans b1,a3.trans b2⟩
   ·obtain ⟨a1,a2,a3⟩:=h.no hz hfc hw
    obtain ⟨b1,b2⟩:=g2.no (by rw[←hwv];exact hw)
    exact ⟨a1.trans g1.symm,by rw[a2,b1,hwv],a3.trans b2.symm⟩
  ·obtain ⟨a1,a2,a3⟩:=h.big hz hfc
   obtain ⟨b1,b2,b3⟩:=h2.bad hfc;exact ⟨a1.trans b1.symm,a2.trans b2.symm,a3.trans b3.symm⟩
 ·obtain ⟨a1,a2,a3⟩:=h.bad hz
  have hfm:jM (ls ++ [U]) p zs=bJ (ls ++ [U]) p:=by rw[jM,if_neg hz]
  rw[hfm]at h2;obtain ⟨b1,b2,b3⟩:=h2.bad hz;exact ⟨a1.trans b1.symm,a2.trans b2.symm,a3.trans b3.symm⟩
theorem sY {O U:List En} {e:En} {rep:Int} {V:List En} (hO:aU O) (hU:aU U) (he:aH e=0) (hd:∀ u∈bG e.path,∀ x,aG U u=some x→bZ x.kind=true) (h:jP O U e rep V):aU V:=by
 by_cases hl:12<(fC U e).length
 ·rw[(h.1 hl).2];exact hO
 ·rw[(h.2 hl).2];exact zjd hU he hd (by omega)
theorem zv0 {ls:List (List En)} {U:List En} (hR:∀ es∈ls ++ [U],aU es):iW (aJ ls)∧aU U:=⟨oT (gA fun es he=>hR es (List.mem_append_left _ he)),hR U (by simp)⟩
theorem zr9 {ls:List (List En)} {U:List En} {p:Bs} {zs:List Int} {rep:Int} {V:List En} (hR:∀ es∈ls ++ [U],aU es) (hp:aF p=0) (hzl:zs.length≤24) (h:WrS (aJ (ls ++ [U])) U p (cV p zs) rep V):aU V:=by
 obtain ⟨ht,hU⟩:=zv0 hR;by_cases hw:wrS (aJ (ls ++ [U])) p=0
 ·exact sY hU hU (sW hp hzl) (oY ht (fU.1 hU).1 hp (by rw[←kP];exact uM hw)) (h.yes hw)
 ·rw[(h.no hw).2];exact hU
theorem zg8 {ls:List (List En)} {U:List En} {p:Bs} {rep:Int} {V:List En} (hR:∀ es∈ls ++ [U],aU es) (hp:aF p=0) (h:MkS (aJ (ls ++ [U])) U p rep V):aU V:=by
 obtain ⟨ht,hU⟩:=zv0 hR;obtain ⟨he,hep,-,-⟩:=za7 (U:=U) hp;by_cases hw:mkS (aJ (ls ++ [U])) p=0
 ·exact sY hU hU he (by rw[hep];exact oY ht (fU.1 hU).1 hp (by rw[←kP];exact uL hw)) (h.yes hw)
 ·rw[(h.no hw).2];exact hU
theorem zb9 {ls:List (List En)} {U:List En} {p:Bs} {rep:Int} {V:List En} (hR:∀ es∈ls ++ [U],aU es) (hp:aF p=0) (h:RmS ls (aJ (ls ++ [U])) U p rep V):aU V:=by
 obtain ⟨ht,hU⟩:=zv0 hR;have hr:=tJ hU hp;by_cases hw:rmS (aJ (ls ++ [U])) p=0
 ·cases hs:aG (aJ (ls ++ [bB U p true])) p with
  | none=>rw[(h.gone hw hs).2];exact hr
  | some x =>
   have hT:iW (aJ (ls ++ [bB U p true])):=by rw[kP];exact qA ht (fU.1 hr).1
   have hh:=zi4 hT hs;rw[kP]at hh;exact sY hU hr (zp2 hp) (oY ht (fU.1 hr).1 hp hh) (h.white hw (by rw[hs];simp))
 ·rw[(h.no hw).2];exact hU
end Go.Proofs.YtolnlfnndnpiiaaGreat
