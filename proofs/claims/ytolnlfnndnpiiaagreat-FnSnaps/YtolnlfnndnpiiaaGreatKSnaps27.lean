/-
  Texts put together: MntG OvrG MntI MntJ MntK.
-/
import Derived.Test.YtolnlfnndnpiiaaGreatKSnaps23
import Derived.Test.YtolnlfnndnpiiaaGreatKSnaps26
import Derived.Test.YtolnlfnndnpiiaaGreatKSnaps12
import Derived.Test.YtolnlfnndnpiiaaGreatKSnaps14
import Derived.Test.YtolnlfnndnpiiaaGreatKSnaps9
import Derived.Test.YtolnlfnndnpiiaaGreatKSnaps24
import Derived.Test.YtolnlfnndnpiiaaGreatKSnaps8
import Derived.Test.YtolnlfnndnpiiaaGreatKSnaps5
import Derived.Test.YtolnlfnndnpiiaaGreatKSnaps22
set_option linter.unusedVariables false
set_option maxHeartbeats 6400000
set_option maxRecDepth 100000
namespace Go.Proofs.YtolnlfnndnpiiaaGreat
open Go.RowKit Go.Maps
attribute [local go_sem ↓] Go.wp_at_zero Go.wp_at_succ
def cF (o:List En) (u:Bs):List En:=if aG o u=none then dC o (fJ u) else o
def fC (U:List En) (e:En):List En:=dC ((bG e.path).foldl cF U) e
theorem zaf {es:List En} {e:En} (h:aV es) (hp:e.path.length≤1048576) (hc:e.chunks.length≤1048576):aV (dC es e):=fun x hx=>by
 rcases jJ.1 hx with rfl | ⟨hx,-⟩
 ·exact ⟨hp,hc⟩
 ·exact h x hx
theorem zml (o:List En) (u:Bs):(cF o u).length≤o.length+1:=by
 unfold cF;split
 ·rw[rR];have:=wA o (fJ u);omega
 ·omega
theorem zcf {o:List En} {u:Bs} (h:aV o) (hu:u.length≤1048576):aV (cF o u):=by
 unfold cF;split
 ·exact zaf h hu (by simp[fJ])
 ·exact h
theorem zpj (o:List En):∀ us:List Bs,(us.foldl cF o).length≤o.length+us.length:=by
 intro us
 induction us generalizing o with
 | nil=>simp
 | cons u us ih=>have h1:=ih (cF o u);have h2:=zml o u;simp only[List.foldl_cons,List.length_cons];omega
theorem zlm {o:List En} {us:List Bs} {k:Nat} {u:Bs} (h:us[k]?=some u):(us.take (k+1)).foldl cF o=cF ((us.take k).foldl cF o) u:=by rw[nM h,List.foldl_append];rfl
theorem kX (o:Option Addr) (oc on:Nat) (O:List En) (a:Option Addr) (c n:Nat) (U:List En) (e:En) (x:Option Addr) (m cc:Nat) (w:World) (hO:RdE w o O) (hon:on=O.length) (hOl:O.length≤1000) (hOs:aV O) (h:RdE w a U) (hn:n=U.length) (hl:U.length≤1000) (hs:aV U) (hp:aF e.path=0) (hm:m=e.chunks.length) (hx:aP .i64 w x e.chunks) (hpl:e.path.length≤1048576) (hcl:e.chunks.length≤1048576)
  (rep:Int) (V:List En) (hV:(12<(fC U e).length→rep=2∧V=O)∧(¬ 12<(fC U e).length→rep=0∧V=fC U e)) :
  Calls Tryz.prog 170 #[.slice o on oc,.slice a n c,.agg #[.string (str e.path),.int .i64 e.kind,.int .i64 e.size,.slice x m cc]] w (cY 0 rep V w):=by
 subst hn;subst hm;subst hon;have hsz:=aK e.path;have h1:1≤(str e.path).size:=nW (by rw[aT];exact hp)
 have HAB:=aA (show bR (aX (str e.path).data.toList.tail)=bG e.path from by rw[aT,fG hp])
 have hul:=pP e.path;have HUS:=aA (fun u (hu:u∈bG e.path)=>zG hp u hu)
 have B0:=aA (aB (aC w (.cells #[.string (str e.path),.int .i64 e.kind,.int .i64 e.size,.slice x e.chunks.length cc] 50)) (aC (w.alloc (.cells #[.string (str e.path),.int .i64 e.kind,.int .i64 e.size,.slice x e.chunks.length cc] 50)) (.cells #[.int .i64 0,.int .i64 0,.slice none 0 0] 64)));have FE0:=aA ((cI.new w (.string (str e.path)) (.int .i64 e.kind) (.int .i64 e.size) (.slice x e.chunks.length cc) 50).below (aC (w.alloc (.cells #[.string (str e.path),.int .i64 e.kind,.int .i64 e.size,.slice x e.chunks.length cc] 50)) (.cells #[.int .i64 0,.int .i64 0,.slice none 0 0] 64)))
 have X0:=aA (cC.new (w.alloc (.cells #[.string (str e.path),.int .i64 e.kind,.int .i64 e.size,.slice x e.chunks.length cc] 50)) (.int .i64 0) (.int .i64 0) (.slice none 0 0) 64);have hsA:(w.alloc (.cells #[.string (str e.path),.int .i64 e.kind,.int .i64 e.size,.slice x e.chunks.length cc] 50)).heap.size=w.heap.size+1:=by simp
 rw[hsA]at X0;have HC:=aA (jF a c U.length U _ (h.below B0.out) rfl (by omega) hs)
 have HRO:=aA hO;have HOS:=aA hOs;have HX:=aA hx;have HS:=aA hs;have HFS:=aA (show fC U e=dC ((bG e.path).foldl cF U) e from rfl)
 have HV:=aA hV;clear hO hOs h hs hx hsA hV hp;generalize bG e.path=ups at *;generalize fC U e=FS at *;go_enter Tryz.func170,Tryz.ntmps170;go_wp2_with fail
 generalize hW0:(w.alloc (.cells #[.string (str e.path),.int .i64 e.kind,.int .i64 e.size,.slice x e.chunks.length cc] 50)).alloc (.cells #[.int .i64 0,.int .i64 0,.slice none 0 0] 64)=W0 at *;have hs0:W0.heap.size=w.heap.size+2:=by rw[←hW0];simp
 clear hW0;have hlt0:=X0.out.lt;refine HC.out.mono ?_;rintro r w1 ⟨g1,cv1,rfl,-,hG1,hb1⟩;have G1:=aA (GW.of hG1);have hs1:=hb1.size;have B1:=aA (aB B0.out hb1);have FE1:=aA (FE0.out.below hb1);have X1:=aA (X0.out.below hb1);clear hG1 hb1 HC FE0 X0;have f0:=FE1.out.1;go_wp2_with fail
 clear f0;refine (pH (str e.path) _ h1 (by omega)).mono ?_
 rintro r w2 ⟨v,rfl,ho2,hb2⟩;rw[HAB.out]at ho2;obtain ⟨uv,uc,rfl⟩:=bH ho2;have RU:=aA (cT.reads ho2);have G2:=aA ((G1.out.below hb2).mono (B':=w.heap.size+2) (by omega))
 have hs2:=hb2.size;have B2:=aA (aB B1.out hb2);have FE2:=aA (FE1.out.below hb2);have X2:=aA (X1.out.below hb2);clear ho2 hb2 G1 FE1 X1 B1 HAB;go_wp2_with fail
 go_loopw [7,9] (fun v i wr=>∃ (k:Nat) (av:Option Addr) (cv:Nat),k≤ups.length∧i=.int .i64 k∧v=.slice av ((ups.take k).foldl cF U).length cv∧Hid (GW (w.heap.size+2) wr (.slice av ((ups.take k).foldl cF U).length cv) ((ups.take k).foldl cF U))∧Hid (aV ((ups.take k).foldl cF U))∧Hid (Below w2.heap.size w2 wr)) (fun _ i _=>ups.length - (intOf i).toNat)
 case atStart=>exact ⟨0,some ⟨g1,0,none⟩,cv1,Nat.zero_le _,rfl,rfl,G2,HS,aA (Below.refl _ _)⟩
 case round =>
  obtain ⟨k,av,cv,hk,rfl,rfl,HGk,HSk,HW⟩:=hrel;have hkl:=zpj U (ups.take k);have htk:(ups.take k).length≤2:=by rw[List.length_take];omega
  have hws:=HW.out.size;by_cases hlt:k<ups.length
  ·obtain ⟨b,off,u,rfl,hb,hu,c0⟩:=(RU.out.below HW.out).at hlt
   have HFA:=aA (zlm (o:=U) hu);have hus:=HUS.out u (List.mem_of_getElem? hu);have hk0:(0:Int)≤(k:Int):=by omega
   have hk1:(k:Int)<(ups.length:Int):=by omega
   clear hu;obtain ⟨LF,hLF⟩:∃ LF,LF=(ups.take k).foldl cF U:=⟨_,rfl⟩;rw[←hLF]at HFA HGk HSk hkl ⊢;clear hLF;have HAT:=aA (iZ av cv LF.length LF u wr HGk.out.rd rfl (by omega))
   cases ha:atE LF u with
   | none =>
    have HST:=aA (show cF LF u=dC LF (fJ u) from by rw[cF,if_pos (iM ha)])
    have HPU:=aA (pZ av cv LF.length LF (fJ u) none 0 0 wr HGk.out.rd rfl (by omega) HSk.out rfl (fun hz=>absurd rfl hz) (by show u.length≤1048576;omega) (by simp[fJ]))
    have HSN:=aA (zcf HSk.out (show u.length≤1048576 by omega))
    rw[ha,show dD none = -1 from rfl]at HAT
    clear ha;go_wp2_with fail
    refine HAT.out.mono ?_;rintro r w3 ⟨rfl,hw3⟩;have hw4:=hw3.symm;clear hw3;subst hw4;go_wp2_with fail
    refine HPU.out.mono ?_;rintro r w5 ⟨g5,cv5,rfl,hG5,hb5⟩;have G5:=aA ((GW.of hG5).mono (B':=w.heap.size+2) (by omega))
    have B5:=aA (aB HW.out hb5);clear hG5 hb5 HAT HPU;go_wp2_with fail
    go_roundw
    case rel =>
     refine ⟨k+1,some ⟨g5,0,none⟩,cv5,by omega,by go_num,?_,?_,?_,B5⟩
     ·rw[HFA.out,HST.out]
     ·rw[HFA.out,HST.out];exact G5
     ·rw[HFA.out];exact HSN
    case measure=>simp[intOf];omega
   | some q =>
    obtain ⟨e2,-,hf2⟩:=lT ha;have HST:=aA (show cF LF u=LF from by rw[cF,if_neg (by rw[hf2];simp)])
    rw[ha,show dD (some q)=(q:Int) from rfl]at HAT
    have hq0:¬ (q:Int)<0:=by omega
    clear ha hf2;go_wp2_with fail
    refine HAT.out.mono ?_;rintro r w3 ⟨rfl,hw3⟩;have hw4:=hw3.symm;clear hw3;subst hw4;go_wp2_with fail
    go_roundw
    case rel =>
     refine ⟨k+1,av,cv,by omega,by go_num,?_,?_,?_,HW⟩
     ·rw[HFA.out,HST.out]
     ·rw[HFA.out,HST.out];exact HGk
     ·rw[HFA.out,HST.out];exact HSk
    case measure=>simp[intOf];omega
  ·have hE:ups.take k=ups:=List.take_of_length_le (by omega)
   rw[hE]at HGk HSk hkl ⊢;clear hE;obtain ⟨LF,hLF⟩:∃ LF,LF=ups.foldl cF U:=⟨_,rfl⟩;rw[←hLF]at HGk HSk hkl HFS ⊢;clear hLF;have BWr:=aA (aB B2.out HW.out);have hbe:=B2.out.size;have HPU:=aA (pZ av cv LF.length LF e x e.chunks.length cc wr HGk.out.rd rfl (by omega) HSk.out rfl (HX.out.below BWr.out) hpl hcl)
   rw[←HFS.out]at HPU;obtain ⟨f0,f1,f2,f3⟩:=FE2.out.below HW.out;go_wp2_with fail
   clear f0 f1 f2 f3;refine HPU.out.mono ?_;rintro r w5 ⟨g5,cv5,rfl,hG5,hb5⟩;have G5:=aA ((GW.of hG5).mono (B':=w.heap.size+2) (by omega))
   have B5:=aA (aB BWr.out hb5);have X5:=aA (X2.out.below (aB HW.out hb5));have hs5:=hb5.size;clear hG5 hb5 HPU;by_cases h12:12<FS.length
   ·obtain ⟨e1,e2⟩:=HV.out.1 h12
    have HE1:=aA e1;have HE2:=aA e2;have h12':(12:Int)<(FS.length:Int):=by omega
    have HRP:=aA (pI o oc O.length O 2 w5 (HRO.out.below B5.out) rfl (by omega) HOS.out)
    clear e1 e2 h12;go_wp2_with fail
    refine HRP.out.mono ?_;rintro r w6 ⟨av6,cv6,rfl,hG6,hb6⟩;have G6:=aA hG6;have B6:=aA (aB B5.out hb6);have hl5:=X5.out.lt;obtain ⟨⟨t0,t1,t2⟩,t3,t4,t5⟩:=X5.out.below hb6;clear hG6 hb6;go_wp2_with fail
    exact bodyPost_ret (v:=.agg #[.int .i64 0,.int .i64 2,.slice av6 O.length cv6]) (by simp[results,Tryz.results170,go_sem,t0,t1,t2]) rfl (by rw[HE1.out,HE2.out];exact cY.of hl5 (by omega) rfl G6.out B6.out)
   ·obtain ⟨e1,e2⟩:=HV.out.2 h12
    have HE1:=aA e1;have HE2:=aA e2;have h12':¬ (12:Int)<(FS.length:Int):=by omega
    have hl5:=X5.out.lt;obtain ⟨⟨t0,t1,t2⟩,t3,t4,t5⟩:=X5.out;clear e1 e2 h12;go_wp2_with fail
    exact bodyPost_ret (v:=.agg #[.int .i64 0,.int .i64 0,.slice (some ⟨g5,0,none⟩) FS.length cv5]) (by simp[results,Tryz.results170,go_sem,t0,t1,t2]) rfl (by rw[HE1.out,HE2.out];exact cY.of (B:=w.heap.size+2) (by omega) (by omega) rfl G5.out B5.out)
end Go.Proofs.YtolnlfnndnpiiaaGreat
namespace Go.Proofs.YtolnlfnndnpiiaaGreat
theorem tO {ls:List (List En)} {p:Bs} (h:bV ls=0) (hp:aF p=0):bJ ls p=0:=by
 unfold bJ;rw[if_pos h];exact hp
theorem zik {ls:List (List En)} (h:mL ls=0):bV ls=0∧oG ls=aJ ls∧(aJ ls).length≤40:=by
 by_cases hz:bV ls=0
 ·refine ⟨hz,by rw[oG,if_pos h],?_⟩
  unfold mL at h;rw[if_pos hz]at h;cases hm:yL ls
  ·rw[hm]at h;cases h
  ·have:=(List.all_eq_true.1 hm) ls.length (List.mem_range.2 (by omega))
   rw[List.take_length]at this;exact of_decide_eq_true this
 ·rw[(zhc hz).1]at h;exact absurd h hz
end Go.Proofs.YtolnlfnndnpiiaaGreat
namespace Go.Proofs.YtolnlfnndnpiiaaGreat
open Go.RowKit Go.Maps
attribute [local go_sem ↓] Go.wp_at_zero Go.wp_at_succ
theorem vE {a b:Int} (h:a=b):Ending.returned (.int .i64 a)=.returned (.int .i64 b):=by rw[h]
theorem zhl {ls:List (List En)} {p:Bs} (h4:ls.length≤4) (hR:∀ es∈ls,aU es) (hp:aF p=0) (h:aG (aJ ls) p=none):gY ls p=none:=by
 rw[rE (gA hR) h4 hp,xS]at h;cases hs:gY ls p with
 | none=>rfl
 | some i =>
  obtain ⟨-,e,he,-⟩:=kU (show dW (dM ls) p 4=some i from hs)
  rw[hs]at h;simp[he]at h
theorem zil {ls:List (List En)} {p:Bs} {e:En} (h4:ls.length≤4) (hR:∀ es∈ls,aU es) (hp:aF p=0) (h:aG (aJ ls) p=some e):∃ i f,gY ls p=some i∧dM ls i p=some f∧asT f=e:=by
 rw[rE (gA hR) h4 hp,xS]at h;cases hs:gY ls p with
 | none=>rw[hs]at h;cases h
 | some i =>
  obtain ⟨-,f,hf,-⟩:=kU (show dW (dM ls) p 4=some i from hs)
  rw[hs]at h;simp[hf]at h
  exact ⟨i,f,rfl,hf,h⟩
theorem kS (a:Option Addr) (c n:Nat) (ls:List (List En)) (p:Bs) (w:World) (h:RdL w a ls) (hn:n=ls.length) (h4:ls.length≤4) (hR:∀ es∈ls,aU es) (hp:aF p=0) (hpl:p.length≤1048576) (hs:aG (aJ ls) p=none) :
  Calls Tryz.prog 169 #[.slice a n c,.string (str p)] w (zmf w):=zya a c n ls p w h hn h4 hR hp hpl (zhl h4 hR hp hs)
theorem gM (a:Option Addr) (c n:Nat) (ls:List (List En)) (p:Bs) (w:World) (h:RdL w a ls) (hn:n=ls.length) (h4:ls.length≤4) (hR:∀ es∈ls,aU es) (hp:aF p=0) (hpl:p.length≤1048576) (e:En) (hs:aG (aJ ls) p=some e) :
  Calls Tryz.prog 169 #[.slice a n c,.string (str p)] w (zwb e w):=by
 obtain ⟨i,f,h1,h2,h3⟩:=zil h4 hR hp hs;have:=zza a c n ls p w h hn h4 hR hp hpl i f h1 h2;rwa [h3]at this
theorem zh4 {ls:List (List En)} {p:Bs} (hz:bV ls=0) (hp:aF p=0):lG ls p=dU (aJ ls) p:=by
 by_cases h0:aE p=[]
 ·rw[lG,if_pos h0,sC h0]
 ·obtain ⟨hq,-⟩:=cU hp h0
  have hne:aE p≠[47]:=fun e=>by rw[e]at hq;revert hq;decide
  rw[lG,if_neg h0,iD,if_neg hne,(pB (tO hz hq)).1];have hf:=oT (gA (dR.1 hz).2);cases hs:aG (aJ ls) (aE p) with
  | none=>rw[uK h0 hs];rfl
  | some e =>
   have hk:=hf.kind e (eZ hs).1;simp only[dU,if_neg h0,hs,Option.isSome_some,if_true];have hk2:e.kind=1∨e.kind=2:=by simpa [jH] using hk
   rcases hk2 with h | h <;> simp[h]
theorem jG (a:Option Addr) (c n:Nat) (ls:List (List En)) (p:Bs) (w:World) (h:RdL w a ls) (hn:n=ls.length) (h4:ls.length≤4) (hR:∀ es∈ls,aU es) (hp:aF p=0) (hpl:p.length≤1048576) :
  Calls Tryz.prog 167 #[.slice a n c,.string (str p)] w fun r w'=>r=.returned (.int .i64 (dU (aJ ls) p))∧Below w.heap.size w w':=by
 subst hn;have hsz:=aK p;have h1:1≤(str p).size:=nW (by rw[aT];exact hp)
 have HP:=aA (show (bR (aX (str p).data.toList.tail)).getLastD []=aE p from by rw[aT];rfl)
 by_cases hq:aE p=[]
 ·have HE:=aA (sC (es:=aJ ls) hq)
  have hs:=(sS (aE p)).trans (decide_eq_true hq);clear hq h hR;generalize dU (aJ ls) p=HC at *;go_enter Tryz.func167,Tryz.ntmps167;go_wp2_with fail
  refine (jI _ _ (by omega) (by omega)).mono ?_
  rintro r w1 ⟨rfl,hb⟩;rw[HP.out];have HB:=aA hb;clear hb;go_wp2_with fail
  go_ret
  exact ⟨vE HE.out.symm,HB.out⟩
 ·have hs:=(sS (aE p)).trans (decide_eq_false hq)
  obtain ⟨hqp,hqb⟩:=cU hp hq;have hql:(aE p).length≤1048576:=by have:=dZ hqb;omega
  cases ha:aG (aJ ls) (aE p) with
  | none =>
   have HE:=aA (uK hq ha);have HLK:=aA (fun u (hu:Below w.heap.size w u)=>kS a c ls.length ls (aE p) u (h.below hu) rfl h4 hR hqp hql ha)
   clear hq ha h hR hqp hqb;generalize dU (aJ ls) p=HC at *;generalize aE p=PT at *;go_enter Tryz.func167,Tryz.ntmps167;go_wp2_with fail
   refine (jI _ _ (by omega) (by omega)).mono ?_
   rintro r w1 ⟨rfl,hb⟩;rw[HP.out];have HB:=aA hb;clear hb;go_wp2_with fail
   refine (HLK.out w1 HB.out).mono ?_;rintro r w2 ⟨rfl,hb2⟩;have B2:=aA (aB HB.out (aB hb2 (aC w2 (.cells #[.string ⟨#[]⟩,.int .i64 0,.int .i64 0,.slice none 0 0] 50))));clear hb2;go_wp2_with fail
   go_ret
   exact ⟨vE HE.out.symm,B2.out⟩
  | some e =>
   have HE:Hid (dU (aJ ls) p=if e.kind=1 then 9 else 0):=aA (by simp[dU,hq,ha])
   have HLK:=aA (fun u (hu:Below w.heap.size w u)=>gM a c ls.length ls (aE p) u (h.below hu) rfl h4 hR hqp hql e ha)
   clear hq ha h hR hqp hqb;generalize dU (aJ ls) p=HC at *;generalize aE p=PT at *;have HD:=aA (Decidable.em (e.kind=1));go_enter Tryz.func167,Tryz.ntmps167;go_wp2_with fail
   refine (jI _ _ (by omega) (by omega)).mono ?_
   rintro r w1 ⟨rfl,hb⟩;rw[HP.out];have HB:=aA hb;clear hb;go_wp2_with fail
   refine (HLK.out w1 HB.out).mono ?_;rintro r w2 ⟨x,xc,rfl,-,hb2⟩;have B2:=aA (aB HB.out (aB hb2 (aC w2 (.cells #[.string (str e.path),.int .i64 e.kind,.int .i64 e.size,.slice x e.chunks.length xc] 50))));obtain ⟨f0,f1,f2,f3⟩:=cI.new w2 (.string (str e.path)) (.int .i64 e.kind) (.int .i64 e.size) (.slice x e.chunks.length xc) 50;clear hb2;by_cases hk:e.kind=1
   ·have HE2:=aA (show HC=9 by rw[HE.out,if_pos hk])
    have hk2:(e.kind==1)=true:=by simpa using hk
    clear hk;go_wp2_with fail
    go_ret
    exact ⟨vE HE2.out.symm,B2.out⟩
   ·have HE2:=aA (show HC=0 by rw[HE.out,if_neg hk])
    have hk2:(e.kind==1)=false:=by simpa using hk
    clear hk;go_wp2_with fail
    go_ret
    exact ⟨vE HE2.out.symm,B2.out⟩
def jP (O U:List En) (e:En) (rep:Int) (V:List En):Prop:=(12<(fC U e).length→rep=2∧V=O)∧(¬ 12<(fC U e).length→rep=0∧V=fC U e)
theorem nA (O U:List En) (e:En):∃ rep V,jP O U e rep V:=by
 by_cases h:12<(fC U e).length
 ·exact ⟨2,O,fun _=>⟨rfl,rfl⟩,fun h2=>absurd h h2⟩
 ·exact ⟨0,fC U e,fun h2=>absurd h2 h,fun _=>⟨rfl,rfl⟩⟩
def wrS (T:List En) (p:Bs):Int:=if dU T p=0 then (match aG T p with | some e=>if e.kind=2 then 9 else 0 | none=>0) else dU T p
structure WrS (T U:List En) (p:Bs) (e:En) (rep:Int) (V:List En):Prop where
 no:wrS T p≠0→rep=wrS T p∧V=U
 yes:wrS T p=0→jP U U e rep V
theorem WrS.stay {T U:List En} {p:Bs} {e:En} {q:Int} (h:wrS T p=q) (hq:q≠0):WrS T U p e q U:=⟨fun _=>⟨h.symm,rfl⟩,fun h2=>absurd (h.symm.trans h2) hq⟩
theorem WrS.fill {T U:List En} {p:Bs} {e:En} {rep:Int} {V:List En} (h:wrS T p=0) (hf:jP U U e rep V):WrS T U p e rep V:=⟨fun h2=>absurd h h2,fun _=>hf⟩
def mkS (T:List En) (p:Bs):Int:=if dU T p=0 then (if (aG T p).isSome then 7 else 0) else dU T p
def kA (U:List En) (p:Bs):En:=⟨p,(match aG U p with | some x=>if x.kind=3 then 4 else 2 | none=>2),0,[]⟩
structure MkS (T U:List En) (p:Bs) (rep:Int) (V:List En):Prop where
 no:mkS T p≠0→rep=mkS T p∧V=U
 yes:mkS T p=0→jP U U (kA U p) rep V
theorem MkS.stay {T U:List En} {p:Bs} {q:Int} (h:mkS T p=q) (hq:q≠0):MkS T U p q U:=⟨fun _=>⟨h.symm,rfl⟩,fun h2=>absurd (h.symm.trans h2) hq⟩
theorem MkS.fill {T U:List En} {p:Bs} {rep:Int} {V:List En} (h:mkS T p=0) (hf:jP U U (kA U p) rep V):MkS T U p rep V:=⟨fun h2=>absurd h h2,fun _=>hf⟩
theorem zab (a:Option Addr) (c n:Nat) (ls:List (List En)) (u:Option Addr) (uc m:Nat) (U:List En) (p:Bs) (zs:List Int) (d:Option Addr) (dc:Nat) (w:World) (h:RdL w a ls) (hn:n=ls.length) (hU:RdE w u U) (hm:m=U.length) (h4:(ls ++ [U]).length≤4) (hR:∀ es∈ls ++ [U],aU es) (hp:aF p=0) (hpl:p.length≤1048576) (hd:aP .u8 w d zs) (hu8:U8 zs) (hdc:zs.length≤dc) (hdl:zs.length≤24) :
  Calls Tryz.prog 121 #[.slice a n c,.slice u m uc,.string (str p),.slice d zs.length dc] w fun r w'=>∃ rep V,WrS (aJ (ls ++ [U])) U p (cV p zs) rep V∧cY 0 rep V w r w':=by
 subst hn;subst hm;have hRU:aU U:=hR U (by simp)
 have hl4:ls.length≤4:=by rw[List.length_append]at h4;omega
 have hUl:=hRU.len;have HUs:=aA (cG hRU);have HP:=aA hp;have X0:=aA (cC.new w (.int .i64 0) (.int .i64 0) (.slice none 0 0) 64);have B0:=aA (aC w (.cells #[.int .i64 0,.int .i64 0,.slice none 0 0] 64));have HA:=aA (kT a c ls.length ls u uc U.length U _ (h.below B0.out) rfl (by omega) (hU.below B0.out) rfl)
 have HU:=aA hU;have HST:=aA (fun (q:Int) v (hv:Below w.heap.size w v)=>pI u uc U.length U q v (HU.out.below hv) rfl (by omega) HUs.out)
 have HRR:=aA hR;have H4:=aA h4;have HD:=aA hd;have HU8:=aA hu8;clear hd hu8;clear h hU hR hRU hp h4;obtain ⟨al,hal⟩:∃ al,al=ls ++ [U]:=⟨_,rfl⟩;rw[←hal]at HA HRR H4 ⊢;have HALL:=aA hal;clear hal;by_cases hh:dU (aJ al) p=0
 ·cases ha:aG (aJ al) p with
  | none =>
   have HC:=aA (show wrS (aJ al) p=0 by simp[wrS,hh,ha])
   have HFI:=aA (fun v (hv:Below w.heap.size w v)=>uS p d dc zs v (HD.out.below hv) HU8.out hdc hdl)
   obtain ⟨rep,V,hV⟩:=nA U U (cV p zs);have HV:=aA hV;clear hV;go_enter Tryz.func121,Tryz.ntmps121;go_wp2_with fail
   refine HA.out.mono ?_;rintro r w1 ⟨av,cv,rfl,hr1,hb1⟩;have X1:=aA (X0.out.below hb1);have B1:=aA (aB B0.out hb1);have R1:=aA hr1;have hlt:=X1.out.lt;clear hr1 hb1 HA X0 B0;have HHM:=aA (jG av cv _ _ p w1 R1.out rfl H4.out HRR.out HP.out hpl);rw[hh]at HHM;clear hh;go_wp2_with fail
   refine HHM.out.mono ?_;rintro r w2 ⟨rfl,hb2⟩;have X2:=aA (X1.out.below hb2);have B2:=aA (aB B1.out hb2);have R2:=aA (R1.out.below hb2);clear hb2 HHM X1 B1 R1;have HLK:=aA (kS av cv _ _ p w2 R2.out rfl H4.out HRR.out HP.out hpl ha);clear ha;go_wp2_with fail
   refine HLK.out.mono ?_;rintro r w3 ⟨rfl,hb3⟩;have A3:=aA (aC w3 (.cells #[.string ⟨#[]⟩,.int .i64 0,.int .i64 0,.slice none 0 0] 50));have B3:=aA (aB B2.out (aB hb3 A3.out));have X3:=aA (X2.out.below (aB hb3 A3.out));have R3:=aA (R2.out.below (aB hb3 A3.out));obtain ⟨f0,f1,f2,f3⟩:=cI.new w3 (.string ⟨#[]⟩) (.int .i64 0) (.int .i64 0) (.slice none 0 0) 50;clear hb3 A3 HLK X2 B2 R2;go_wp2_with fail
   clear f0 f1 f2 f3;generalize w3.alloc (.cells #[.string ⟨#[]⟩,.int .i64 0,.int .i64 0,.slice none 0 0] 50)=W3 at *;refine (HFI.out W3 B3.out).mono ?_;rintro r w4 ⟨yv,yc,rfl,hO4,hb4⟩;have B4:=aA (aB B3.out hb4);have X4:=aA (X3.out.below hb4);have HFL:=aA (kX u uc U.length U u uc U.length U (cV p zs) yv (cut zs).length yc w4 (HU.out.below B4.out) rfl (by omega) HUs.out (HU.out.below B4.out) rfl (by omega) HUs.out HP.out (jZ zs).symm (fM hO4 (jZ zs).symm) hpl (by show (jY zs (cut zs).length).length≤1048576;rw[jZ,iI];omega) rep V HV.out)
   rw[show (cV p zs).path=p from rfl,show (cV p zs).kind=1 from rfl,show (cV p zs).size=zs.length from rfl]at HFL
   clear hO4 hb4 X3 B3;go_wp2_with fail
   refine HFL.out.mono ?_;rintro r w9 ⟨av9,cv9,rfl,hG9,hb9⟩;have G9:=aA hG9;have B9:=aA (aB B4.out hb9);have hl9:=X4.out.lt;obtain ⟨⟨t0,t1,t2⟩,t3,t4,t5⟩:=X4.out.below hb9;clear hG9 hb9;go_wp2_with fail
   exact bodyPost_ret (v:=.agg #[.int .i64 0,.int .i64 rep,.slice av9 V.length cv9]) (by simp[results,Tryz.results121,go_sem,t0,t1,t2]) rfl ⟨rep,V,WrS.fill HC.out HV.out,cY.of hl9 (Nat.le_refl _) rfl G9.out B9.out⟩
  | some e =>
   by_cases hk:e.kind=2
   ·have HC:=aA (show wrS (aJ al) p=9 by simp[wrS,hh,ha,hk])
    have hk2:(e.kind==2)=true:=by simpa using hk
    clear hk;go_enter Tryz.func121,Tryz.ntmps121;go_wp2_with fail
    refine HA.out.mono ?_;rintro r w1 ⟨av,cv,rfl,hr1,hb1⟩;have X1:=aA (X0.out.below hb1);have B1:=aA (aB B0.out hb1);have R1:=aA hr1;have hlt:=X1.out.lt;clear hr1 hb1 HA X0 B0;have HHM:=aA (jG av cv _ _ p w1 R1.out rfl H4.out HRR.out HP.out hpl);rw[hh]at HHM;clear hh;go_wp2_with fail
    refine HHM.out.mono ?_;rintro r w2 ⟨rfl,hb2⟩;have X2:=aA (X1.out.below hb2);have B2:=aA (aB B1.out hb2);have R2:=aA (R1.out.below hb2);clear hb2 HHM X1 B1 R1;have HLK:=aA (gM av cv _ _ p w2 R2.out rfl H4.out HRR.out HP.out hpl e ha);clear ha;go_wp2_with fail
    refine HLK.out.mono ?_;rintro r w3 ⟨x,xc,rfl,-,hb3⟩;have A3:=aA (aC w3 (.cells #[.string (str e.path),.int .i64 e.kind,.int .i64 e.size,.slice x e.chunks.length xc] 50));have B3:=aA (aB B2.out (aB hb3 A3.out));have X3:=aA (X2.out.below (aB hb3 A3.out));have R3:=aA (R2.out.below (aB hb3 A3.out));obtain ⟨f0,f1,f2,f3⟩:=cI.new w3 (.string (str e.path)) (.int .i64 e.kind) (.int .i64 e.size) (.slice x e.chunks.length xc) 50;clear hb3 A3 HLK X2 B2 R2;go_wp2_with fail
    clear f0 f1 f2 f3;generalize w3.alloc (.cells #[.string (str e.path),.int .i64 e.kind,.int .i64 e.size,.slice x e.chunks.length xc] 50)=W3 at *;refine (HST.out 9 W3 B3.out).mono ?_;rintro r w9 ⟨av9,cv9,rfl,hG9,hb9⟩;have G9:=aA hG9;have B9:=aA (aB B3.out hb9);have hl9:=X3.out.lt;obtain ⟨⟨t0,t1,t2⟩,t3,t4,t5⟩:=X3.out.below hb9;clear hG9 hb9;go_wp2_with fail
    exact bodyPost_ret (v:=.agg #[.int .i64 0,.int .i64 9,.slice av9 U.length cv9]) (by simp[results,Tryz.results121,go_sem,t0,t1,t2]) rfl ⟨9,U,WrS.stay HC.out (by decide),cY.of hl9 (Nat.le_refl _) rfl G9.out B9.out⟩
   ·have HC:=aA (show wrS (aJ al) p=0 by simp[wrS,hh,ha,hk])
    have hk2:(e.kind==2)=false:=by simpa using hk
    clear hk;have HFI:=aA (fun v (hv:Below w.heap.size w v)=>uS p d dc zs v (HD.out.below hv) HU8.out hdc hdl)
    obtain ⟨rep,V,hV⟩:=nA U U (cV p zs);have HV:=aA hV;clear hV;go_enter Tryz.func121,Tryz.ntmps121;go_wp2_with fail
    refine HA.out.mono ?_;rintro r w1 ⟨av,cv,rfl,hr1,hb1⟩;have X1:=aA (X0.out.below hb1);have B1:=aA (aB B0.out hb1);have R1:=aA hr1;have hlt:=X1.out.lt;clear hr1 hb1 HA X0 B0;have HHM:=aA (jG av cv _ _ p w1 R1.out rfl H4.out HRR.out HP.out hpl);rw[hh]at HHM;clear hh;go_wp2_with fail
    refine HHM.out.mono ?_;rintro r w2 ⟨rfl,hb2⟩;have X2:=aA (X1.out.below hb2);have B2:=aA (aB B1.out hb2);have R2:=aA (R1.out.below hb2);clear hb2 HHM X1 B1 R1;have HLK:=aA (gM av cv _ _ p w2 R2.out rfl H4.out HRR.out HP.out hpl e ha);clear ha;go_wp2_with fail
    refine HLK.out.mono ?_;rintro r w3 ⟨x,xc,rfl,-,hb3⟩;have A3:=aA (aC w3 (.cells #[.string (str e.path),.int .i64 e.kind,.int .i64 e.size,.slice x e.chunks.length xc] 50));have B3:=aA (aB B2.out (aB hb3 A3.out));have X3:=aA (X2.out.below (aB hb3 A3.out));have R3:=aA (R2.out.below (aB hb3 A3.out));obtain ⟨f0,f1,f2,f3⟩:=cI.new w3 (.string (str e.path)) (.int .i64 e.kind) (.int .i64 e.size) (.slice x e.chunks.length xc) 50;clear hb3 A3 HLK X2 B2 R2;go_wp2_with fail
    clear f0 f1 f2 f3;generalize w3.alloc (.cells #[.string (str e.path),.int .i64 e.kind,.int .i64 e.size,.slice x e.chunks.length xc] 50)=W3 at *;refine (HFI.out W3 B3.out).mono ?_;rintro r w4 ⟨yv,yc,rfl,hO4,hb4⟩;have B4:=aA (aB B3.out hb4);have X4:=aA (X3.out.below hb4);have HFL:=aA (kX u uc U.length U u uc U.length U (cV p zs) yv (cut zs).length yc w4 (HU.out.below B4.out) rfl (by omega) HUs.out (HU.out.below B4.out) rfl (by omega) HUs.out HP.out (jZ zs).symm (fM hO4 (jZ zs).symm) hpl (by show (jY zs (cut zs).length).length≤1048576;rw[jZ,iI];omega) rep V HV.out)
    rw[show (cV p zs).path=p from rfl,show (cV p zs).kind=1 from rfl,show (cV p zs).size=zs.length from rfl]at HFL
    clear hO4 hb4 X3 B3;go_wp2_with fail
    refine HFL.out.mono ?_;rintro r w9 ⟨av9,cv9,rfl,hG9,hb9⟩;have G9:=aA hG9;have B9:=aA (aB B4.out hb9);have hl9:=X4.out.lt;obtain ⟨⟨t0,t1,t2⟩,t3,t4,t5⟩:=X4.out.below hb9;clear hG9 hb9;go_wp2_with fail
    exact bodyPost_ret (v:=.agg #[.int .i64 0,.int .i64 rep,.slice av9 V.length cv9]) (by simp[results,Tryz.results121,go_sem,t0,t1,t2]) rfl ⟨rep,V,WrS.fill HC.out HV.out,cY.of hl9 (Nat.le_refl _) rfl G9.out B9.out⟩
 ·have HC:=aA (show wrS (aJ al) p=dU (aJ al) p by simp[wrS,hh])
  have HH0:=aA hh;obtain ⟨F,hF⟩:∃ F,F=dU (aJ al) p:=⟨_,rfl⟩;rw[←hF]at HC HH0;have HFE:=aA hF;have hz2:(F != 0)=true:=by simp;exact HH0.out
  clear hh hF;go_enter Tryz.func121,Tryz.ntmps121;go_wp2_with fail
  refine HA.out.mono ?_;rintro r w1 ⟨av,cv,rfl,hr1,hb1⟩;have X1:=aA (X0.out.below hb1);have B1:=aA (aB B0.out hb1);have R1:=aA hr1;have hlt:=X1.out.lt;clear hr1 hb1 HA X0 B0;have HHM:=aA (jG av cv _ _ p w1 R1.out rfl H4.out HRR.out HP.out hpl);rw[←HFE.out]at HHM;go_wp2_with fail
  refine HHM.out.mono ?_;rintro r w2 ⟨rfl,hb2⟩;have X2:=aA (X1.out.below hb2);have B2:=aA (aB B1.out hb2);have R2:=aA (R1.out.below hb2);clear hb2 HHM X1 B1 R1;go_wp2_with fail
  refine (HST.out F w2 B2.out).mono ?_;rintro r w9 ⟨av9,cv9,rfl,hG9,hb9⟩;have G9:=aA hG9;have B9:=aA (aB B2.out hb9);have hl9:=X2.out.lt;obtain ⟨⟨t0,t1,t2⟩,t3,t4,t5⟩:=X2.out.below hb9;clear hG9 hb9;go_wp2_with fail
  exact bodyPost_ret (v:=.agg #[.int .i64 0,.int .i64 F,.slice av9 U.length cv9]) (by simp[results,Tryz.results121,go_sem,t0,t1,t2]) rfl ⟨F,U,WrS.stay HC.out HH0.out,cY.of hl9 (Nat.le_refl _) rfl G9.out B9.out⟩
theorem zge (a:Option Addr) (c n:Nat) (ls:List (List En)) (u:Option Addr) (uc m:Nat) (U:List En) (p:Bs) (w:World) (h:RdL w a ls) (hn:n=ls.length) (hU:RdE w u U) (hm:m=U.length) (h4:(ls ++ [U]).length≤4) (hR:∀ es∈ls ++ [U],aU es) (hp:aF p=0) (hpl:p.length≤1048576) :
  Calls Tryz.prog 122 #[.slice a n c,.slice u m uc,.string (str p)] w fun r w'=>∃ rep V,MkS (aJ (ls ++ [U])) U p rep V∧cY 0 rep V w r w':=by
 subst hn;subst hm;have hRU:aU U:=hR U (by simp)
 have hl4:ls.length≤4:=by rw[List.length_append]at h4;omega
 have hUl:=hRU.len;have HUs:=aA (cG hRU);have HP:=aA hp;have X0:=aA (cC.new w (.int .i64 0) (.int .i64 0) (.slice none 0 0) 64);have B0:=aA (aC w (.cells #[.int .i64 0,.int .i64 0,.slice none 0 0] 64));have HA:=aA (kT a c ls.length ls u uc U.length U _ (h.below B0.out) rfl (by omega) (hU.below B0.out) rfl)
 have HU:=aA hU;have HST:=aA (fun (q:Int) v (hv:Below w.heap.size w v)=>pI u uc U.length U q v (HU.out.below hv) rfl (by omega) HUs.out)
 have HRR:=aA hR;have H4:=aA h4;clear h hU hR hRU hp h4;obtain ⟨al,hal⟩:∃ al,al=ls ++ [U]:=⟨_,rfl⟩;rw[←hal]at HA HRR H4 ⊢;have HALL:=aA hal;clear hal;by_cases hh:dU (aJ al) p=0
 ·cases ha:aG (aJ al) p with
  | none =>
   have HC:=aA (show mkS (aJ al) p=0 by simp[mkS,hh,ha])
   cases hat:atE U p with
   | none =>
    have HAT0:=aA hat;have hdf:kA U p=⟨p,2,0,[]⟩:=by simp[kA,iM hat]
    clear hat;obtain ⟨rep,V,hV⟩:=nA U U (kA U p);have HCP:=aA (MkS.fill HC.out hV);rw[hdf]at hV;have HV:=aA hV;clear hV hdf HC;go_enter Tryz.func122,Tryz.ntmps122;go_wp2_with fail
    refine HA.out.mono ?_;rintro r w1 ⟨av,cv,rfl,hr1,hb1⟩;have X1:=aA (X0.out.below hb1);have B1:=aA (aB B0.out hb1);have R1:=aA hr1;have hlt:=X1.out.lt;clear hr1 hb1 HA X0 B0;have HHM:=aA (jG av cv _ _ p w1 R1.out rfl H4.out HRR.out HP.out hpl);rw[hh]at HHM;clear hh;go_wp2_with fail
    refine HHM.out.mono ?_;rintro r w2 ⟨rfl,hb2⟩;have X2:=aA (X1.out.below hb2);have B2:=aA (aB B1.out hb2);have R2:=aA (R1.out.below hb2);clear hb2 HHM X1 B1 R1;have HLK:=aA (kS av cv _ _ p w2 R2.out rfl H4.out HRR.out HP.out hpl ha);clear ha;go_wp2_with fail
    refine HLK.out.mono ?_;rintro r w3 ⟨rfl,hb3⟩;have A3:=aA (aC w3 (.cells #[.string ⟨#[]⟩,.int .i64 0,.int .i64 0,.slice none 0 0] 50));have B3:=aA (aB B2.out (aB hb3 A3.out));have X3:=aA (X2.out.below (aB hb3 A3.out));have R3:=aA (R2.out.below (aB hb3 A3.out));obtain ⟨f0,f1,f2,f3⟩:=cI.new w3 (.string ⟨#[]⟩) (.int .i64 0) (.int .i64 0) (.slice none 0 0) 50;clear hb3 A3 HLK X2 B2 R2;go_wp2_with fail
    clear f0 f1 f2 f3;generalize hW3:w3.alloc (.cells #[.string ⟨#[]⟩,.int .i64 0,.int .i64 0,.slice none 0 0] 50)=W3 at *;have HS3:=aA (show W3.heap.size=w3.heap.size+1 by rw[←hW3];simp)
    clear hW3;have A4:=aA (aC W3 (.cells #[.string (str p),.int .i64 2,.int .i64 0,.slice none 0 0] 50));have B4:=aA (aB B3.out A4.out);have X4:=aA (X3.out.below A4.out);have HAT:=aA (iZ u uc U.length U p _ (HU.out.below B4.out) rfl (by omega))
    have F4:=aA (cI.new W3 (.string (str p)) (.int .i64 2) (.int .i64 0) (.slice none 0 0) 50);rw[HS3.out]at F4;have K4:Hid (∀ i,(W3.alloc (.cells #[.string (str p),.int .i64 2,.int .i64 0,.slice none 0 0] 50)).frozen? ⟨w3.heap.size+1,i,none⟩=false):=aA (fun i=>by rw[←HS3.out];simp)
    have hlt3:=B3.out.size;refine HAT.out.mono ?_;rintro r w4 ⟨rfl,rfl⟩;rw[HAT0.out];simp only[dD];clear HAT HAT0;obtain ⟨f0,f1,f2,f3⟩:=F4.out;go_wp2_with fail
    clear f0 f1 f2 f3;generalize W3.alloc (.cells #[.string (str p),.int .i64 2,.int .i64 0,.slice none 0 0] 50)=W4 at *;have HFL:=aA (kX u uc U.length U u uc U.length U ⟨p,2,0,[]⟩ none 0 0 W4 (HU.out.below B4.out) rfl (by omega) HUs.out (HU.out.below B4.out) rfl (by omega) HUs.out HP.out rfl (fun hz=>absurd rfl hz) hpl (by simp) rep V HV.out)
    refine HFL.out.mono ?_;rintro r w9 ⟨av9,cv9,rfl,hG9,hb9⟩;have G9:=aA hG9;have B9:=aA (aB B4.out hb9);have hl9:=X4.out.lt;obtain ⟨⟨t0,t1,t2⟩,t3,t4,t5⟩:=X4.out.below hb9;clear hG9 hb9;go_wp2_with fail
    exact bodyPost_ret (v:=.agg #[.int .i64 0,.int .i64 rep,.slice av9 V.length cv9]) (by simp[results,Tryz.results122,go_sem,t0,t1,t2]) rfl ⟨rep,V,HCP.out,cY.of hl9 (Nat.le_refl _) rfl G9.out B9.out⟩
   | some k =>
    have hk:=pQ hat;obtain ⟨y,hy⟩:∃ y,U[k]?=some y:=⟨U[k],List.getElem?_eq_getElem hk⟩;have HAT0:=aA hat;have HY:=aA hy;by_cases hy3:y.kind=3
    ·have hdf:kA U p=⟨p,4,0,[]⟩:=by simp[kA,zdc hat hy,hy3]
     have hy3b:(y.kind==3)=true:=by simpa using hy3
     clear hat hy hy3;obtain ⟨rep,V,hV⟩:=nA U U (kA U p);have HCP:=aA (MkS.fill HC.out hV);rw[hdf]at hV;have HV:=aA hV;clear hV hdf HC;go_enter Tryz.func122,Tryz.ntmps122;go_wp2_with fail
     refine HA.out.mono ?_;rintro r w1 ⟨av,cv,rfl,hr1,hb1⟩;have X1:=aA (X0.out.below hb1);have B1:=aA (aB B0.out hb1);have R1:=aA hr1;have hlt:=X1.out.lt;clear hr1 hb1 HA X0 B0;have HHM:=aA (jG av cv _ _ p w1 R1.out rfl H4.out HRR.out HP.out hpl);rw[hh]at HHM;clear hh;go_wp2_with fail
     refine HHM.out.mono ?_;rintro r w2 ⟨rfl,hb2⟩;have X2:=aA (X1.out.below hb2);have B2:=aA (aB B1.out hb2);have R2:=aA (R1.out.below hb2);clear hb2 HHM X1 B1 R1;have HLK:=aA (kS av cv _ _ p w2 R2.out rfl H4.out HRR.out HP.out hpl ha);clear ha;go_wp2_with fail
     refine HLK.out.mono ?_;rintro r w3 ⟨rfl,hb3⟩;have A3:=aA (aC w3 (.cells #[.string ⟨#[]⟩,.int .i64 0,.int .i64 0,.slice none 0 0] 50));have B3:=aA (aB B2.out (aB hb3 A3.out));have X3:=aA (X2.out.below (aB hb3 A3.out));have R3:=aA (R2.out.below (aB hb3 A3.out));obtain ⟨f0,f1,f2,f3⟩:=cI.new w3 (.string ⟨#[]⟩) (.int .i64 0) (.int .i64 0) (.slice none 0 0) 50;clear hb3 A3 HLK X2 B2 R2;go_wp2_with fail
     clear f0 f1 f2 f3;generalize hW3:w3.alloc (.cells #[.string ⟨#[]⟩,.int .i64 0,.int .i64 0,.slice none 0 0] 50)=W3 at *;have HS3:=aA (show W3.heap.size=w3.heap.size+1 by rw[←hW3];simp)
     clear hW3;have A4:=aA (aC W3 (.cells #[.string (str p),.int .i64 2,.int .i64 0,.slice none 0 0] 50));have B4:=aA (aB B3.out A4.out);have X4:=aA (X3.out.below A4.out);have HAT:=aA (iZ u uc U.length U p _ (HU.out.below B4.out) rfl (by omega))
     have F4:=aA (cI.new W3 (.string (str p)) (.int .i64 2) (.int .i64 0) (.slice none 0 0) 50);rw[HS3.out]at F4;have K4:Hid (∀ i,(W3.alloc (.cells #[.string (str p),.int .i64 2,.int .i64 0,.slice none 0 0] 50)).frozen? ⟨w3.heap.size+1,i,none⟩=false):=aA (fun i=>by rw[←HS3.out];simp)
     have hlt3:=B3.out.size;refine HAT.out.mono ?_;rintro r w4 ⟨rfl,rfl⟩;rw[HAT0.out];simp only[dD];clear HAT HAT0;obtain ⟨f0,f1,f2,f3⟩:=F4.out;obtain ⟨yb,yo,y',yx,yc,rfl,hyb,hye,y0,y1,y2,y3,hyr⟩:=(HU.out.below B4.out).at hk;have hyy:y'=y:=Option.some.inj (hye.symm.trans HY.out);subst hyy;clear hye hyr;have hk0:(0:Int)≤(k:Int):=by omega
     have hk1:(k:Int)<(U.length:Int):=by omega
     have A5:=aA (A4.out.setCell (p:=⟨w3.heap.size+1,1,none⟩) (Nat.le_of_eq HS3.out) (.int .i64 4));have B5:=aA (aB B3.out A5.out);have X5:=aA (X3.out.below A5.out);have k1:=K4.out 1;have g0:((W3.alloc (.cells #[.string (str p),.int .i64 2,.int .i64 0,.slice none 0 0] 50)).setCell ⟨w3.heap.size+1,1,none⟩ (.int .i64 4)).cell? ⟨w3.heap.size+1,0,none⟩=some (.string (str p)):=by rw[aM (by simp)];exact f0
     have g1:((W3.alloc (.cells #[.string (str p),.int .i64 2,.int .i64 0,.slice none 0 0] 50)).setCell ⟨w3.heap.size+1,1,none⟩ (.int .i64 4)).cell? ⟨w3.heap.size+1,1,none⟩=some (.int .i64 4):=dG f1;have g2:((W3.alloc (.cells #[.string (str p),.int .i64 2,.int .i64 0,.slice none 0 0] 50)).setCell ⟨w3.heap.size+1,1,none⟩ (.int .i64 4)).cell? ⟨w3.heap.size+1,2,none⟩=some (.int .i64 0):=by rw[aM (by simp)];exact f2
     have g3:((W3.alloc (.cells #[.string (str p),.int .i64 2,.int .i64 0,.slice none 0 0] 50)).setCell ⟨w3.heap.size+1,1,none⟩ (.int .i64 4)).cell? ⟨w3.heap.size+1,3,none⟩=some (.slice none 0 0):=by rw[aM (by simp)];exact f3
     go_wp2_with fail
     clear f0 f1 f2 f3 g0 g1 g2 g3 k1 y0 y1 y2 y3;generalize (W3.alloc (.cells #[.string (str p),.int .i64 2,.int .i64 0,.slice none 0 0] 50)).setCell ⟨w3.heap.size+1,1,none⟩ (.int .i64 4)=W5 at *;have HFL:=aA (kX _ uc U.length U _ uc U.length U ⟨p,4,0,[]⟩ none 0 0 W5 (HU.out.below B5.out) rfl (by omega) HUs.out (HU.out.below B5.out) rfl (by omega) HUs.out HP.out rfl (fun hz=>absurd rfl hz) hpl (by simp) rep V HV.out)
     refine HFL.out.mono ?_;rintro r w9 ⟨av9,cv9,rfl,hG9,hb9⟩;have G9:=aA hG9;have B9:=aA (aB B5.out hb9);have hl9:=X5.out.lt;obtain ⟨⟨t0,t1,t2⟩,t3,t4,t5⟩:=X5.out.below hb9;clear hG9 hb9;go_wp2_with fail
     exact bodyPost_ret (v:=.agg #[.int .i64 0,.int .i64 rep,.slice av9 V.length cv9]) (by simp[results,Tryz.results122,go_sem,t0,t1,t2]) rfl ⟨rep,V,HCP.out,cY.of hl9 (Nat.le_refl _) rfl G9.out B9.out⟩
    ·have hdf:kA U p=⟨p,2,0,[]⟩:=by simp[kA,zdc hat hy,hy3]
     have hy3b:(y.kind==3)=false:=by simpa using hy3
     clear hat hy hy3;obtain ⟨rep,V,hV⟩:=nA U U (kA U p);have HCP:=aA (MkS.fill HC.out hV);rw[hdf]at hV;have HV:=aA hV;clear hV hdf HC;go_enter Tryz.func122,Tryz.ntmps122;go_wp2_with fail
     refine HA.out.mono ?_;rintro r w1 ⟨av,cv,rfl,hr1,hb1⟩;have X1:=aA (X0.out.below hb1);have B1:=aA (aB B0.out hb1);have R1:=aA hr1;have hlt:=X1.out.lt;clear hr1 hb1 HA X0 B0;have HHM:=aA (jG av cv _ _ p w1 R1.out rfl H4.out HRR.out HP.out hpl);rw[hh]at HHM;clear hh;go_wp2_with fail
     refine HHM.out.mono ?_;rintro r w2 ⟨rfl,hb2⟩;have X2:=aA (X1.out.below hb2);have B2:=aA (aB B1.out hb2);have R2:=aA (R1.out.below hb2);clear hb2 HHM X1 B1 R1;have HLK:=aA (kS av cv _ _ p w2 R2.out rfl H4.out HRR.out HP.out hpl ha);clear ha;go_wp2_with fail
     refine HLK.out.mono ?_;rintro r w3 ⟨rfl,hb3⟩;have A3:=aA (aC w3 (.cells #[.string ⟨#[]⟩,.int .i64 0,.int .i64 0,.slice none 0 0] 50));have B3:=aA (aB B2.out (aB hb3 A3.out));have X3:=aA (X2.out.below (aB hb3 A3.out));have R3:=aA (R2.out.below (aB hb3 A3.out));obtain ⟨f0,f1,f2,f3⟩:=cI.new w3 (.string ⟨#[]⟩) (.int .i64 0) (.int .i64 0) (.slice none 0 0) 50;clear hb3 A3 HLK X2 B2 R2;go_wp2_with fail
     clear f0 f1 f2 f3;generalize hW3:w3.alloc (.cells #[.string ⟨#[]⟩,.int .i64 0,.int .i64 0,.slice none 0 0] 50)=W3 at *;have HS3:=aA (show W3.heap.size=w3.heap.size+1 by rw[←hW3];simp)
     clear hW3;have A4:=aA (aC W3 (.cells #[.string (str p),.int .i64 2,.int .i64 0,.slice none 0 0] 50));have B4:=aA (aB B3.out A4.out);have X4:=aA (X3.out.below A4.out);have HAT:=aA (iZ u uc U.length U p _ (HU.out.below B4.out) rfl (by omega))
     have F4:=aA (cI.new W3 (.string (str p)) (.int .i64 2) (.int .i64 0) (.slice none 0 0) 50);rw[HS3.out]at F4;have K4:Hid (∀ i,(W3.alloc (.cells #[.string (str p),.int .i64 2,.int .i64 0,.slice none 0 0] 50)).frozen? ⟨w3.heap.size+1,i,none⟩=false):=aA (fun i=>by rw[←HS3.out];simp)
     have hlt3:=B3.out.size;refine HAT.out.mono ?_;rintro r w4 ⟨rfl,rfl⟩;rw[HAT0.out];simp only[dD];clear HAT HAT0;obtain ⟨f0,f1,f2,f3⟩:=F4.out;obtain ⟨yb,yo,y',yx,yc,rfl,hyb,hye,y0,y1,y2,y3,hyr⟩:=(HU.out.below B4.out).at hk;have hyy:y'=y:=Option.some.inj (hye.symm.trans HY.out);subst hyy;clear hye hyr;have hk0:(0:Int)≤(k:Int):=by omega
     have hk1:(k:Int)<(U.length:Int):=by omega
     go_wp2_with fail
     clear y0 y1 y2 y3;clear f0 f1 f2 f3;generalize W3.alloc (.cells #[.string (str p),.int .i64 2,.int .i64 0,.slice none 0 0] 50)=W4 at *;have HFL:=aA (kX _ uc U.length U _ uc U.length U ⟨p,2,0,[]⟩ none 0 0 W4 (HU.out.below B4.out) rfl (by omega) HUs.out (HU.out.below B4.out) rfl (by omega) HUs.out HP.out rfl (fun hz=>absurd rfl hz) hpl (by simp) rep V HV.out)
     refine HFL.out.mono ?_;rintro r w9 ⟨av9,cv9,rfl,hG9,hb9⟩;have G9:=aA hG9;have B9:=aA (aB B4.out hb9);have hl9:=X4.out.lt;obtain ⟨⟨t0,t1,t2⟩,t3,t4,t5⟩:=X4.out.below hb9;clear hG9 hb9;go_wp2_with fail
     exact bodyPost_ret (v:=.agg #[.int .i64 0,.int .i64 rep,.slice av9 V.length cv9]) (by simp[results,Tryz.results122,go_sem,t0,t1,t2]) rfl ⟨rep,V,HCP.out,cY.of hl9 (Nat.le_refl _) rfl G9.out B9.out⟩
  | some e =>
   have HC:=aA (show mkS (aJ al) p=7 by simp[mkS,hh,ha])
   go_enter Tryz.func122,Tryz.ntmps122;go_wp2_with fail
   refine HA.out.mono ?_;rintro r w1 ⟨av,cv,rfl,hr1,hb1⟩;have X1:=aA (X0.out.below hb1);have B1:=aA (aB B0.out hb1);have R1:=aA hr1;have hlt:=X1.out.lt;clear hr1 hb1 HA X0 B0;have HHM:=aA (jG av cv _ _ p w1 R1.out rfl H4.out HRR.out HP.out hpl);rw[hh]at HHM;clear hh;go_wp2_with fail
   refine HHM.out.mono ?_;rintro r w2 ⟨rfl,hb2⟩;have X2:=aA (X1.out.below hb2);have B2:=aA (aB B1.out hb2);have R2:=aA (R1.out.below hb2);clear hb2 HHM X1 B1 R1;have HLK:=aA (gM av cv _ _ p w2 R2.out rfl H4.out HRR.out HP.out hpl e ha);clear ha;go_wp2_with fail
   refine HLK.out.mono ?_;rintro r w3 ⟨x,xc,rfl,-,hb3⟩;have A3:=aA (aC w3 (.cells #[.string (str e.path),.int .i64 e.kind,.int .i64 e.size,.slice x e.chunks.length xc] 50));have B3:=aA (aB B2.out (aB hb3 A3.out));have X3:=aA (X2.out.below (aB hb3 A3.out));have R3:=aA (R2.out.below (aB hb3 A3.out));obtain ⟨f0,f1,f2,f3⟩:=cI.new w3 (.string (str e.path)) (.int .i64 e.kind) (.int .i64 e.size) (.slice x e.chunks.length xc) 50;clear hb3 A3 HLK X2 B2 R2;go_wp2_with fail
   clear f0 f1 f2 f3;generalize w3.alloc (.cells #[.string (str e.path),.int .i64 e.kind,.int .i64 e.size,.slice x e.chunks.length xc] 50)=W3 at *;refine (HST.out 7 W3 B3.out).mono ?_;rintro r w9 ⟨av9,cv9,rfl,hG9,hb9⟩;have G9:=aA hG9;have B9:=aA (aB B3.out hb9);have hl9:=X3.out.lt;obtain ⟨⟨t0,t1,t2⟩,t3,t4,t5⟩:=X3.out.below hb9;clear hG9 hb9;go_wp2_with fail
   exact bodyPost_ret (v:=.agg #[.int .i64 0,.int .i64 7,.slice av9 U.length cv9]) (by simp[results,Tryz.results122,go_sem,t0,t1,t2]) rfl ⟨7,U,MkS.stay HC.out (by decide),cY.of hl9 (Nat.le_refl _) rfl G9.out B9.out⟩
 ·have HC:=aA (show mkS (aJ al) p=dU (aJ al) p by simp[mkS,hh])
  have HH0:=aA hh;obtain ⟨F,hF⟩:∃ F,F=dU (aJ al) p:=⟨_,rfl⟩;rw[←hF]at HC HH0;have HFE:=aA hF;have hz2:(F != 0)=true:=by simp;exact HH0.out
  clear hh hF;go_enter Tryz.func122,Tryz.ntmps122;go_wp2_with fail
  refine HA.out.mono ?_;rintro r w1 ⟨av,cv,rfl,hr1,hb1⟩;have X1:=aA (X0.out.below hb1);have B1:=aA (aB B0.out hb1);have R1:=aA hr1;have hlt:=X1.out.lt;clear hr1 hb1 HA X0 B0;have HHM:=aA (jG av cv _ _ p w1 R1.out rfl H4.out HRR.out HP.out hpl);rw[←HFE.out]at HHM;go_wp2_with fail
  refine HHM.out.mono ?_;rintro r w2 ⟨rfl,hb2⟩;have X2:=aA (X1.out.below hb2);have B2:=aA (aB B1.out hb2);have R2:=aA (R1.out.below hb2);clear hb2 HHM X1 B1 R1;go_wp2_with fail
  refine (HST.out F w2 B2.out).mono ?_;rintro r w9 ⟨av9,cv9,rfl,hG9,hb9⟩;have G9:=aA hG9;have B9:=aA (aB B2.out hb9);have hl9:=X2.out.lt;obtain ⟨⟨t0,t1,t2⟩,t3,t4,t5⟩:=X2.out.below hb9;clear hG9 hb9;go_wp2_with fail
  exact bodyPost_ret (v:=.agg #[.int .i64 0,.int .i64 F,.slice av9 U.length cv9]) (by simp[results,Tryz.results122,go_sem,t0,t1,t2]) rfl ⟨F,U,MkS.stay HC.out HH0.out,cY.of hl9 (Nat.le_refl _) rfl G9.out B9.out⟩
end Go.Proofs.YtolnlfnndnpiiaaGreat
