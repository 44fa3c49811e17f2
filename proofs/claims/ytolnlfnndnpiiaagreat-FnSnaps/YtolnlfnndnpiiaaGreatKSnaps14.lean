/-
  Texts put together: DrawH DrawI OvrD CpyR MntA.
-/
import Derived.Test.YtolnlfnndnpiiaaGreatKSnaps13
import Derived.Test.YtolnlfnndnpiiaaGreatKSnaps12
import Derived.Test.YtolnlfnndnpiiaaGreatKSnaps8
import Derived.Test.YtolnlfnndnpiiaaGreatKSnaps9
import Derived.Maps.AppendAt
import Derived.Test.YtolnlfnndnpiiaaGreatKSnaps1
import Derived.Test.YtolnlfnndnpiiaaGreatKSnaps4
import Derived.Laws.CopyRow
import Derived.ProofKit
import Derived.Deep.DrawnRows
import Derived.Test.YtolnlfnndnpiiaaGreatKSnaps6
set_option linter.unusedVariables false
set_option maxHeartbeats 6400000
set_option maxRecDepth 100000
namespace Go.Proofs.YtolnlfnndnpiiaaGreat
open Go.RowKit Go.Maps
attribute [local go_sem ↓] Go.wp_at_zero Go.wp_at_succ
theorem zm5 {p q:Bs} {i:Nat} (hp:aF p=0) (h:(bR (aX p.tail))[i]?=some q) :
  aF q=0∧((aE q=[]∧i=0)∨∃ j,i=j+1∧(bR (aX p.tail))[j]?=some (aE q)):=by
 obtain ⟨ns,hN,hpe,hc,hs⟩:=fV hp;rw[hc]at h ⊢;have hi:i<ns.length - 1:=by have:=(List.getElem?_eq_some_iff.1 h).1;rwa [iX]at this
 have hq:q=cA (ns.take (i+1)):=by
  have:=h;unfold bR at this;rw[List.getElem?_map,List.getElem?_range hi]at this
  simpa using this.symm
 have hNt:nP (ns.take (i+1)):=qS hN (by omega)
 have hcq:aX q.tail=ns.take (i+1):=by rw[hq];exact rI hNt.1 (uZ hNt)
 refine ⟨by rw[hq];exact pV hNt,?_⟩
 have hlen:(ns.take (i+1)).length=i+1:=by rw[List.length_take];omega
 have hpar:aE q=(bR (ns.take (i+1))).getLastD []:=by rw[aE,hcq]
 cases i with
 | zero =>
  refine .inl ⟨?_,rfl⟩;rw[hpar,bR,hlen];rfl
 | succ j =>
  refine .inr ⟨j,rfl,?_⟩;rw[hpar];unfold bR;rw[hlen,List.getElem?_map,List.getElem?_range (by omega),show j+1+1 - 1=j+1 by omega,List.range_succ,List.map_append,List.map_cons,List.map_nil]
  simp[List.getLastD_eq_getLast?,List.take_take]
theorem vC {p:Bs} (h:aF p=0):p.length≤15:=by
 obtain ⟨ns,hN,hpe,_,_⟩:=fV h;have:=uP ns 4 hN.2.2.1;have:=hN.2.2.2;rw[hpe];omega
theorem cG {es:List En} (h:aU es):aV es:=fun e he=>by
 have h1:=vC (bM (h.ent e he));have h2:=lL (h.ent e he);omega
theorem zre {es:List En} (h:aU es) (e:En):eI es e=bU es e:=by
 rw[eI,bU,tW.2 h,eX.2 h,nB h.rise]
theorem GE.keptP {p B:Nat} {w w':World} {v:Value} {es:List En} (h:GE B w.heap.size w v es) (hk:aD (fun b=>b=p) w w') (hp:p<B):GE B w'.heap.size w' v es :=
 (h.kept hk (fun b h1 _ e=>by omega)).wide hk.size
theorem zbc (w:World) (a b c:Int) (t:TypeId):∀ i,i<3→(w.alloc (.cells #[.int .i64 a,.int .i64 b,.int .i64 c] t)).cell? ⟨w.heap.size,i,none⟩=some (.int .i64 ([a,b,c].getD i 0)):=by
 intro i hi
 match i,hi with
 | 0,_ | 1,_ | 2,_=>simp
def zqc (up:List Bs) (es:List En) (j:Nat):Prop:=es.length<12→j=0∨∃ q,up[j - 1]?=some q∧dL es q=true
theorem zu1 {es:List En} {d:En} {q:Bs} (h:d∈es) (hq:d.path=q) (hk:bZ d.kind=true):dL es q=true:=by
 rw[dL,List.any_eq_true];exact ⟨d,h,by simp[hq,hk]⟩
theorem ztd {es:List En} {q:Bs} (h:dL es q=true):∃ d∈es,d.path=q∧bZ d.kind=true:=by
 rw[dL,List.any_eq_true]at h;obtain ⟨d,hd,h⟩:=h;simp only[Bool.and_eq_true,decide_eq_true_eq]at h;exact ⟨d,hd,h⟩
theorem zkc {p q:Bs} {es:List En} {j:Nat} {k:Int} (hp:aF p=0) (hq:(bR (aX p.tail))[j]?=some q) (hR:aU es) (hU:zqc (bR (aX p.tail)) es j) (hl:es.length<12) (hk:k=2∨k=4) :
  aU (dC es ⟨q,k,0,[]⟩)∧zqc (bR (aX p.tail)) (dC es ⟨q,k,0,[]⟩) (j+1):=by
 obtain ⟨hf,hpar⟩:=zm5 hp hq;have hef:aH ⟨q,k,0,[]⟩=0:=nQ hf (by rcases hk with rfl | rfl <;> decide)
 have hhome:cR es q=true:=by
  rw[eM];rcases hpar with ⟨h0,_⟩ | ⟨i,rfl,hi⟩
  ·exact .inl h0
  ·rcases hU hl with h | ⟨q',h1,h2⟩
   ·omega
   ·rw[Nat.add_sub_cancel,hi]at h1
    cases h1
    exact .inr (ztd h2)
 have hlen:(dC es ⟨q,k,0,[]⟩).length≤12:=by
  have:(dC es ⟨q,k,0,[]⟩).length=(iH es ⟨q,k,0,[]⟩).length+1:=by
   unfold dC dV;rw[List.length_append,List.length_cons,List.length_take,List.length_drop];omega
  have:=wA es ⟨q,k,0,[]⟩;omega
 refine ⟨ze5 hR hef hhome hlen,fun _=>.inr ⟨q,by rw[Nat.add_sub_cancel];exact hq,?_⟩⟩
 exact zu1 (jJ.2 (.inl rfl)) rfl (decide_eq_true hk)
theorem mH (p:Nat) (zs:List Int) (T:Int) (w:World) (h:dS w p zs T) (hu:U8 zs) (hT:T≤500000) (hl:zs.length≤2097152) :
  Calls Tryz.prog 139 #[.pointer (some ⟨p,0,none⟩)] w fun r w'=>∃ (es:List En) (av:Option Addr) (cv:Nat),r=.returned (.slice av es.length cv)∧aU es∧GE w.heap.size w'.heap.size w' (.slice av es.length cv) es∧dS w' p zs (T+1000)∧aD (fun b=>b=p) w w':=by
 have hp:=h.lt;have S0:=aA (h.below (aC w (.cells #[] 50)));have G0:=aA (GE.made w);have K0:=aA ((aD.refl (fun b=>b=p) w).alloc (.cells #[] 50))
 have HU:=aA hu;clear h hu;go_enter Tryz.func139,Tryz.ntmps139;go_wp2_with fail
 refine (fL p zs T 10 _ S0.out HU.out (by omega) (by decide) (by decide) hl).mono ?_
 rintro r w1 ⟨m0,rfl,hm0,s1,k1⟩;have S1:=aA s1;have K1:=aA (K0.out.trans k1);have G1:=aA (G0.out.keptP k1 hp);clear s1 k1 S0 K0 G0;go_wp2_with fail
 go_loopw [3,4] (fun v k wr=>∃ (m:Nat) (es:List En),k=.int .i64 m∧m≤9∧Hid (aU es)∧Hid (GE w.heap.size wr.heap.size wr v es)∧Hid (dS wr p zs (T+1+60 * (9 - (m:Int))))∧Hid (aD (fun b=>b=p) w wr)) (fun _ k _=>(intOf k).toNat)
 case atStart=>exact ⟨m0,[],rfl,by omega,aA zd5,G1,aA (S1.out.mono (by omega)),K1⟩
 case round =>
  obtain ⟨m,es,rfl,hm9,HRi,HG,HSr,HK⟩:=hrel;obtain ⟨lv,lc,hv⟩:=HG.out.shape;subst hv;by_cases hm:0<m
  ·have hm':(0:Int)<(m:Int):=by omega
   have hwr:=HK.out.size;go_wp2_with fail
   refine (zK p zs _ _ HSr.out HU.out (by omega) hl).mono ?_
   rintro r w2 ⟨e,a,c,rfl,⟨hef,hxl⟩,ho2,s2,k2⟩;have hpz:=bM hef;have AE:=aA (aC w2 (.cells #[.string (str e.path),.int .i64 e.kind,.int .i64 e.size,.slice a e.chunks.length c] 50));have F2:=aA (cI.new w2 (.string (str e.path)) (.int .i64 e.kind) (.int .i64 e.size) (.slice a e.chunks.length c) 50);have S2:=aA (s2.below AE.out);have K2:=aA ((HK.out.trans k2).alloc (.cells #[.string (str e.path),.int .i64 e.kind,.int .i64 e.size,.slice a e.chunks.length c] 50));have G2:=aA (((HG.out.keptP k2 hp).below AE.out).wide AE.out.size);have R2:=aA ((fM ho2 rfl).below AE.out)
   have hRb:=aA (fun b (hb:(Value.slice a e.chunks.length c).ownBlock=some b)=>(ho2.lt b hb).1)
   have HEF:=aA hef;have HPZ:=aA hpz;have hs2:=k2.size;clear s2 k2 ho2 HG HSr HK hef;have hcl:e.chunks.length≤3:=lL HEF.out;go_wp2_with fail
   have hb2:w2.heap.size<(w2.alloc (.cells #[.string (str e.path),.int .i64 e.kind,.int .i64 e.size,.slice a e.chunks.length c] 50)).heap.size:=F2.out.lt;generalize w2.alloc (.cells #[.string (str e.path),.int .i64 e.kind,.int .i64 e.size,.slice a e.chunks.length c] 50)=W2 at *;obtain ⟨b2,hb2e⟩:∃ b2,b2=w2.heap.size:=⟨_,rfl⟩;rw[←hb2e]at F2 hb2 hs2 ⊢;clear hb2e AE;refine (pH _ _ (by rw[aK];exact vB hpz) (by rw[aK];omega)).mono ?_
   rintro r w3 ⟨uv,rfl,hO3,hb3⟩;rw[aT]at hO3;obtain ⟨ua,uc,rfl⟩:=hO3.shape;have UR:=aA hO3.reads;have hUB:=aA (fun b hb=>(hO3.lt b hb).1)
   have F3:=aA (F2.out.below hb3);have S3:=aA (S2.out.below hb3);have K3:=aA (K2.out.trans (aD.of_below hb3));have G3:=aA ((G2.out.below hb3).wide hb3.size);have R3:=aA (R2.out.below hb3);have hs3:=hb3.size;clear hb3 hO3 F2 S2 K2 G2 R2 hpz;have hul:(bR (aX e.path.tail)).length≤2:=by
    obtain ⟨ns,hN,_,hc,_⟩:=fV HPZ.out;rw[hc,iX];have:=hN.2.2.2;omega
   have hpw3:p<w3.heap.size:=S3.out.lt;obtain ⟨up,hup⟩:∃ up,up=bR (aX e.path.tail):=⟨_,rfl⟩;rw[←hup]at UR hUB hul ⊢;have HUPE:=aA hup;clear hup;go_wp2_with fail
   go_loopw [3,7] (fun v i wr2=>∃ (j:Nat) (fs:List En),i=.int .i64 j∧j≤up.length∧Hid (aU fs)∧Hid (zqc (bR (aX e.path.tail)) fs j)∧Hid (GE w.heap.size wr2.heap.size wr2 v fs)∧Hid (dS wr2 p zs (T+1+60 * (9 - (m:Int))+30+j))∧Hid (aD (fun b=>b=p) w3 wr2)) (fun _ i _=>up.length - (intOf i).toNat)
   case atStart=>exact ⟨0,es,rfl,Nat.zero_le _,HRi,aA (fun _=>.inl rfl),G3,aA (by simpa using S3.out),aA (aD.refl _ _)⟩
   case round =>
    obtain ⟨j,fs,rfl,hj,HR2,HUp,HG2,HS2,HK2⟩:=hrel;obtain ⟨fv,fc,hv⟩:=HG2.out.shape;subst hv;have hf12:=HR2.out.len;have hsz2:=HK2.out.size;have UR2:=aA (UR.out.kept HK2.out (fun hz x hx e=>by subst hx;have:=hUB.out x.block rfl;omega))
    by_cases hlt:j<up.length
    ·obtain ⟨bu,ou,q,rfl,hbu,hqu,hcq⟩:=UR2.out.at hlt
     have hbup:bu≠p:=by have:=hUB.out bu rfl;omega
     have hq:(bR (aX e.path.tail))[j]?=some q:=by rw[←HUPE.out];exact hqu
     have HFQ:=aA (zm5 HPZ.out hq).1;clear hqu;go_wp2_with fail
     refine (iZ fv fc fs.length fs q _ HG2.out.rd rfl (by omega)).mono ?_
     rintro r wr2 ⟨rfl,rfl⟩;cases hat:atE fs q with
     | none =>
      simp only[dD];by_cases hl12:fs.length<12
      ·have hl12':(fs.length:Int)<12:=by omega
       have BD:=aA ((aC wr2 (.cells #[.int .i64 2,.int .i64 2,.int .i64 4] 2)).drew);have S5:=aA (HS2.out.below BD.out);have K5:=((HK2.out.alloc (.cells #[.int .i64 2,.int .i64 2,.int .i64 4] 2)).drew);have G5:=aA ((HG2.out.below BD.out).wide BD.out.size);have CC:Hid (∀ i,i<3→(wr2.alloc (.cells #[.int .i64 2,.int .i64 2,.int .i64 4] 2)).drew.cell? ⟨wr2.heap.size,i,none⟩=some (.int .i64 (([2,2,4]:List Int).getD i 0))):=aA (zbc wr2 2 2 4 2);have cqd:=(BD.out.cell (p:=⟨bu,ou+j,none⟩) hbu).trans hcq;have HFS:=aA (cG HR2.out);go_wp2_with fail
       go_region_held3 (fun w'=>w'.cell? ⟨bu,ou+j,none⟩=some (.string (str q))) (first | exact c6 | exact c7 | go_keep)
        ((
         first
         | (go_at_call 25;refine (oJ p wr2.heap.size 3 3 [2,2,4] zs _ _ S5.out HU.out (by omega) hl (by decide) (by decide) rfl (by omega) (by show wr2.heap.size<(wr2.alloc (.cells #[.int .i64 2,.int .i64 2,.int .i64 4] 2)).heap.size;simp) CC.out).mono ?_;rintro r w6 ⟨kv,hkv,rfl,s6,k6⟩;have hlt6:bu<(wr2.alloc (.cells #[.int .i64 2,.int .i64 2,.int .i64 4] 2)).drew.heap.size:=(Nat.lt_of_lt_of_le hbu BD.out.size);have c6:=(k6.cell (p:=⟨bu,ou+j,none⟩) hlt6 (by omega)).trans cqd;have hlt7:bu<w6.heap.size:=Nat.lt_of_lt_of_le hlt6 k6.size;have S6:=aA s6;have K6:=aA (K5.trans k6);have G6:=aA (G5.out.keptP k6 hp);have HKV:=aA (show kv=2∨kv=4 from by simp at hkv;omega);have hs6:=k6.size;clear s6 k6 hkv)
         | (go_at_call 188;refine (pZ fv fc fs.length fs ⟨q,kv,0,[]⟩ none 0 0 _ G6.out.rd rfl (by omega) HFS.out rfl (fun h=>absurd rfl h) (by show q.length≤1048576;have:=vC HFQ.out;omega) (by simp)).mono ?_;rintro r w7 ⟨g7,cv7,rfl,hG7,hb7⟩;have c7:=(hb7.cell (p:=⟨bu,ou+j,none⟩) hlt7).trans c6;have S7:=aA (S6.out.below hb7);have K7:=aA (K6.out.trans (aD.of_below hb7));have G7:=aA (hG7.mono (B':=w.heap.size) (by have:=K6.out.size;have:=K3.out.size;omega));clear hG7 hb7)))
       have HPD:=aA (zkc (k:=kv) HPZ.out hq HR2.out HUp.out hl12 HKV.out);go_wp2_with fail
       go_roundw
       case rel=>exact ⟨j+1,dC fs ⟨q,kv,0,[]⟩,by go_num,by omega,aA HPD.out.1,aA HPD.out.2,G7,aA (S7.out.mono (by omega)),K7⟩
       case measure=>simp[intOf];omega
      ·have hl12':¬ (fs.length:Int)<12:=by omega
       go_wp2_with fail
       go_roundw
       case rel=>exact ⟨j+1,fs,by go_num,by omega,HR2,aA (fun h=>absurd h (by omega)),HG2,aA (HS2.out.mono (by omega)),HK2⟩
       case measure=>simp[intOf];omega
     | some k =>
      have hkl:=pQ hat;have hfk:=oV fs q;rw[hat]at hfk;obtain ⟨bf,off,d,xd,cd,rfl,hbf,hd,d0,d1,d2,d3,hrd⟩:=HG2.out.rd.at hkl;rw[Option.bind_some,hd]at hfk;obtain ⟨hdm,hdp⟩:=eZ hfk;simp only[dD];have hk0:¬ (k:Int)<0:=by omega
      have hk1:(k:Int)<(fs.length:Int):=by omega
      clear hfk hrd d0 d2 d3 hat;cases hdk:bZ d.kind
      ·go_wp2_with fail
       refine (dI _ _ d.kind _ d1).mono ?_;rintro r wr2 ⟨rfl,rfl⟩;rw[hdk];clear d1;obtain ⟨fv,hfv⟩:∃ fv:Option Addr,fv=some ⟨bf,off,none⟩:=⟨_,rfl⟩;rw[←hfv]at HG2 ⊢;clear hfv;by_cases hl12:fs.length<12
       ·have hl12':(fs.length:Int)<12:=by omega
        have BD:=aA ((aC wr2 (.cells #[.int .i64 2,.int .i64 2,.int .i64 4] 2)).drew);have S5:=aA (HS2.out.below BD.out);have K5:=((HK2.out.alloc (.cells #[.int .i64 2,.int .i64 2,.int .i64 4] 2)).drew);have G5:=aA ((HG2.out.below BD.out).wide BD.out.size);have CC:Hid (∀ i,i<3→(wr2.alloc (.cells #[.int .i64 2,.int .i64 2,.int .i64 4] 2)).drew.cell? ⟨wr2.heap.size,i,none⟩=some (.int .i64 (([2,2,4]:List Int).getD i 0))):=aA (zbc wr2 2 2 4 2);have cqd:=(BD.out.cell (p:=⟨bu,ou+j,none⟩) hbu).trans hcq;have HFS:=aA (cG HR2.out);go_wp2_with fail
        go_region_held3 (fun w'=>w'.cell? ⟨bu,ou+j,none⟩=some (.string (str q))) (first | exact c6 | exact c7 | go_keep)
         ((
          first
          | (go_at_call 25;refine (oJ p wr2.heap.size 3 3 [2,2,4] zs _ _ S5.out HU.out (by omega) hl (by decide) (by decide) rfl (by omega) (by show wr2.heap.size<(wr2.alloc (.cells #[.int .i64 2,.int .i64 2,.int .i64 4] 2)).heap.size;simp) CC.out).mono ?_;rintro r w6 ⟨kv,hkv,rfl,s6,k6⟩;have hlt6:bu<(wr2.alloc (.cells #[.int .i64 2,.int .i64 2,.int .i64 4] 2)).drew.heap.size:=(Nat.lt_of_lt_of_le hbu BD.out.size);have c6:=(k6.cell (p:=⟨bu,ou+j,none⟩) hlt6 (by omega)).trans cqd;have hlt7:bu<w6.heap.size:=Nat.lt_of_lt_of_le hlt6 k6.size;have S6:=aA s6;have K6:=aA (K5.trans k6);have G6:=aA (G5.out.keptP k6 hp);have HKV:=aA (show kv=2∨kv=4 from by simp at hkv;omega);have hs6:=k6.size;clear s6 k6 hkv)
          | (go_at_call 188;refine (pZ fv fc fs.length fs ⟨q,kv,0,[]⟩ none 0 0 _ G6.out.rd rfl (by omega) HFS.out rfl (fun h=>absurd rfl h) (by show q.length≤1048576;have:=vC HFQ.out;omega) (by simp)).mono ?_;rintro r w7 ⟨g7,cv7,rfl,hG7,hb7⟩;have c7:=(hb7.cell (p:=⟨bu,ou+j,none⟩) hlt7).trans c6;have S7:=aA (S6.out.below hb7);have K7:=aA (K6.out.trans (aD.of_below hb7));have G7:=aA (hG7.mono (B':=w.heap.size) (by have:=K6.out.size;have:=K3.out.size;omega));clear hG7 hb7)))
        have HPD:=aA (zkc (k:=kv) HPZ.out hq HR2.out HUp.out hl12 HKV.out);go_wp2_with fail
        go_roundw
        case rel=>exact ⟨j+1,dC fs ⟨q,kv,0,[]⟩,by go_num,by omega,aA HPD.out.1,aA HPD.out.2,G7,aA (S7.out.mono (by omega)),K7⟩
        case measure=>simp[intOf];omega
       ·have hl12':¬ (fs.length:Int)<12:=by omega
        go_wp2_with fail
        go_roundw
        case rel=>exact ⟨j+1,fs,by go_num,by omega,HR2,aA (fun h=>absurd h (by omega)),HG2,aA (HS2.out.mono (by omega)),HK2⟩
        case measure=>simp[intOf];omega
      ·have HUq:=aA (show zqc (bR (aX e.path.tail)) fs (j+1) from fun _=>.inr ⟨q,by rw[Nat.add_sub_cancel];exact hq,zu1 hdm hdp hdk⟩)
       go_wp2_with fail
       refine (dI _ _ d.kind _ d1).mono ?_;rintro r wr2 ⟨rfl,rfl⟩;rw[hdk];clear d1;go_wp2_with fail
       go_roundw
       case rel=>exact ⟨j+1,fs,by go_num,by omega,HR2,HUq,HG2,aA (HS2.out.mono (by omega)),HK2⟩
       case measure=>simp[intOf];omega
    ·have F9:=F3.out
     have R9:=aA (R3.out.kept HK2.out (fun hz x hx e=>by subst hx;have:=hRb.out x.block rfl;omega))
     have hbw3:b2<w3.heap.size:=F3.out.lt;have n0:¬ b2=p:=by omega
     have g0:=(HK2.out.cell (p:=⟨b2,0,none⟩) hbw3 n0).trans F9.1;have g1:=(HK2.out.cell (p:=⟨b2,1,none⟩) hbw3 n0).trans F9.2.1;have g2:=(HK2.out.cell (p:=⟨b2,2,none⟩) hbw3 n0).trans F9.2.2.1;have g3:=(HK2.out.cell (p:=⟨b2,3,none⟩) hbw3 n0).trans F9.2.2.2;clear F9;go_wp2_with fail
     refine (zg1 fv fc fs.length fs e a e.chunks.length c _ HG2.out.rd rfl (by omega) (cG HR2.out) rfl R9.out (by omega) (by omega)).mono ?_
     rintro r w5 ⟨av5,cv5,rfl,hG5,hb5⟩;have HPE:=aA (zre HR2.out e);have AR:=aA (aC w5 (.cells #[.int .i64 (eI fs e),.slice av5 (gR fs e).length cv5] 131));have S9:=aA ((HS2.out.below hb5).below AR.out);have K9:=aA (((K3.out.trans HK2.out).trans (aD.of_below hb5)).alloc (.cells #[.int .i64 (eI fs e),.slice av5 (gR fs e).length cv5] 131));have GO:=aA ((((HG2.out.below hb5).wide hb5.size).below AR.out).wide AR.out.size);have GN:=aA (((hG5.mono (B':=w.heap.size) (by have:=K3.out.size;omega)).below AR.out).wide AR.out.size)
     clear hG5 hb5 g0 g1 g2 g3;by_cases hc:eI fs e=0
     ·have hcP:bU fs e=0:=by rw[←HPE.out];exact hc
      have hPL:gR fs e=dC fs e:=by rw[gR,if_pos hc]
      have HRN:=aA (xJ hcP).2.2.2.2;rw[hc,hPL]at S9 K9 GO GN AR ⊢;clear hc hcP hPL;go_wp2_with fail
      go_roundw
      case rel=>exact ⟨m - 1,dC fs e,by go_num,by omega,HRN,GN,aA (S9.out.mono (by omega)),K9⟩
      case measure=>simp[intOf];omega
     ·have hcn:(eI fs e==0)=false:=by simp;exact hc
      clear hc;generalize eI fs e=pc at *;generalize gR fs e=pl at *;go_wp2_with fail
      go_roundw
      case rel=>exact ⟨m - 1,fs,by go_num,by omega,HR2,GO,aA (S9.out.mono (by omega)),K9⟩
      case measure=>simp[intOf];omega
  ·have hm':¬ (0:Int)<(m:Int):=by omega
   go_wp2_with fail
   go_ret
   exact ⟨es,lv,lc,rfl,HRi.out,HG.out,HSr.out.mono (by omega),HK.out⟩
theorem GE.push2 {B T:Nat} {w1 w2:World} {v v':Value} {es:List En} {rs:List Rw} {e:En} {a:Option Addr} {c:Nat} (he:rs.map Rw.e=es)
  (h1:w1.ownsRow B 50 4 v es.length (aY rs))
  (h2:∀ r∈rs,w1.ownsRow B 2 1 (.slice r.a r.e.chunks.length r.c) r.e.chunks.length (r.e.chunks.map (Value.int .i64)))
  (h3:rs.Pairwise (fun r r'=>∀ g,r.a.map Addr.block=some g→r'.a.map Addr.block≠some g)) (h4:∀ r∈rs,∀ g,r.a.map Addr.block=some g→g<T) (hB:B≤T) (hT:T≤w1.heap.size)
  (hown:w1.ownsRow T 2 1 (.slice a e.chunks.length c) e.chunks.length (e.chunks.map (Value.int .i64)))
  (hv':w2.ownsRow B 50 4 v' (es.length+1) (aY rs++cM ⟨e,a,c⟩))
  (hk:aD (fun b=>v.ownBlock=some b) w1 w2):GE B w2.heap.size w2 v' (es ++ [e]):=by
 have hg0:∀ g',a.map Addr.block=some g'→T≤g'∧g'<w1.heap.size:=fun g' hg=>hown.lt g' (nI hg)
 have hsz:=hk.size;refine ⟨rs ++ [⟨e,a,c⟩],by rw[List.map_append,he];rfl,?_,?_,?_,?_,fun b hb=>(hv'.lt b hb).2⟩
 ·rw[pL,List.length_append]
  simpa [aY] using hv'
 ·intro r hr
  rcases List.mem_append.1 hr with hr | hr
  ·exact aL (h2 r hr) hk (fun b hb hS=>cW h1 (h2 r hr) (by decide) hS hb)
  ·simp only[List.mem_singleton]at hr
   subst hr;exact aL (bF hown hB) hk (fun b hb hS=>cW h1 hown (by decide) hS hb)
 ·rw[List.pairwise_append]
  refine ⟨h3,List.pairwise_singleton _ _,fun r hr r' hr' g hg hg'=>?_⟩
  simp only[List.mem_singleton]at hr';subst hr';have:=h4 r hr g hg;have:=hg0 g hg';omega
 ·intro r hr g hg
  rcases List.mem_append.1 hr with hr | hr
  ·have:=h4 r hr g hg
   omega
  ·simp only[List.mem_singleton]at hr
   subst hr;have:=hg0 g hg;omega
theorem GE.store2 {B T:Nat} {w1:World} {G n c:Nat} {es:List En} {j:Nat} {e:En} {a:Option Addr} {cc:Nat} (h:GE B T w1 (.slice (some ⟨G,0,none⟩) n c) es) (hn:n=es.length) (hj:j<es.length) (hB:B≤T) (hT:T≤w1.heap.size)
  (hown:w1.ownsRow T 2 1 (.slice a e.chunks.length cc) e.chunks.length (e.chunks.map (Value.int .i64))) :
  GE B w1.heap.size ((((w1.setCell ⟨G,j * 4,none⟩ (.string (str e.path))).setCell ⟨G,j * 4+1,none⟩ (.int .i64 e.kind)).setCell ⟨G,j * 4+2,none⟩ (.int .i64 e.size)).setCell ⟨G,j * 4+3,none⟩ (.slice a e.chunks.length cc)) (.slice (some ⟨G,0,none⟩) n c) (es.set j e):=by
 subst hn;obtain ⟨rs,hrs,h1,h2,h3,h4,h5⟩:=h;have hl:rs.length=es.length:=by rw[←hrs,List.length_map]
 have s1:=((((h1.stored (j * 4) (.string (str e.path))).1.stored (j * 4+1) (.int .i64 e.kind)).1.stored (j * 4+2) (.int .i64 e.size)).1.stored (j * 4+3) (.slice a e.chunks.length cc)).1;rw[xP rs j ⟨e,a,cc⟩ (by omega)]at s1
 have hkp:aD (fun b=>b=G) w1 ((((w1.setCell ⟨G,j * 4,none⟩ (.string (str e.path))).setCell ⟨G,j * 4+1,none⟩ (.int .i64 e.kind)).setCell ⟨G,j * 4+2,none⟩ (.int .i64 e.size)).setCell ⟨G,j * 4+3,none⟩ (.slice a e.chunks.length cc)) :=
  aD.setCell (S:=fun b=>b=G) (p:=⟨G,j * 4+3,none⟩) (aD.setCell (S:=fun b=>b=G) (p:=⟨G,j * 4+2,none⟩) (aD.two _ _ _ _ _ _) (fun _=>rfl) _) (fun _=>rfl) _
 have hnew:∀ g,a.map Addr.block=some g→T≤g∧g<w1.heap.size:=fun g hg=>hown.lt g (nI hg)
 refine ⟨rs.set j ⟨e,a,cc⟩,by rw[List.map_set,hrs],by rw[List.length_set];exact s1,?_,?_,?_,fun b hb=>by have:=h5 b hb;omega⟩
 ·intro r0 hr0
  rcases List.mem_or_eq_of_mem_set hr0 with hr | rfl
  ·exact aL (h2 r0 hr) hkp (fun b hb hS=>cW h1 (h2 r0 hr) (by decide) (by subst hS;rfl) hb)
  ·exact aL (bF hown hB) hkp (fun b hb hS=>cW h1 hown (by decide) (by subst hS;rfl) hb)
 ·rw[List.pairwise_iff_getElem]
  intro i i' hi hi' hlt g hg hg';rw[List.length_set]at hi hi';rw[List.getElem_set]at hg hg';by_cases e1:j=i
  ·rw[if_pos e1]at hg
   rw[if_neg (by omega)]at hg'
   have:=h4 _ (List.getElem_mem hi') g hg';have:=hnew g hg;omega
  ·rw[if_neg e1]at hg
   by_cases e2:j=i'
   ·rw[if_pos e2]at hg'
    have:=h4 _ (List.getElem_mem hi) g hg;have:=hnew g hg';omega
   ·rw[if_neg e2]at hg'
    exact List.pairwise_iff_getElem.1 h3 i i' hi hi' hlt g hg hg'
 ·intro r0 hr0 g hg
  rcases List.mem_or_eq_of_mem_set hr0 with hr | rfl
  ·have:=h4 r0 hr g hg;omega
  ·exact (hnew g hg).2
def zio (w:World) (p:Nat) (zs:List Int) (T:Int) (es:List En) (v:Value) (w':World):Prop :=
 nO es∧es.length≤13∧aV es∧GE w.heap.size w'.heap.size w' v es∧dS w' p zs T∧aD (fun b=>b=p) w w'
theorem zqf (p:Nat) (zs:List Int) (T:Int) (w:World) (h:dS w p zs T) (hu:U8 zs) (hT:T≤100000) (hl:zs.length≤2097152) :
  Calls Tryz.prog 99 #[.pointer (some ⟨p,0,none⟩)] w fun r w'=>∃ (es:List En) (av:Option Addr) (cv:Nat),r=.returned (.slice av es.length cv)∧zio w p zs (T+1100) es (.slice av es.length cv) w':=by
 obtain ⟨i1,ki,kz0,kz1,kz2⟩:=info_parts Tryz.infoEn;have hp:=h.lt;have HS:=aA h;have HU:=aA hu;clear h hu;go_enter Tryz.func99,Tryz.ntmps99;go_wp2_with fail
 refine (mH p zs T _ HS.out HU.out (by omega) hl).mono ?_
 rintro r w1 ⟨es,lv,lc,rfl,hR,hG1,s1,k1⟩;have HRi:=aA hR;have G1:=aA hG1;have S1:=aA s1;have K1:=aA k1;clear hR hG1 s1 k1 HS;go_wp2_with fail
 refine (fL p zs _ 16 _ S1.out HU.out (by omega) (by decide) (by decide) hl).mono ?_
 rintro r w2 ⟨i,rfl,hi,s2,k2⟩;have S2:=aA s2;have K2:=aA (K1.out.trans k2);have G2:=aA (G1.out.keptP k2 hp);have hl12:=HRi.out.len;have hsz2:=K2.out.size;clear s2 k2 G1 S1 K1;by_cases h0:i=0
 ·subst h0
  go_wp2_with fail
  refine (zH p zs _ _ S2.out HU.out (by omega) hl).mono ?_
  rintro r w3 ⟨e,a,c,rfl,⟨hel,hec⟩,ho3,s3,k3⟩;have G3:=aA (G2.out.kept k3 (fun b h1 _ e=>by omega))
  have S3:=aA s3;have K3:=aA (K2.out.trans k3);have O3:=aA ho3;have hs3:=k3.size;clear ho3 s3 k3;obtain ⟨rs,g1,g2,g3,g4,g5,g6⟩:=G3.out;have Q1:=aA g1;have Q2:=aA g2;have Q3:=aA g3;have Q4:=aA g4;have Q5:=aA g5;clear g1 g2 g3 g4 g5 g6;have hm1:es.length+1≤maxLen:=by unfold maxLen;omega
  have hm1':(es.length+1) * 56≤140737488355328:=by omega
  go_wp2_with (at_builtin;refine dB rfl (.tmp 10) (.tmp 13) 35 rfl w.heap.size 50 i1 (.agg #[.string ⟨#[]⟩,.int .i64 0,.int .i64 0,.slice none 0 0]) 4 56 Tryz.underlying35 ki kz0 kz1 kz2 rfl (by decide) _ _ _ rfl Q2.out _ rfl rfl rfl (by intro u hu;simp at hu;rcases hu with rfl | rfl | rfl | rfl <;> rfl) hm1 hm1' (by omega) ?_;intro av4 cv4 w4 hown4 hk4;have O4:=aA hown4;have K4:=aA hk4;clear hown4 hk4)
  go_ret
  refine ⟨es ++ [e],av4,cv4,by rw[List.length_append];rfl,zsd HRi.out.rise HRi.out.home,by rw[List.length_append];simp;omega,fun y hy=>?_,?_,?_,?_⟩
  ·rcases List.mem_append.1 hy with hy | hy
   ·exact cG HRi.out y hy
   ·simp only[List.mem_singleton]at hy;subst hy;omega
  ·rw[List.length_append]
   exact GE.push2 Q1.out Q2.out Q3.out Q4.out Q5.out (by omega) (by omega) O3.out O4.out K4.out
  ·exact (S3.out.kept K4.out (fun b hb e=>by have:=(Q2.out.lt b e).1;omega)).mono (by omega)
  ·exact K3.out.trans_own K4.out (fun b hb e=>by have:=(Q2.out.lt b e).1;omega)
 ·by_cases h1:i=1
  ·subst h1
   by_cases hpos:0<es.length
   ·have hpos':(0:Int)<(es.length:Int):=by omega
    obtain ⟨g,rfl,-⟩:=G2.out.addr rfl (.inl hpos);go_wp2_with fail
    refine (zH p zs _ _ S2.out HU.out (by omega) hl).mono ?_
    rintro r w3 ⟨e,a,c,rfl,⟨hel,hec⟩,ho3,s3,k3⟩;have G3:=aA (G2.out.kept k3 (fun b h1 _ e=>by omega))
    have S3:=aA s3;have K3:=aA (K2.out.trans k3);have O3:=aA ho3;have hs3:=k3.size;clear ho3 s3 k3;have he0:es[0]?=some es[0]:=List.getElem?_eq_getElem hpos;obtain ⟨G,x',y',hGe,hg1,hg2,m0,m1,m2,m3,mf,-⟩:=G3.out.open he0;simp only[Option.some.injEq,Addr.mk.injEq,and_true]at hGe;subst hGe;have mf0:=mf 0;have mf1:=mf 1;have mf2:=mf 2;have mf3:=mf 3;simp only[Nat.zero_mul,Nat.zero_add]at m0 m1 m2 m3;generalize es[0]=z0 at *;clear mf he0;have HST:=aA (GE.store2 (j:=0) G3.out rfl hpos (by omega) (by omega) O3.out)
    simp only[Nat.zero_mul,Nat.zero_add]at HST;go_wp2_with fail
    go_ret
    have hk:aD (fun b=>b=g) w3 ((((w3.setCell ⟨g,0,none⟩ (.string (str e.path))).setCell ⟨g,1,none⟩ (.int .i64 e.kind)).setCell ⟨g,2,none⟩ (.int .i64 e.size)).setCell ⟨g,3,none⟩ (.slice a e.chunks.length c)) :=
     aD.setCell (S:=fun b=>b=g) (p:=⟨g,3,none⟩) (aD.setCell (S:=fun b=>b=g) (p:=⟨g,2,none⟩) (aD.two _ _ _ _ _ _) (fun _=>rfl) _) (fun _=>rfl) _
    have hgood:nO (es.set 0 e):=by
     cases hes:es with
     | nil=>rw[hes]at hpos;simp at hpos
     | cons r0 tl =>
      have:=HRi.out;rw[hes]at this;exact ztg this
    refine ⟨es.set 0 e,some ⟨g,0,none⟩,lc,by rw[List.length_set];rfl,hgood,by rw[List.length_set];omega,fun y hy=>?_,?_,?_,?_⟩
    ·rcases List.mem_or_eq_of_mem_set hy with hy | rfl
     ·exact cG HRi.out y hy
     ·omega
    ·rw[List.length_set]
     simpa [World.setCell] using HST.out
    ·exact (S3.out.kept hk (fun b hb e=>by omega)).mono (by omega)
    ·exact K3.out.trans_own hk (fun b hb e=>by omega)
   ·have hpos':¬ (0:Int)<(es.length:Int):=by omega
    go_wp2_with fail
    go_ret
    exact ⟨es,lv,lc,rfl,uH HRi.out.rise,by omega,cG HRi.out,G2.out,S2.out.mono (by omega),K2.out⟩
  ·by_cases h2:i=2
   ·subst h2
    have hby:i1.bytes * 13≤281474976710656:=by rw[kz2];omega
    have hml:13≤maxLen:=by unfold maxLen;omega
    go_wp2_with (at_make;refine wpList_make_full _ rfl (.const (.int .i64 13)) (.const (.int .i64 13)) 35 rfl w2.heap.size 50 i1 (.agg #[.string ⟨#[]⟩,.int .i64 0,.int .i64 0,.slice none 0 0]) 4 Tryz.underlying35 ki kz0 kz1 .i64 .i64 _ _ 13 rfl rfl rfl rfl hby hml (Nat.le_refl _) ?_;intro w3 ho3 hg3;have O3:=aA ho3;have GW:=aA hg3;clear ho3 hg3)
    have B3:Hid (Below w2.heap.size w2 w3):=(Below.refl _ _).grown GW.out (Nat.le_refl _) (fun k hk=>by simp at hk)
    have G3:=aA (GE.mono (B':=w.heap.size) (GE.zeros (T:=w3.heap.size) O3.out (fun b hb=>(O3.out.lt b hb).2)) (by omega))
    have hlr:(List.replicate 13 zEn).length=13:=by simp
    go_wp2_with fail
    go_ret
    refine ⟨List.replicate 13 zEn,some ⟨w2.heap.size,0,none⟩,13,by rw[hlr];rfl,zma (e:=zEn) (tl:=List.replicate 12 zEn) (by decide),by rw[hlr];decide,fun y hy=>?_,by rw[hlr];exact G3.out,(S2.out.below B3.out).mono (by omega),K2.out.trans (aD.of_below B3.out)⟩
    rw[(List.mem_replicate.1 hy).2];simp[zEn]
   ·have e0:((i:Int)==0)=false:=by simp;omega
    have e1:((i:Int)==1)=false:=by simp;omega
    have e2:((i:Int)==2)=false:=by simp;omega
    clear h0 h1 h2;go_wp2_with fail
    go_ret
    exact ⟨es,lv,lc,rfl,uH HRi.out.rise,by omega,cG HRi.out,G2.out,S2.out.mono (by omega),K2.out⟩
structure Ly where
 es:List En
 a:Option Addr
 c:Nat
def lyV (x:Ly):Value:=.slice x.a x.es.length x.c
theorem zy1:(Tryz.prog.info? 35).map (fun i=>(i.zero,i.size,i.bytes))=some (some (.slice none 0 0),1,24):=by kernel_rfl
theorem sH {w w':World} (h:w.grownBy w' none):Below w.heap.size w w':=⟨h.os,h.tape,h.output,h.size,fun k hk=>h.block k hk (by simp)⟩
theorem lC {P:Program} {w:World} {ops:Array Oper} {rest:List Oper} {o:Oper} {a:Act} {Q:Exit→Act→World→Prop} (hgd:o.guard=none) (d s:Operand) (t:TypeId)
  (ho:o.op=.call { callee:=.builtin .copy,args:=#[d,s],argTypes:=#[t,t] })
  (base:Nat) (e:TypeId) (i:TypeInfo) (size:Nat) (ht:P.underlying t=some (.slice e)) (hi:P.info? e=some i) (hsize:i.size=size) (hpos:0<size)
  (g n c:Nat) (xs:List Value) (hd:a.eval d=.slice (some ⟨g,0,none⟩) n c) (hown:w.ownsRow base e size (.slice (some ⟨g,0,none⟩) n c) n xs)
  (sp:Option Addr) (m sc:Nat) (cs:List Value) (hs:a.eval s=.slice sp m sc) (hm:m≤n) (hcl:cs.length=m * size)
  (hsrc:cs≠[]→∃ ad,sp=some ad∧∀ j u,cs[j]?=some u→w.cell? (ad.add j)=some u) (h1:∀ u∈cs,u.oneCell'=true)
  (h:∀ w',w'.ownsRow base e size (.slice (some ⟨g,0,none⟩) n c) n (cs++xs.drop (m * size))→aD (fun b=>b=g) w w'→wpList P ops Q rest (a.put o.dst (goInt m)) w') :
  wpList P ops Q (o :: rest) a w:=by
 have hmin:Nat.min m n=m:=Nat.min_eq_left hm;refine wpList_plain hgd fun K hK=>?_
 by_cases hz:cs=[]
 ·subst hz
  have hm0:m=0:=by
   simp only[List.length_nil]at hcl;rcases Nat.mul_eq_zero.1 hcl.symm with h0 | h0
   ·exact h0
   ·omega
  subst hm0;have hl:∀ (x:Addr),(loadCells x 0).run P w=.ok #[] w:=fun x=>by simpa using run_loadCells_list (P:=P) w x [] (by simp)
  have hrun:(Builtin.copy_ #[t,t] o.type #[.slice (some ⟨g,0,none⟩) n c,.slice sp 0 sc]).run P w=.ok (goInt 0) w:=by
   cases sp <;> simp[Builtin.copy_,run_underlying ht,Builtin.lenOf,Builtin.firstCells,sizeOf,typeInfo,hi,storeCells,hl]
  unfold Oper.wp;simp[execOp,ho,resolve,invoke,builtin,hd,hs,hrun,Result.andThen]
  exact hK _ _ (h w (by simpa using hown) (aD.refl _ _))
 ·obtain ⟨ad,rfl,hsr2⟩:=hsrc hz
  rcases hown.2 with ⟨hv,_⟩ | ⟨g',cap,cur,hv,hb,hh,hnc,hcm,hcs,htk⟩
  ·cases hv
  ·cases hv
   have hfit:cs.length≤cur.size:=by
    rw[hcl,hcs];exact Nat.mul_le_mul_right _ (Nat.le_trans hm hnc)
   have hl:=run_loadCells_list (P:=P) w ad cs hsr2;have hst:=run_storeCells_at P g 0 e cs 0 cur w hh (by simpa using hfit) h1
   have hrun:(Builtin.copy_ #[t,t] o.type #[.slice (some ⟨g,0,none⟩) n c,.slice (some ad) m sc]).run P w=.ok (goInt m) (w.setRow g (cs++cur.toList.drop cs.length).toArray):=by
    rw[hcl]at hl;simp[Builtin.copy_,run_underlying ht,Builtin.lenOf,Builtin.firstCells,sizeOf,typeInfo,hi,hsize,hmin,hl,hst]
   unfold Oper.wp;simp[execOp,ho,resolve,invoke,builtin,hd,hs,hrun,Result.andThen]
   refine hK _ _ (h _ ⟨?_,.inr ⟨g,c,(cs++cur.toList.drop cs.length).toArray,rfl,hb,setRow_heap w g cur _ e (0,0) hh,hnc,hcm,?_,?_⟩⟩ ⟨rfl,rfl,rfl,by simp[World.setRow],fun k hk hn=>setRow_other w g k _ hn⟩)
   ·rw[List.length_append,List.length_drop,hown.1,hcl,←Nat.sub_mul,←Nat.add_mul]
    congr 1;omega
   ·simp only[List.size_toArray,List.length_append,List.length_drop,Array.length_toList]
    omega
   ·have hle:cs.length≤n * size:=by rw[hcl];exact Nat.mul_le_mul_right _ hm
    rw[List.take_append,List.take_of_length_le hle,←htk,List.drop_take,hcl]
theorem zlb {k:IntKind} {w:World} {a:Option Addr} {zs:List Int} (h:aP k w a zs):∀ W:World,Below w.heap.size w W→zs.map (Value.int k)≠[]→∃ ad,a=some ad∧∀ (j:Nat) u,(zs.map (Value.int k))[j]?=some u→W.cell? (ad.add j)=some u:=fun W hW hz=>by
 obtain ⟨b,off,e,hb,hc⟩:=(h.below hW) (by intro e;simp[e]at hz)
 exact ⟨⟨b,off,none⟩,e,qW hc⟩
theorem xE (z:Array Value) (n:Nat):(madeCells z n).toList.drop n=[]:=List.drop_eq_nil_of_le (by rw[Array.length_toList,size_madeCells];exact Nat.le_refl _)
theorem zx2 (a:Option Addr) (c n:Nat) (zs:List Int) (w:World) (h:aP .i64 w a zs) (hn:n=zs.length) (hl:zs.length≤1048576) :
  Calls Tryz.prog 85 #[.slice a n c] w fun r w'=>∃ av cv,r=.returned (.slice av zs.length cv)∧w'.ownsRow w.heap.size 2 1 (.slice av zs.length cv) zs.length (zs.map (Value.int .i64))∧Below w.heap.size w w':=by
 subst hn;obtain ⟨i0,hi0,hz0,hz1,hz2⟩:=info_parts Tryz.infoI64;by_cases hz:zs=[]
 ·subst hz
  go_enter Tryz.func85,Tryz.ntmps85;go_wp2_with fail
  go_ret
  exact ⟨none,0,rfl,World.ownsRow_nil _ _ _ _,Below.refl _ _⟩
 ·have hp:0<zs.length:=List.length_pos_iff.2 hz
  have HC:=aA (zlb h);have HV1:=aA (uN .i64 zs);have hby:i0.bytes * zs.length≤281474976710656:=by rw[hz2];omega
  have hml:zs.length≤maxLen:=by unfold maxLen;omega
  have HVN:=aA (show (zs.map (Value.int .i64)).length=zs.length * 1 by simp)
  have HD:=aA (show (madeCells (Value.int .i64 0).cells (zs.length * 1)).toList.drop (zs.length * 1)=[] from xE _ _)
  clear h hz;generalize hvs:zs.map (Value.int .i64)=vs at *;clear hvs;generalize zs.length=N at *;have hne:((N:Int)==0)=false:=by simp;omega
  go_enter Tryz.func85,Tryz.ntmps85;go_wp2_with (first
   | (at_make;refine wpList_make_full _ rfl (.tmp 8) (.tmp 8) 48 rfl w.heap.size 2 i0 (.int .i64 0) 1 Tryz.underlying48 hi0 hz0 hz1 .i64 .i64 _ _ N rfl rfl (by simp) (by simp) hby hml (Nat.le_refl _) ?_;intro w1 ho1 hg1;have O1:=aA ho1;have B1:=aA (sH hg1);clear ho1 hg1)
   | (refine lC rfl (.tmp 10) (.tmp 11) 48 rfl w.heap.size 2 i0 1 Tryz.underlying48 hi0 hz1 (by decide) w.heap.size N N _ rfl O1.out a N c vs rfl (Nat.le_refl _) HVN.out (HC.out w1 B1.out) HV1.out ?_;rw[HD.out,List.append_nil];intro w2 ho2 hk2;have O2:=aA ho2;have B2:=aA (B1.out.trans (hk2.below (B:=w.heap.size) B1.out.size (fun b hb e=>by omega)));clear ho2 hk2))
  go_ret
  exact ⟨_,_,rfl,O2.out,B2.out⟩
theorem RdL.cells {w:World} {a:Option Addr} {ls:List (List En)} (h:RdL w a ls):∃ vs:List Value,vs.length=ls.length∧(∀ W:World,Below w.heap.size w W→vs≠[]→∃ ad,a=some ad∧∀ j u,vs[j]?=some u→W.cell? (ad.add j)=some u)∧(∀ u∈vs,u.oneCell'=true)∧∀ (i:Nat) (es:List En),ls[i]?=some es→∃ x c,vs[i]?=some (Value.slice x es.length c)∧RdE w x es:=by
 by_cases hz:ls=[]
 ·subst hz
  exact ⟨[],rfl,fun _ _ h=>absurd rfl h,fun u hu=>by simp at hu,fun i es he=>by simp at he⟩
 ·obtain ⟨b,off,A,C,rfl,hb,hc⟩:=h hz
  refine ⟨(List.range ls.length).map fun i=>Value.slice (A i) (ls.getD i []).length (C i),by simp,fun W hW _=>⟨⟨b,off,none⟩,rfl,fun j u hj=>?_⟩,fun u hu=>?_,fun i es he=>?_⟩
  ·have hlt:j<ls.length:=by have:=(List.getElem?_eq_some_iff.1 hj).1;simpa using this
   have he:ls[j]?=some ls[j]:=List.getElem?_eq_getElem hlt;obtain ⟨c0,-⟩:=hc j _ he;rw[List.getElem?_map,List.getElem?_range hlt]at hj
   simp only[Option.map_some,Option.some.injEq]at hj;rw[eY,hW.cell (p:=⟨b,off+j,none⟩) hb,c0,←hj];simp[List.getD_eq_getElem?_getD,he]
  ·obtain ⟨i,-,rfl⟩:=List.mem_map.1 hu
   rfl
  ·have hlt:i<ls.length:=(List.getElem?_eq_some_iff.1 he).1
   obtain ⟨-,r⟩:=hc i es he;exact ⟨A i,C i,by rw[List.getElem?_map,List.getElem?_range hlt];simp[List.getD_eq_getElem?_getD,he],r⟩
theorem zoh (n:Nat):(madeCells (Value.slice none 0 0).cells ((n+1) * 1)).toList.drop (n * 1)=[Value.slice none 0 0]:=by
 unfold madeCells;simp only[Nat.mul_one,Array.toList_map,Array.toList_range,List.range_succ,List.map_append];rw[List.drop_append_of_le_length (by simp),List.drop_of_length_le (by simp)]
 simp[Value.cells,Nat.mod_one]
theorem zcl {w W:World} {ls:List (List En)} {U:List En} {u:Option Addr} {uc:Nat} {vs:List Value} {x:Value} (hO:W.ownsRow w.heap.size 35 1 (.slice (some ⟨w.heap.size,0,none⟩) (ls.length+1) (ls.length+1)) (ls.length+1) (vs ++ [x])) (hB:Below w.heap.size w W) (hv:vs.length=ls.length)
  (hr:∀ (i:Nat) (es:List En),ls[i]?=some es→∃ x c,vs[i]?=some (Value.slice x es.length c)∧RdE w x es) (hU:RdE w u U):RdL (W.setCell ⟨w.heap.size,ls.length,none⟩ (.slice u U.length uc)) (some ⟨w.heap.size,0,none⟩) (ls ++ [U]):=by
 have hlt:=(hO.lt w.heap.size rfl).2;have hK:aD (fun b=>b=w.heap.size) W (W.setCell ⟨w.heap.size,ls.length,none⟩ (.slice u U.length uc)):=aD.setCell (S:=fun b=>b=w.heap.size) (p:=⟨w.heap.size,ls.length,none⟩) (aD.refl _ _) (fun _=>rfl) _
 have hBB:Below w.heap.size w (W.setCell ⟨w.heap.size,ls.length,none⟩ (.slice u U.length uc)):=hB.setCell (p:=⟨w.heap.size,ls.length,none⟩) (Nat.le_refl _) _;have hc:∀ j,j<ls.length+1→W.cell? ⟨w.heap.size,j,none⟩=(vs ++ [x])[j]?:=fun j hj=>hO.cellAt j (by omega)
 have hat:∀ i es,(ls ++ [U])[i]?=some es→∃ x c,(W.setCell ⟨w.heap.size,ls.length,none⟩ (.slice u U.length uc)).cell? ⟨w.heap.size,0+i,none⟩=some (.slice x es.length c)∧RdE (W.setCell ⟨w.heap.size,ls.length,none⟩ (.slice u U.length uc)) x es:=fun i es he=>by
  rw[Nat.zero_add];by_cases hi:i<ls.length
  ·rw[List.getElem?_append_left hi]at he
   obtain ⟨y,c,hy,hre⟩:=hr i es he;refine ⟨y,c,?_,hre.below hBB⟩;rw[aM (fun e=>absurd (congrArg Addr.off e) (by show ¬ ls.length=i;omega)),hc i (by omega),List.getElem?_append_left (by omega)]
   exact hy
  ·have hi2:i=ls.length:=by
    have:=(List.getElem?_eq_some_iff.1 he).1;simp at this;omega
   subst hi2;simp at he
   subst he;refine ⟨u,uc,?_,hU.below hBB⟩;exact dG (u:=x) (by rw[hc _ (by omega),List.getElem?_append_right (by omega)];simp[hv])
 intro _;refine ⟨w.heap.size,0,fun i=>((ls ++ [U])[i]?.bind fun es=>if h:(ls ++ [U])[i]?=some es then some (Classical.choose (hat i es h)) else none).getD none,fun i=>((ls ++ [U])[i]?.bind fun es=>if h:(ls ++ [U])[i]?=some es then some (Classical.choose (Classical.choose_spec (hat i es h))) else none).getD 0,rfl,?_,fun i es he=>?_⟩
 ·simp[World.setCell];exact hlt
 ·have h1:=Classical.choose_spec (Classical.choose_spec (hat i es he))
  simp only[he,Option.bind_some,dif_pos];exact h1
theorem zbn {w:World} {B g n c:Nat} {t:TypeId} {vs:List Value} {x:Value} (h:w.ownsRow B t 1 (.slice (some ⟨g,0,none⟩) (n+1) c) (n+1) (vs ++ [x])) (hv:vs.length=n):w.cell? ⟨g,n,none⟩=some x:=by
 rw[h.cellAt n (by omega),List.getElem?_append_right (by omega)];simp[hv]
theorem mX (a:Option Addr) (c n:Nat) (ls:List (List En)) (u:Option Addr) (uc m:Nat) (U:List En) (w:World) (h:RdL w a ls) (hn:n=ls.length) (hl:ls.length≤1000000) (hU:RdE w u U) (hm:m=U.length) :
  Calls Tryz.prog 102 #[.slice a n c,.slice u m uc] w fun r w'=>∃ av cv,r=.returned (.slice av (ls ++ [U]).length cv)∧RdL w' av (ls ++ [U])∧Below w.heap.size w w':=by
 subst hn;subst hm;obtain ⟨i1,ki,kz0,kz1,kz2⟩:=info_parts zy1;obtain ⟨vs,hvl,hvc,hv1,hvr⟩:=RdL.cells h;have HVC:=aA hvc;have HV1:=aA hv1;have HVR:=aA hvr;have HU:=aA hU;have hby:i1.bytes * (ls.length+1)≤281474976710656:=by rw[kz2];omega
 have hml:ls.length+1≤maxLen:=by unfold maxLen;omega
 have hk0:(0:Int)≤(ls.length:Int):=by omega
 have hvn:vs.length=ls.length * 1:=by omega
 have hle:ls.length≤ls.length+1:=by omega
 have HLen:=aA (show (ls ++ [U]).length=ls.length+1 by simp)
 have HVL:=aA hvl;clear h hvc hv1 hvr hU hvl;have HVN:=aA hvn;clear hvn;have HZC:Hid ((madeCells (Value.slice none 0 0).cells ((ls.length+1) * 1)).toList.drop (ls.length * 1)=[Value.slice none 0 0]):=aA (zoh ls.length);have HRd:Hid (∀ (W:World) (x:Value),W.ownsRow w.heap.size 35 1 (.slice (some ⟨w.heap.size,0,none⟩) (ls.length+1) (ls.length+1)) (ls.length+1) (vs ++ [x])→Below w.heap.size w W→RdL (W.setCell ⟨w.heap.size,ls.length,none⟩ (.slice u U.length uc)) (some ⟨w.heap.size,0,none⟩) (ls ++ [U])):=aA (fun W x hO hB=>zcl hO hB HVL.out HVR.out HU.out)
 generalize hNN:ls.length=N at *;clear hNN;have hw1:IntKind.i64.wrap ((N:Int)+1)=((N:Int)+1):=by simp[IntKind.wrap,IntKind.signed,IntKind.bits];omega
 have hk1:(N:Int)<((N:Int)+1):=by omega
 go_enter Tryz.func102,Tryz.ntmps102;go_wp2_with (first
  | (at_make;refine wpList_make_full _ rfl (.tmp 8) (.tmp 8) 31 rfl w.heap.size 35 i1 (.slice none 0 0) 1 Tryz.underlying31 ki kz0 kz1 .i64 .i64 _ _ (N+1) rfl rfl (by simp) (by simp) hby hml (Nat.le_refl _) ?_;intro w1 ho1 hg1;have O1:=aA ho1;have B1:=aA (sH hg1);clear ho1 hg1)
  | (refine lC rfl (.tmp 10) (.tmp 11) 31 rfl w.heap.size 35 i1 1 Tryz.underlying31 ki kz1 (by decide) w.heap.size (N+1) (N+1) _ rfl O1.out a N c vs rfl hle HVN.out (HVC.out w1 B1.out) HV1.out ?_;rw[HZC.out];intro w2 ho2 hk2;have O2:=aA ho2;have B2:=aA (B1.out.trans (hk2.below (B:=w.heap.size) B1.out.size (fun b hb e=>by omega)));have cN:w2.cell? ⟨w.heap.size,N,none⟩=some (.slice none 0 0):=(zbn ho2 HVL.out);have fN:w2.frozen? ⟨w.heap.size,N,none⟩=false:=ho2.frozenAt _;clear ho2 hk2))
 go_ret
 exact ⟨_,_,by rw[HLen.out];rfl,HRd.out _ _ O2.out B2.out,B2.out.setCell (p:=⟨w.heap.size,N,none⟩) (Nat.le_refl _) _⟩
end Go.Proofs.YtolnlfnndnpiiaaGreat
