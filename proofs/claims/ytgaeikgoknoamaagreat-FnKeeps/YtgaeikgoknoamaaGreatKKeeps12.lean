/-
  Texts put together: DrawH DrawI OvrD CpyR MntA MntB.
-/
import Derived.Test.YtgaeikgoknoamaaGreatKKeeps11
import Derived.Test.YtgaeikgoknoamaaGreatKKeeps10
import Derived.Test.YtgaeikgoknoamaaGreatKKeeps6
import Derived.Test.YtgaeikgoknoamaaGreatKKeeps8
import Derived.Maps.AppendAt
import Derived.Test.YtgaeikgoknoamaaGreatKKeeps1
import Derived.Test.YtgaeikgoknoamaaGreatKKeeps4
import Derived.Laws.CopyRow
import Derived.ProofKit
import Derived.Deep.DrawnRows
import Derived.Test.YtgaeikgoknoamaaGreatKKeeps5
set_option linter.unusedVariables false
set_option maxHeartbeats 6400000
set_option maxRecDepth 100000
namespace Go.Proofs.YtgaeikgoknoamaaGreat
open Go.RowKit Go.Maps
attribute [local go_sem ↓] Go.wp_at_zero Go.wp_at_succ
theorem zd4 {p q:Bs} {i:Nat} (hp:aF p=0) (h:(bJ (bF p.tail))[i]?=some q) :
  aF q=0∧((aE q=[]∧i=0)∨∃ j,i=j+1∧(bJ (bF p.tail))[j]?=some (aE q)):=by
 obtain ⟨ns,hN,hpe,hc,hs⟩:=fT hp;rw[hc]at h ⊢;have hi:i<ns.length - 1:=by have:=(List.getElem?_eq_some_iff.1 h).1;rwa [iE]at this
 have hq:q=bR (ns.take (i+1)):=by
  have:=h;unfold bJ at this;rw[List.getElem?_map,List.getElem?_range hi]at this
  simpa using this.symm
 have hNt:nC (ns.take (i+1)):=qD hN (by omega)
 have hcq:bF q.tail=ns.take (i+1):=by rw[hq];exact qP hNt.1 (tW hNt)
 refine ⟨by rw[hq];exact oX hNt,?_⟩
 have hlen:(ns.take (i+1)).length=i+1:=by rw[List.length_take];omega
 have hpar:aE q=(bJ (ns.take (i+1))).getLastD []:=by rw[aE,hcq]
 cases i with
 | zero =>
  refine .inl ⟨?_,rfl⟩;rw[hpar,bJ,hlen];rfl
 | succ j =>
  refine .inr ⟨j,rfl,?_⟩;rw[hpar];unfold bJ;rw[hlen,List.getElem?_map,List.getElem?_range (by omega),show j+1+1 - 1=j+1 by omega,List.range_succ,List.map_append,List.map_cons,List.map_nil]
  simp[List.getLastD_eq_getLast?,List.take_take]
theorem uA {p:Bs} (h:aF p=0):p.length≤15:=by
 obtain ⟨ns,hN,hpe,_,_⟩:=fT h;have:=tL ns 4 hN.2.2.1;have:=hN.2.2.2;rw[hpe];omega
theorem cN {es:List En} (h:aV es):cG es:=fun e he=>by
 have h1:=uA (bQ (h.ent e he));have h2:=fX (h.ent e he);omega
theorem zvc {es:List En} (h:aV es) (e:En):dY es e=fA es e:=by
 rw[dY,fA,xJ.2 h,eE.2 h,mL h.rise]
theorem GE.keptP {p B:Nat} {w w':World} {v:Value} {es:List En} (h:GE B w.heap.size w v es) (hk:aD (fun b=>b=p) w w') (hp:p<B):GE B w'.heap.size w' v es :=
 (h.kept hk (fun b h1 _ e=>by omega)).wide hk.size
theorem zba (w:World) (a b c:Int) (t:TypeId):∀ i,i<3→(w.alloc (.cells #[.int .i64 a,.int .i64 b,.int .i64 c] t)).cell? ⟨w.heap.size,i,none⟩=some (.int .i64 ([a,b,c].getD i 0)):=by
 intro i hi
 match i,hi with
 | 0,_ | 1,_ | 2,_=>simp
def zxa (up:List Bs) (es:List En) (j:Nat):Prop:=es.length<12→j=0∨∃ q,up[j - 1]?=some q∧dG es q=true
theorem zg0 {es:List En} {d:En} {q:Bs} (h:d∈es) (hq:d.path=q) (hk:bX d.kind=true):dG es q=true:=by
 rw[dG,List.any_eq_true];exact ⟨d,h,by simp[hq,hk]⟩
theorem zub {es:List En} {q:Bs} (h:dG es q=true):∃ d∈es,d.path=q∧bX d.kind=true:=by
 rw[dG,List.any_eq_true]at h;obtain ⟨d,hd,h⟩:=h;simp only[Bool.and_eq_true,decide_eq_true_eq]at h;exact ⟨d,hd,h⟩
theorem zpa {p q:Bs} {es:List En} {j:Nat} {k:Int} (hp:aF p=0) (hq:(bJ (bF p.tail))[j]?=some q) (hR:aV es) (hU:zxa (bJ (bF p.tail)) es j) (hl:es.length<12) (hk:k=2∨k=4) :
  aV (dC es ⟨q,k,0,[]⟩)∧zxa (bJ (bF p.tail)) (dC es ⟨q,k,0,[]⟩) (j+1):=by
 obtain ⟨hf,hpar⟩:=zd4 hp hq;have hef:aI ⟨q,k,0,[]⟩=0:=nG hf (by rcases hk with rfl | rfl <;> decide)
 have hhome:cQ es q=true:=by
  rw[dH];rcases hpar with ⟨h0,_⟩ | ⟨i,rfl,hi⟩
  ·exact .inl h0
  ·rcases hU hl with h | ⟨q',h1,h2⟩
   ·omega
   ·rw[Nat.add_sub_cancel,hi]at h1
    cases h1
    exact .inr (zub h2)
 have hlen:(dC es ⟨q,k,0,[]⟩).length≤12:=by
  have:(dC es ⟨q,k,0,[]⟩).length=(iL es ⟨q,k,0,[]⟩).length+1:=by
   unfold dC gI;rw[List.length_append,List.length_cons,List.length_take,List.length_drop];omega
  have:=vE es ⟨q,k,0,[]⟩;omega
 refine ⟨zu3 hR hef hhome hlen,fun _=>.inr ⟨q,by rw[Nat.add_sub_cancel];exact hq,?_⟩⟩
 exact zg0 (jJ.2 (.inl rfl)) rfl (decide_eq_true hk)
theorem lT (p:Nat) (zs:List Int) (T:Int) (w:World) (h:dL w p zs T) (hu:U8 zs) (hT:T≤500000) (hl:zs.length≤2097152) :
  Calls Tryz.prog 145 #[.pointer (some ⟨p,0,none⟩)] w fun r w'=>∃ (es:List En) (av:Option Addr) (cv:Nat),r=.returned (.slice av es.length cv)∧aV es∧GE w.heap.size w'.heap.size w' (.slice av es.length cv) es∧dL w' p zs (T+1000)∧aD (fun b=>b=p) w w':=by
 have hp:=h.lt;have S0:=aA (h.below (aC w (.cells #[] 87)));have G0:=aA (GE.made w);have K0:=aA ((aD.refl (fun b=>b=p) w).alloc (.cells #[] 87))
 have HU:=aA hu;clear h hu;go_enter Tryz.func145,Tryz.ntmps145;go_wp2_with fail
 refine (fK p zs T 10 _ S0.out HU.out (by omega) (by decide) (by decide) hl).mono ?_
 rintro r w1 ⟨m0,rfl,hm0,s1,k1⟩;have S1:=aA s1;have K1:=aA (K0.out.trans k1);have G1:=aA (G0.out.keptP k1 hp);clear s1 k1 S0 K0 G0;go_wp2_with fail
 go_loopw [3,4] (fun v k wr=>∃ (m:Nat) (es:List En),k=.int .i64 m∧m≤9∧Hid (aV es)∧Hid (GE w.heap.size wr.heap.size wr v es)∧Hid (dL wr p zs (T+1+60 * (9 - (m:Int))))∧Hid (aD (fun b=>b=p) w wr)) (fun _ k _=>(intOf k).toNat)
 case atStart=>exact ⟨m0,[],rfl,by omega,aA zt3,G1,aA (S1.out.mono (by omega)),K1⟩
 case round =>
  obtain ⟨m,es,rfl,hm9,HRi,HG,HSr,HK⟩:=hrel;obtain ⟨lv,lc,hv⟩:=HG.out.shape;subst hv;by_cases hm:0<m
  ·have hm':(0:Int)<(m:Int):=by omega
   have hwr:=HK.out.size;go_wp2_with fail
   refine (yC p zs _ _ HSr.out HU.out (by omega) hl).mono ?_
   rintro r w2 ⟨e,a,c,rfl,⟨hef,hxl⟩,ho2,s2,k2⟩;have hpz:=bQ hef;have AE:=aA (aC w2 (.cells #[.string (str e.path),.int .i64 e.kind,.int .i64 e.size,.slice a e.chunks.length c] 87));have F2:=aA (dI.new w2 (.string (str e.path)) (.int .i64 e.kind) (.int .i64 e.size) (.slice a e.chunks.length c) 87);have S2:=aA (s2.below AE.out);have K2:=aA ((HK.out.trans k2).alloc (.cells #[.string (str e.path),.int .i64 e.kind,.int .i64 e.size,.slice a e.chunks.length c] 87));have G2:=aA (((HG.out.keptP k2 hp).below AE.out).wide AE.out.size);have R2:=aA ((cM ho2 rfl).below AE.out)
   have hRb:=aA (fun b (hb:(Value.slice a e.chunks.length c).ownBlock=some b)=>(ho2.lt b hb).1)
   have HEF:=aA hef;have HPZ:=aA hpz;have hs2:=k2.size;clear s2 k2 ho2 HG HSr HK hef;have hcl:e.chunks.length≤3:=fX HEF.out;go_wp2_with fail
   have hb2:w2.heap.size<(w2.alloc (.cells #[.string (str e.path),.int .i64 e.kind,.int .i64 e.size,.slice a e.chunks.length c] 87)).heap.size:=F2.out.lt;generalize w2.alloc (.cells #[.string (str e.path),.int .i64 e.kind,.int .i64 e.size,.slice a e.chunks.length c] 87)=W2 at *;obtain ⟨b2,hb2e⟩:∃ b2,b2=w2.heap.size:=⟨_,rfl⟩;rw[←hb2e]at F2 hb2 hs2 ⊢;clear hb2e AE;refine (oL _ _ (by rw[aP];exact tZ hpz) (by rw[aP];omega)).mono ?_
   rintro r w3 ⟨uv,rfl,hO3,hb3⟩;rw[bD]at hO3;obtain ⟨ua,uc,rfl⟩:=hO3.shape;have UR:=aA hO3.reads;have hUB:=aA (fun b hb=>(hO3.lt b hb).1)
   have F3:=aA (F2.out.below hb3);have S3:=aA (S2.out.below hb3);have K3:=aA (K2.out.trans (aD.of_below hb3));have G3:=aA ((G2.out.below hb3).wide hb3.size);have R3:=aA (R2.out.below hb3);have hs3:=hb3.size;clear hb3 hO3 F2 S2 K2 G2 R2 hpz;have hul:(bJ (bF e.path.tail)).length≤2:=by
    obtain ⟨ns,hN,_,hc,_⟩:=fT HPZ.out;rw[hc,iE];have:=hN.2.2.2;omega
   have hpw3:p<w3.heap.size:=S3.out.lt;obtain ⟨up,hup⟩:∃ up,up=bJ (bF e.path.tail):=⟨_,rfl⟩;rw[←hup]at UR hUB hul ⊢;have HUPE:=aA hup;clear hup;go_wp2_with fail
   go_loopw [3,7] (fun v i wr2=>∃ (j:Nat) (fs:List En),i=.int .i64 j∧j≤up.length∧Hid (aV fs)∧Hid (zxa (bJ (bF e.path.tail)) fs j)∧Hid (GE w.heap.size wr2.heap.size wr2 v fs)∧Hid (dL wr2 p zs (T+1+60 * (9 - (m:Int))+30+j))∧Hid (aD (fun b=>b=p) w3 wr2)) (fun _ i _=>up.length - (intOf i).toNat)
   case atStart=>exact ⟨0,es,rfl,Nat.zero_le _,HRi,aA (fun _=>.inl rfl),G3,aA (by simpa using S3.out),aA (aD.refl _ _)⟩
   case round =>
    obtain ⟨j,fs,rfl,hj,HR2,HUp,HG2,HS2,HK2⟩:=hrel;obtain ⟨fv,fc,hv⟩:=HG2.out.shape;subst hv;have hf12:=HR2.out.len;have hsz2:=HK2.out.size;have UR2:=aA (UR.out.kept HK2.out (fun hz x hx e=>by subst hx;have:=hUB.out x.block rfl;omega))
    by_cases hlt:j<up.length
    ·obtain ⟨bu,ou,q,rfl,hbu,hqu,hcq⟩:=UR2.out.at hlt
     have hbup:bu≠p:=by have:=hUB.out bu rfl;omega
     have hq:(bJ (bF e.path.tail))[j]?=some q:=by rw[←HUPE.out];exact hqu
     have HFQ:=aA (zd4 HPZ.out hq).1;clear hqu;go_wp2_with fail
     refine (iI fv fc fs.length fs q _ HG2.out.rd rfl (by omega)).mono ?_
     rintro r wr2 ⟨rfl,rfl⟩;cases hat:atE fs q with
     | none =>
      simp only[cR];by_cases hl12:fs.length<12
      ·have hl12':(fs.length:Int)<12:=by omega
       have BD:=aA ((aC wr2 (.cells #[.int .i64 2,.int .i64 2,.int .i64 4] 2)).drew);have S5:=aA (HS2.out.below BD.out);have K5:=((HK2.out.alloc (.cells #[.int .i64 2,.int .i64 2,.int .i64 4] 2)).drew);have G5:=aA ((HG2.out.below BD.out).wide BD.out.size);have CC:Hid (∀ i,i<3→(wr2.alloc (.cells #[.int .i64 2,.int .i64 2,.int .i64 4] 2)).drew.cell? ⟨wr2.heap.size,i,none⟩=some (.int .i64 (([2,2,4]:List Int).getD i 0))):=aA (zba wr2 2 2 4 2);have cqd:=(BD.out.cell (p:=⟨bu,ou+j,none⟩) hbu).trans hcq;have HFS:=aA (cN HR2.out);go_wp2_with fail
       go_region_held3 (fun w'=>w'.cell? ⟨bu,ou+j,none⟩=some (.string (str q))) (first | exact c6 | exact c7 | go_keep)
        ((
         first
         | (go_at_call 97;refine (qZ p wr2.heap.size 3 3 [2,2,4] zs _ _ S5.out HU.out (by omega) hl (by decide) (by decide) rfl (by omega) (by show wr2.heap.size<(wr2.alloc (.cells #[.int .i64 2,.int .i64 2,.int .i64 4] 2)).heap.size;simp) CC.out).mono ?_;rintro r w6 ⟨kv,hkv,rfl,s6,k6⟩;have hlt6:bu<(wr2.alloc (.cells #[.int .i64 2,.int .i64 2,.int .i64 4] 2)).drew.heap.size:=(Nat.lt_of_lt_of_le hbu BD.out.size);have c6:=(k6.cell (p:=⟨bu,ou+j,none⟩) hlt6 (by omega)).trans cqd;have hlt7:bu<w6.heap.size:=Nat.lt_of_lt_of_le hlt6 k6.size;have S6:=aA s6;have K6:=aA (K5.trans k6);have G6:=aA (G5.out.keptP k6 hp);have HKV:=aA (show kv=2∨kv=4 from by simp at hkv;omega);have hs6:=k6.size;clear s6 k6 hkv)
         | (go_at_call 191;refine (pC fv fc fs.length fs ⟨q,kv,0,[]⟩ none 0 0 _ G6.out.rd rfl (by omega) HFS.out rfl (fun h=>absurd rfl h) (by show q.length≤1048576;have:=uA HFQ.out;omega) (by simp)).mono ?_;rintro r w7 ⟨g7,cv7,rfl,hG7,hb7⟩;have c7:=(hb7.cell (p:=⟨bu,ou+j,none⟩) hlt7).trans c6;have S7:=aA (S6.out.below hb7);have K7:=aA (K6.out.trans (aD.of_below hb7));have G7:=aA (hG7.mono (B':=w.heap.size) (by have:=K6.out.size;have:=K3.out.size;omega));clear hG7 hb7)))
       have HPD:=aA (zpa (k:=kv) HPZ.out hq HR2.out HUp.out hl12 HKV.out);go_wp2_with fail
       go_roundw
       case rel=>exact ⟨j+1,dC fs ⟨q,kv,0,[]⟩,by go_num,by omega,aA HPD.out.1,aA HPD.out.2,G7,aA (S7.out.mono (by omega)),K7⟩
       case measure=>simp[intOf];omega
      ·have hl12':¬ (fs.length:Int)<12:=by omega
       go_wp2_with fail
       go_roundw
       case rel=>exact ⟨j+1,fs,by go_num,by omega,HR2,aA (fun h=>absurd h (by omega)),HG2,aA (HS2.out.mono (by omega)),HK2⟩
       case measure=>simp[intOf];omega
     | some k =>
      have hkl:=oT hat;have hfk:=nY fs q;rw[hat]at hfk;obtain ⟨bf,off,d,xd,cd,rfl,hbf,hd,d0,d1,d2,d3,hrd⟩:=HG2.out.rd.at hkl;rw[Option.bind_some,hd]at hfk;obtain ⟨hdm,hdp⟩:=eN hfk;simp only[cR];have hk0:¬ (k:Int)<0:=by omega
      have hk1:(k:Int)<(fs.length:Int):=by omega
      clear hfk hrd d0 d2 d3 hat;cases hdk:bX d.kind
      ·go_wp2_with fail
       refine (cX _ _ d.kind _ d1).mono ?_;rintro r wr2 ⟨rfl,rfl⟩;rw[hdk];clear d1;obtain ⟨fv,hfv⟩:∃ fv:Option Addr,fv=some ⟨bf,off,none⟩:=⟨_,rfl⟩;rw[←hfv]at HG2 ⊢;clear hfv;by_cases hl12:fs.length<12
       ·have hl12':(fs.length:Int)<12:=by omega
        have BD:=aA ((aC wr2 (.cells #[.int .i64 2,.int .i64 2,.int .i64 4] 2)).drew);have S5:=aA (HS2.out.below BD.out);have K5:=((HK2.out.alloc (.cells #[.int .i64 2,.int .i64 2,.int .i64 4] 2)).drew);have G5:=aA ((HG2.out.below BD.out).wide BD.out.size);have CC:Hid (∀ i,i<3→(wr2.alloc (.cells #[.int .i64 2,.int .i64 2,.int .i64 4] 2)).drew.cell? ⟨wr2.heap.size,i,none⟩=some (.int .i64 (([2,2,4]:List Int).getD i 0))):=aA (zba wr2 2 2 4 2);have cqd:=(BD.out.cell (p:=⟨bu,ou+j,none⟩) hbu).trans hcq;have HFS:=aA (cN HR2.out);go_wp2_with fail
        go_region_held3 (fun w'=>w'.cell? ⟨bu,ou+j,none⟩=some (.string (str q))) (first | exact c6 | exact c7 | go_keep)
         ((
          first
          | (go_at_call 97;refine (qZ p wr2.heap.size 3 3 [2,2,4] zs _ _ S5.out HU.out (by omega) hl (by decide) (by decide) rfl (by omega) (by show wr2.heap.size<(wr2.alloc (.cells #[.int .i64 2,.int .i64 2,.int .i64 4] 2)).heap.size;simp) CC.out).mono ?_;rintro r w6 ⟨kv,hkv,rfl,s6,k6⟩;have hlt6:bu<(wr2.alloc (.cells #[.int .i64 2,.int .i64 2,.int .i64 4] 2)).drew.heap.size:=(Nat.lt_of_lt_of_le hbu BD.out.size);have c6:=(k6.cell (p:=⟨bu,ou+j,none⟩) hlt6 (by omega)).trans cqd;have hlt7:bu<w6.heap.size:=Nat.lt_of_lt_of_le hlt6 k6.size;have S6:=aA s6;have K6:=aA (K5.trans k6);have G6:=aA (G5.out.keptP k6 hp);have HKV:=aA (show kv=2∨kv=4 from by simp at hkv;omega);have hs6:=k6.size;clear s6 k6 hkv)
          | (go_at_call 191;refine (pC fv fc fs.length fs ⟨q,kv,0,[]⟩ none 0 0 _ G6.out.rd rfl (by omega) HFS.out rfl (fun h=>absurd rfl h) (by show q.length≤1048576;have:=uA HFQ.out;omega) (by simp)).mono ?_;rintro r w7 ⟨g7,cv7,rfl,hG7,hb7⟩;have c7:=(hb7.cell (p:=⟨bu,ou+j,none⟩) hlt7).trans c6;have S7:=aA (S6.out.below hb7);have K7:=aA (K6.out.trans (aD.of_below hb7));have G7:=aA (hG7.mono (B':=w.heap.size) (by have:=K6.out.size;have:=K3.out.size;omega));clear hG7 hb7)))
        have HPD:=aA (zpa (k:=kv) HPZ.out hq HR2.out HUp.out hl12 HKV.out);go_wp2_with fail
        go_roundw
        case rel=>exact ⟨j+1,dC fs ⟨q,kv,0,[]⟩,by go_num,by omega,aA HPD.out.1,aA HPD.out.2,G7,aA (S7.out.mono (by omega)),K7⟩
        case measure=>simp[intOf];omega
       ·have hl12':¬ (fs.length:Int)<12:=by omega
        go_wp2_with fail
        go_roundw
        case rel=>exact ⟨j+1,fs,by go_num,by omega,HR2,aA (fun h=>absurd h (by omega)),HG2,aA (HS2.out.mono (by omega)),HK2⟩
        case measure=>simp[intOf];omega
      ·have HUq:=aA (show zxa (bJ (bF e.path.tail)) fs (j+1) from fun _=>.inr ⟨q,by rw[Nat.add_sub_cancel];exact hq,zg0 hdm hdp hdk⟩)
       go_wp2_with fail
       refine (cX _ _ d.kind _ d1).mono ?_;rintro r wr2 ⟨rfl,rfl⟩;rw[hdk];clear d1;go_wp2_with fail
       go_roundw
       case rel=>exact ⟨j+1,fs,by go_num,by omega,HR2,HUq,HG2,aA (HS2.out.mono (by omega)),HK2⟩
       case measure=>simp[intOf];omega
    ·have F9:=F3.out
     have R9:=aA (R3.out.kept HK2.out (fun hz x hx e=>by subst hx;have:=hRb.out x.block rfl;omega))
     have hbw3:b2<w3.heap.size:=F3.out.lt;have n0:¬ b2=p:=by omega
     have g0:=(HK2.out.cell (p:=⟨b2,0,none⟩) hbw3 n0).trans F9.1;have g1:=(HK2.out.cell (p:=⟨b2,1,none⟩) hbw3 n0).trans F9.2.1;have g2:=(HK2.out.cell (p:=⟨b2,2,none⟩) hbw3 n0).trans F9.2.2.1;have g3:=(HK2.out.cell (p:=⟨b2,3,none⟩) hbw3 n0).trans F9.2.2.2;clear F9;go_wp2_with fail
     refine (zT fv fc fs.length fs e a e.chunks.length c _ HG2.out.rd rfl (by omega) (cN HR2.out) rfl R9.out (by omega) (by omega)).mono ?_
     rintro r w5 ⟨av5,cv5,rfl,hG5,hb5⟩;have HPE:=aA (zvc HR2.out e);have AR:=aA (aC w5 (.cells #[.int .i64 (dY fs e),.slice av5 (gF fs e).length cv5] 190));have S9:=aA ((HS2.out.below hb5).below AR.out);have K9:=aA (((K3.out.trans HK2.out).trans (aD.of_below hb5)).alloc (.cells #[.int .i64 (dY fs e),.slice av5 (gF fs e).length cv5] 190));have GO:=aA ((((HG2.out.below hb5).wide hb5.size).below AR.out).wide AR.out.size);have GN:=aA (((hG5.mono (B':=w.heap.size) (by have:=K3.out.size;omega)).below AR.out).wide AR.out.size)
     clear hG5 hb5 g0 g1 g2 g3;by_cases hc:dY fs e=0
     ·have hcP:fA fs e=0:=by rw[←HPE.out];exact hc
      have hPL:gF fs e=dC fs e:=by rw[gF,if_pos hc]
      have HRN:=aA (wG hcP).2.2.2.2;rw[hc,hPL]at S9 K9 GO GN AR ⊢;clear hc hcP hPL;go_wp2_with fail
      go_roundw
      case rel=>exact ⟨m - 1,dC fs e,by go_num,by omega,HRN,GN,aA (S9.out.mono (by omega)),K9⟩
      case measure=>simp[intOf];omega
     ·have hcn:(dY fs e==0)=false:=by simp;exact hc
      clear hc;generalize dY fs e=pc at *;generalize gF fs e=pl at *;go_wp2_with fail
      go_roundw
      case rel=>exact ⟨m - 1,fs,by go_num,by omega,HR2,GO,aA (S9.out.mono (by omega)),K9⟩
      case measure=>simp[intOf];omega
  ·have hm':¬ (0:Int)<(m:Int):=by omega
   go_wp2_with fail
   go_ret
   exact ⟨es,lv,lc,rfl,HRi.out,HG.out,HSr.out.mono (by omega),HK.out⟩
theorem GE.push2 {B T:Nat} {w1 w2:World} {v v':Value} {es:List En} {rs:List Rw} {e:En} {a:Option Addr} {c:Nat} (he:rs.map Rw.e=es)
  (h1:w1.ownsRow B 87 4 v es.length (aZ rs))
  (h2:∀ r∈rs,w1.ownsRow B 2 1 (.slice r.a r.e.chunks.length r.c) r.e.chunks.length (r.e.chunks.map (Value.int .i64)))
  (h3:rs.Pairwise (fun r r'=>∀ g,r.a.map Addr.block=some g→r'.a.map Addr.block≠some g)) (h4:∀ r∈rs,∀ g,r.a.map Addr.block=some g→g<T) (hB:B≤T) (hT:T≤w1.heap.size)
  (hown:w1.ownsRow T 2 1 (.slice a e.chunks.length c) e.chunks.length (e.chunks.map (Value.int .i64)))
  (hv':w2.ownsRow B 87 4 v' (es.length+1) (aZ rs++cA ⟨e,a,c⟩))
  (hk:aD (fun b=>v.ownBlock=some b) w1 w2):GE B w2.heap.size w2 v' (es ++ [e]):=by
 have hg0:∀ g',a.map Addr.block=some g'→T≤g'∧g'<w1.heap.size:=fun g' hg=>hown.lt g' (mU hg)
 have hsz:=hk.size;refine ⟨rs ++ [⟨e,a,c⟩],by rw[List.map_append,he];rfl,?_,?_,?_,?_,fun b hb=>(hv'.lt b hb).2⟩
 ·rw[oP,List.length_append]
  simpa [aZ] using hv'
 ·intro r hr
  rcases List.mem_append.1 hr with hr | hr
  ·exact aH (h2 r hr) hk (fun b hb hS=>aX h1 (h2 r hr) (by decide) hS hb)
  ·simp only[List.mem_singleton]at hr
   subst hr;exact aH (aS hown hB) hk (fun b hb hS=>aX h1 hown (by decide) hS hb)
 ·rw[List.pairwise_append]
  refine ⟨h3,List.pairwise_singleton _ _,fun r hr r' hr' g hg hg'=>?_⟩
  simp only[List.mem_singleton]at hr';subst hr';have:=h4 r hr g hg;have:=hg0 g hg';omega
 ·intro r hr g hg
  rcases List.mem_append.1 hr with hr | hr
  ·have:=h4 r hr g hg
   omega
  ·simp only[List.mem_singleton]at hr
   subst hr;have:=hg0 g hg;omega
theorem GE.store2 {B T:Nat} {w1:World} {G n c:Nat} {es:List En} {j:Nat} {e:En} {a:Option Addr} {cc:Nat} (h:GE B T w1 (.slice (some ⟨G,0,none⟩) n c) es) (hn:n=es.length) (hj:j<es.length) (hB:B≤T) (hT:T≤w1.heap.size)
  (hown:w1.ownsRow T 2 1 (.slice a e.chunks.length cc) e.chunks.length (e.chunks.map (Value.int .i64))) :
  GE B w1.heap.size ((((w1.setCell ⟨G,j * 4,none⟩ (.string (str e.path))).setCell ⟨G,j * 4+1,none⟩ (.int .i64 e.kind)).setCell ⟨G,j * 4+2,none⟩ (.int .i64 e.size)).setCell ⟨G,j * 4+3,none⟩ (.slice a e.chunks.length cc)) (.slice (some ⟨G,0,none⟩) n c) (es.set j e):=by
 subst hn;obtain ⟨rs,hrs,h1,h2,h3,h4,h5⟩:=h;have hl:rs.length=es.length:=by rw[←hrs,List.length_map]
 have s1:=((((h1.stored (j * 4) (.string (str e.path))).1.stored (j * 4+1) (.int .i64 e.kind)).1.stored (j * 4+2) (.int .i64 e.size)).1.stored (j * 4+3) (.slice a e.chunks.length cc)).1;rw[rU rs j ⟨e,a,cc⟩ (by omega)]at s1
 have hkp:aD (fun b=>b=G) w1 ((((w1.setCell ⟨G,j * 4,none⟩ (.string (str e.path))).setCell ⟨G,j * 4+1,none⟩ (.int .i64 e.kind)).setCell ⟨G,j * 4+2,none⟩ (.int .i64 e.size)).setCell ⟨G,j * 4+3,none⟩ (.slice a e.chunks.length cc)) :=
  aD.setCell (S:=fun b=>b=G) (p:=⟨G,j * 4+3,none⟩) (aD.setCell (S:=fun b=>b=G) (p:=⟨G,j * 4+2,none⟩) (aD.two _ _ _ _ _ _) (fun _=>rfl) _) (fun _=>rfl) _
 have hnew:∀ g,a.map Addr.block=some g→T≤g∧g<w1.heap.size:=fun g hg=>hown.lt g (mU hg)
 refine ⟨rs.set j ⟨e,a,cc⟩,by rw[List.map_set,hrs],by rw[List.length_set];exact s1,?_,?_,?_,fun b hb=>by have:=h5 b hb;omega⟩
 ·intro r0 hr0
  rcases List.mem_or_eq_of_mem_set hr0 with hr | rfl
  ·exact aH (h2 r0 hr) hkp (fun b hb hS=>aX h1 (h2 r0 hr) (by decide) (by subst hS;rfl) hb)
  ·exact aH (aS hown hB) hkp (fun b hb hS=>aX h1 hown (by decide) (by subst hS;rfl) hb)
 ·rw[List.pairwise_iff_getElem]
  intro i i' hi hi' hlt g hg hg';rw[List.length_set]at hi hi';rw[List.getElem_set]at hg hg';by_cases e1:j=i
  ·rw[if_pos e1]at hg
   rw[if_neg (by omega)]at hg'
   have:=h4 _ (List.getElem_mem hi') g hg';have:=hnew g hg;omega
  ·rw[if_neg e1]at hg
   by_cases e2:j=i'
   ·rw[if_pos e2]at hg'
    have:=h4 _ (List.getElem_mem hi) g hg;have:=hnew g hg';omega
   ·rw[if_neg e2]at hg'
    exact List.pairwise_iff_getElem.1 h3 i i' hi hi' hlt g hg hg'
 ·intro r0 hr0 g hg
  rcases List.mem_or_eq_of_mem_set hr0 with hr | rfl
  ·have:=h4 r0 hr g hg;omega
  ·exact (hnew g hg).2
structure Ly where
 es:List En
 a:Option Addr
 c:Nat
def lyV (x:Ly):Value:=.slice x.a x.es.length x.c
theorem zu5:(Tryz.prog.info? 40).map (fun i=>(i.zero,i.size,i.bytes))=some (some (.slice none 0 0),1,24):=by kernel_rfl
theorem zx2 {w w':World} (h:w.grownBy w' none):Below w.heap.size w w':=⟨h.os,h.tape,h.output,h.size,fun k hk=>h.block k hk (by simp)⟩
theorem rD {P:Program} {w:World} {ops:Array Oper} {rest:List Oper} {o:Oper} {a:Act} {Q:Exit→Act→World→Prop} (hgd:o.guard=none) (d s:Operand) (t:TypeId)
  (ho:o.op=.call { callee:=.builtin .copy,args:=#[d,s],argTypes:=#[t,t] })
  (base:Nat) (e:TypeId) (i:TypeInfo) (size:Nat) (ht:P.underlying t=some (.slice e)) (hi:P.info? e=some i) (hsize:i.size=size) (hpos:0<size)
  (g n c:Nat) (xs:List Value) (hd:a.eval d=.slice (some ⟨g,0,none⟩) n c) (hown:w.ownsRow base e size (.slice (some ⟨g,0,none⟩) n c) n xs)
  (sp:Option Addr) (m sc:Nat) (cs:List Value) (hs:a.eval s=.slice sp m sc) (hm:m≤n) (hcl:cs.length=m * size)
  (hsrc:cs≠[]→∃ ad,sp=some ad∧∀ j u,cs[j]?=some u→w.cell? (ad.add j)=some u) (h1:∀ u∈cs,u.oneCell'=true)
  (h:∀ w',w'.ownsRow base e size (.slice (some ⟨g,0,none⟩) n c) n (cs++xs.drop (m * size))→aD (fun b=>b=g) w w'→wpList P ops Q rest (a.put o.dst (goInt m)) w') :
  wpList P ops Q (o :: rest) a w:=by
 have hmin:Nat.min m n=m:=Nat.min_eq_left hm;refine wpList_plain hgd fun K hK=>?_
 by_cases hz:cs=[]
 ·subst hz
  have hm0:m=0:=by
   simp only[List.length_nil]at hcl;rcases Nat.mul_eq_zero.1 hcl.symm with h0 | h0
   ·exact h0
   ·omega
  subst hm0;have hl:∀ (x:Addr),(loadCells x 0).run P w=.ok #[] w:=fun x=>by simpa using run_loadCells_list (P:=P) w x [] (by simp)
  have hrun:(Builtin.copy_ #[t,t] o.type #[.slice (some ⟨g,0,none⟩) n c,.slice sp 0 sc]).run P w=.ok (goInt 0) w:=by
   cases sp <;> simp[Builtin.copy_,run_underlying ht,Builtin.lenOf,Builtin.firstCells,sizeOf,typeInfo,hi,storeCells,hl]
  unfold Oper.wp;simp[execOp,ho,resolve,invoke,builtin,hd,hs,hrun,Result.andThen]
  exact hK _ _ (h w (by simpa using hown) (aD.refl _ _))
 ·obtain ⟨ad,rfl,hsr2⟩:=hsrc hz
  rcases hown.2 with ⟨hv,_⟩ | ⟨g',cap,cur,hv,hb,hh,hnc,hcm,hcs,htk⟩
  ·cases hv
  ·cases hv
   have hfit:cs.length≤cur.size:=by
    rw[hcl,hcs];exact Nat.mul_le_mul_right _ (Nat.le_trans hm hnc)
   have hl:=run_loadCells_list (P:=P) w ad cs hsr2;have hst:=run_storeCells_at P g 0 e cs 0 cur w hh (by simpa using hfit) h1
   have hrun:(Builtin.copy_ #[t,t] o.type #[.slice (some ⟨g,0,none⟩) n c,.slice (some ad) m sc]).run P w=.ok (goInt m) (w.setRow g (cs++cur.toList.drop cs.length).toArray):=by
    rw[hcl]at hl;simp[Builtin.copy_,run_underlying ht,Builtin.lenOf,Builtin.firstCells,sizeOf,typeInfo,hi,hsize,hmin,hl,hst]
   unfold Oper.wp;simp[execOp,ho,resolve,invoke,builtin,hd,hs,hrun,Result.andThen]
   refine hK _ _ (h _ ⟨?_,.inr ⟨g,c,(cs++cur.toList.drop cs.length).toArray,rfl,hb,setRow_heap w g cur _ e (0,0) hh,hnc,hcm,?_,?_⟩⟩ ⟨rfl,rfl,rfl,by simp[World.setRow],fun k hk hn=>setRow_other w g k _ hn⟩)
   ·rw[List.length_append,List.length_drop,hown.1,hcl,←Nat.sub_mul,←Nat.add_mul]
    congr 1;omega
   ·simp only[List.size_toArray,List.length_append,List.length_drop,Array.length_toList]
    omega
   ·have hle:cs.length≤n * size:=by rw[hcl];exact Nat.mul_le_mul_right _ hm
    rw[List.take_append,List.take_of_length_le hle,←htk,List.drop_take,hcl]
theorem zj9 {k:IntKind} {w:World} {a:Option Addr} {zs:List Int} (h:aO k w a zs):∀ W:World,Below w.heap.size w W→zs.map (Value.int k)≠[]→∃ ad,a=some ad∧∀ (j:Nat) u,(zs.map (Value.int k))[j]?=some u→W.cell? (ad.add j)=some u:=fun W hW hz=>by
 obtain ⟨b,off,e,hb,hc⟩:=(h.below hW) (by intro e;simp[e]at hz)
 exact ⟨⟨b,off,none⟩,e,lS hc⟩
theorem zf3 (z:Array Value) (n:Nat):(madeCells z n).toList.drop n=[]:=List.drop_eq_nil_of_le (by rw[Array.length_toList,size_madeCells];exact Nat.le_refl _)
theorem zq1 (a:Option Addr) (c n:Nat) (zs:List Int) (w:World) (h:aO .i64 w a zs) (hn:n=zs.length) (hl:zs.length≤1048576) :
  Calls Tryz.prog 87 #[.slice a n c] w fun r w'=>∃ av cv,r=.returned (.slice av zs.length cv)∧w'.ownsRow w.heap.size 2 1 (.slice av zs.length cv) zs.length (zs.map (Value.int .i64))∧Below w.heap.size w w':=by
 subst hn;obtain ⟨i0,hi0,hz0,hz1,hz2⟩:=info_parts Tryz.infoI64;by_cases hz:zs=[]
 ·subst hz
  go_enter Tryz.func87,Tryz.ntmps87;go_wp2_with fail
  go_ret
  exact ⟨none,0,rfl,World.ownsRow_nil _ _ _ _,Below.refl _ _⟩
 ·have hp:0<zs.length:=List.length_pos_iff.2 hz
  have HC:=aA (zj9 h);have HV1:=aA (oC .i64 zs);have hby:i0.bytes * zs.length≤281474976710656:=by rw[hz2];omega
  have hml:zs.length≤maxLen:=by unfold maxLen;omega
  have HVN:=aA (show (zs.map (Value.int .i64)).length=zs.length * 1 by simp)
  have HD:=aA (show (madeCells (Value.int .i64 0).cells (zs.length * 1)).toList.drop (zs.length * 1)=[] from zf3 _ _)
  clear h hz;generalize hvs:zs.map (Value.int .i64)=vs at *;clear hvs;generalize zs.length=N at *;have hne:((N:Int)==0)=false:=by simp;omega
  go_enter Tryz.func87,Tryz.ntmps87;go_wp2_with (first
   | (at_make;refine wpList_make_full _ rfl (.tmp 8) (.tmp 8) 48 rfl w.heap.size 2 i0 (.int .i64 0) 1 Tryz.underlying48 hi0 hz0 hz1 .i64 .i64 _ _ N rfl rfl (by simp) (by simp) hby hml (Nat.le_refl _) ?_;intro w1 ho1 hg1;have O1:=aA ho1;have B1:=aA (zx2 hg1);clear ho1 hg1)
   | (refine rD rfl (.tmp 10) (.tmp 11) 48 rfl w.heap.size 2 i0 1 Tryz.underlying48 hi0 hz1 (by decide) w.heap.size N N _ rfl O1.out a N c vs rfl (Nat.le_refl _) HVN.out (HC.out w1 B1.out) HV1.out ?_;rw[HD.out,List.append_nil];intro w2 ho2 hk2;have O2:=aA ho2;have B2:=aA (B1.out.trans (hk2.below (B:=w.heap.size) B1.out.size (fun b hb e=>by omega)));clear ho2 hk2))
  go_ret
  exact ⟨_,_,rfl,O2.out,B2.out⟩
theorem RdL.cells {w:World} {a:Option Addr} {ls:List (List En)} (h:RdL w a ls):∃ vs:List Value,vs.length=ls.length∧(∀ W:World,Below w.heap.size w W→vs≠[]→∃ ad,a=some ad∧∀ j u,vs[j]?=some u→W.cell? (ad.add j)=some u)∧(∀ u∈vs,u.oneCell'=true)∧∀ (i:Nat) (es:List En),ls[i]?=some es→∃ x c,vs[i]?=some (Value.slice x es.length c)∧RdE w x es:=by
 by_cases hz:ls=[]
 ·subst hz
  exact ⟨[],rfl,fun _ _ h=>absurd rfl h,fun u hu=>by simp at hu,fun i es he=>by simp at he⟩
 ·obtain ⟨b,off,A,C,rfl,hb,hc⟩:=h hz
  refine ⟨(List.range ls.length).map fun i=>Value.slice (A i) (ls.getD i []).length (C i),by simp,fun W hW _=>⟨⟨b,off,none⟩,rfl,fun j u hj=>?_⟩,fun u hu=>?_,fun i es he=>?_⟩
  ·have hlt:j<ls.length:=by have:=(List.getElem?_eq_some_iff.1 hj).1;simpa using this
   have he:ls[j]?=some ls[j]:=List.getElem?_eq_getElem hlt;obtain ⟨c0,-⟩:=hc j _ he;rw[List.getElem?_map,List.getElem?_range hlt]at hj
   simp only[Option.map_some,Option.some.injEq]at hj;rw[eU,hW.cell (p:=⟨b,off+j,none⟩) hb,c0,←hj];simp[List.getD_eq_getElem?_getD,he]
  ·obtain ⟨i,-,rfl⟩:=List.mem_map.1 hu
   rfl
  ·have hlt:i<ls.length:=(List.getElem?_eq_some_iff.1 he).1
   obtain ⟨-,r⟩:=hc i es he;exact ⟨A i,C i,by rw[List.getElem?_map,List.getElem?_range hlt];simp[List.getD_eq_getElem?_getD,he],r⟩
theorem zki {w:World} {a:Option Addr} {es:List En} (h:RdE w a es):∃ rs:List Rw,rs.map Rw.e=es∧(∀ r∈rs,aO .i64 w r.a r.e.chunks)∧(∀ W:World,Below w.heap.size w W→aZ rs≠[]→∃ ad,a=some ad∧∀ (j:Nat) u,(aZ rs)[j]?=some u→W.cell? (ad.add j)=some u):=by
 by_cases hz:es=[]
 ·subst hz
  exact ⟨[],rfl,fun r hr=>by simp at hr,fun _ _ h=>absurd rfl h⟩
 ·obtain ⟨b,off,A,C,rfl,hb,hc⟩:=h hz
  have hmap:((List.range es.length).map fun i=>(⟨es.getD i zEn,A i,C i⟩:Rw)).map Rw.e=es:=by
   rw[List.map_map];apply List.ext_getElem?
   intro i;by_cases hi:i<es.length
   ·rw[List.getElem?_map,List.getElem?_range hi]
    simp[List.getD_eq_getElem?_getD,List.getElem?_eq_getElem hi]
   ·rw[List.getElem?_eq_none (by simp;omega),List.getElem?_eq_none (by omega)]
  refine ⟨_,hmap,fun r hr=>?_,fun W hW _=>⟨⟨b,off,none⟩,rfl,fun j u hj=>?_⟩⟩
  ·obtain ⟨i,hi,rfl⟩:=List.mem_map.1 hr
   have hi':=List.mem_range.1 hi;have he:es[i]?=some (es.getD i zEn):=by rw[List.getD_eq_getElem?_getD,List.getElem?_eq_getElem hi'];rfl
   exact (hc i _ he).2.2.2.2
  ·have hlt:j<es.length * 4:=by
    have:=(List.getElem?_eq_some_iff.1 hj).1;rw[eJ]at this;simpa using this
   have hq:j / 4<es.length:=by omega
   have he:es[j / 4]?=some (es.getD (j / 4) zEn):=by rw[List.getD_eq_getElem?_getD,List.getElem?_eq_getElem hq];rfl
   obtain ⟨c0,c1,c2,c3,-⟩:=hc (j / 4) _ he;have hr:((List.range es.length).map fun i=>(⟨es.getD i zEn,A i,C i⟩:Rw))[j / 4]?=some ⟨es.getD (j / 4) zEn,A (j / 4),C (j / 4)⟩:=by rw[List.getElem?_map,List.getElem?_range hq];rfl
   have hg:=jM _ (j / 4) (j % 4) _ hr (by omega)
   rw[show j / 4 * 4+j % 4=j by omega,hj]at hg
   rw[eU,hW.cell (p:=⟨b,off+j,none⟩) hb,hg];rcases (show j % 4=0∨j % 4=1∨j % 4=2∨j % 4=3 by omega) with h4 | h4 | h4 | h4
   ·rw[h4,show off+j=off+j / 4 * 4 by omega,c0];rfl
   ·rw[h4,show off+j=off+j / 4 * 4+1 by omega,c1];rfl
   ·rw[h4,show off+j=off+j / 4 * 4+2 by omega,c2];rfl
   ·rw[h4,show off+j=off+j / 4 * 4+3 by omega,c3];rfl
theorem zg4 (a:Option Addr) (c n:Nat) (es:List En) (w:World) (h:RdE w a es) (hn:n=es.length) (hl:es.length≤1048576) (h0:0<es.length) :
  Calls Tryz.prog 86 #[.slice a n c] w fun r w'=>∃ rs:List Rw,r=.returned (.slice (some ⟨w.heap.size,0,none⟩) es.length es.length)∧rs.map Rw.e=es∧w'.ownsRow w.heap.size 87 4 (.slice (some ⟨w.heap.size,0,none⟩) es.length es.length) es.length (aZ rs)∧(∀ r∈rs,aO .i64 w r.a r.e.chunks)∧Below w.heap.size w w':=by
 subst hn;obtain ⟨i1,ki,kz0,kz1,kz2⟩:=info_parts Tryz.infoEn;obtain ⟨rs,hrs,hrd,hcl⟩:=zki h;have HC:=aA hcl;have HV1:=aA (jN rs);have HRS:=aA hrs;have HRD:=aA hrd;have hby:i1.bytes * es.length≤281474976710656:=by rw[kz2];omega
 have hml:es.length≤maxLen:=by unfold maxLen;omega
 have HVN:=aA (show (aZ rs).length=es.length * 4 by rw[eJ,←hrs,List.length_map])
 have HD:=aA (show (madeCells (Value.agg #[.string ⟨#[]⟩,.int .i64 0,.int .i64 0,.slice none 0 0]).cells (es.length * 4)).toList.drop (es.length * 4)=[] from zf3 _ _)
 clear h hcl hrs hrd;have HKK:=aA (fun (N:Nat) (hN:N=es.length)=>hN)
 clear HKK;generalize hNN:es.length=N at *;have hne:((N:Int)==0)=false:=by simp;omega
 clear hNN;go_enter Tryz.func86,Tryz.ntmps86;go_wp2_with (first
  | (at_make;refine wpList_make_full _ rfl (.tmp 8) (.tmp 8) 40 rfl w.heap.size 87 i1 (.agg #[.string ⟨#[]⟩,.int .i64 0,.int .i64 0,.slice none 0 0]) 4 Tryz.underlying40 ki kz0 kz1 .i64 .i64 _ _ N rfl rfl (by simp) (by simp) hby hml (Nat.le_refl _) ?_;intro w1 ho1 hg1;have O1:=aA ho1;have B1:=aA (zx2 hg1);clear ho1 hg1)
  | (refine rD rfl (.tmp 10) (.tmp 11) 40 rfl w.heap.size 87 i1 4 Tryz.underlying40 ki kz1 (by decide) w.heap.size N N _ rfl O1.out a N c (aZ rs) rfl (Nat.le_refl _) HVN.out (HC.out w1 B1.out) HV1.out ?_;rw[HD.out,List.append_nil];intro w2 ho2 hk2;have O2:=aA ho2;have B2:=aA (B1.out.trans (hk2.below (B:=w.heap.size) B1.out.size (fun b hb e=>by omega)));clear ho2 hk2))
 go_ret
 exact ⟨rs,rfl,HRS.out,O2.out,HRD.out,B2.out⟩
theorem zh4 (c:Nat) (a:Option Addr) (w:World) :
  Calls Tryz.prog 86 #[.slice a 0 c] w fun r w'=>r=.returned (.slice none 0 0)∧w'=w:=by
 go_enter Tryz.func86,Tryz.ntmps86;go_wp2_with fail
 go_ret
 exact ⟨rfl,rfl⟩
def kZ (B:Nat) (w:World) (g c k:Nat) (es:List En):Prop :=
 ∃ rs:List Rw,rs.map Rw.e=es∧w.ownsRow B 87 4 (.slice (some ⟨g,0,none⟩) es.length c) es.length (aZ rs)∧(∀ r∈rs,aO .i64 w r.a r.e.chunks∧(r.e.chunks≠[]→∀ x,r.a=some x→x.block≠g)) ∧
  ∀ i r,rs[i]?=some r→i<k→w.ownsRow B 2 1 (.slice r.a r.e.chunks.length r.c) r.e.chunks.length (r.e.chunks.map (Value.int .i64))
theorem kZ.below {B:Nat} {w w':World} {g c k:Nat} {es:List En} (h:kZ B w g c k es) (hb:Below w.heap.size w w'):kZ B w' g c k es:=by
 obtain ⟨rs,h1,h2,h3,h4⟩:=h;exact ⟨rs,h1,aG h2 hb,fun r hr=>⟨(h3 r hr).1.below hb,(h3 r hr).2⟩,fun i r hr hi=>aG (h4 i r hr hi) hb⟩
theorem kZ.rd {B:Nat} {w:World} {g c k:Nat} {es:List En} (h:kZ B w g c k es):RdE w (some ⟨g,0,none⟩) es:=by
 obtain ⟨rs,h1,h2,h3,-⟩:=h;exact (show SE B w (.slice (some ⟨g,0,none⟩) es.length c) es from ⟨rs,h1,h2,fun r hr=>(h3 r hr).1⟩).rd
def GW (B:Nat) (w:World) (v:Value) (es:List En):Prop :=
 ∃ rs:List Rw,rs.map Rw.e=es∧w.ownsRow B 87 4 v es.length (aZ rs)∧∀ r∈rs,w.ownsRow B 2 1 (.slice r.a r.e.chunks.length r.c) r.e.chunks.length (r.e.chunks.map (Value.int .i64))
theorem GW.of {B T:Nat} {w:World} {v:Value} {es:List En} (h:GE B T w v es):GW B w v es:=by
 obtain ⟨rs,h1,h2,h3,-⟩:=h;exact ⟨rs,h1,h2,h3⟩
theorem GW.rd {B:Nat} {w:World} {a:Option Addr} {n c:Nat} {es:List En} (h:GW B w (.slice a n c) es):RdE w a es:=by
 obtain ⟨rs,h1,h2,h3⟩:=h;exact (show SE B w (.slice a n c) es from ⟨rs,h1,h2,fun r hr=>cM (h3 r hr) rfl⟩).rd
theorem GW.nil (B:Nat) (w:World):GW B w (.slice none 0 0) []:=⟨[],rfl,World.ownsRow_nil _ _ _ _,fun r hr=>by simp at hr⟩
theorem GW.kept {S:Nat→Prop} {B:Nat} {w w':World} {v:Value} {es:List En} (h:GW B w v es) (hk:aD S w w') (hS:∀ b,B≤b→¬ S b):GW B w' v es:=by
 obtain ⟨rs,h1,h2,h3⟩:=h;exact ⟨rs,h1,aH h2 hk (fun b hb=>hS b (h2.lt b hb).1),fun r hr=>aH (h3 r hr) hk (fun b hb=>hS b ((h3 r hr).lt b hb).1)⟩
theorem GW.below {B:Nat} {w w':World} {v:Value} {es:List En} (h:GW B w v es) (hb:Below w.heap.size w w'):GW B w' v es:=by
 obtain ⟨rs,h1,h2,h3⟩:=h;exact ⟨rs,h1,aG h2 hb,fun r hr=>aG (h3 r hr) hb⟩
theorem GW.mono {B B':Nat} {w:World} {v:Value} {es:List En} (h:GW B w v es) (hb:B'≤B):GW B' w v es:=by
 obtain ⟨rs,h1,h2,h3⟩:=h;exact ⟨rs,h1,aS h2 hb,fun r hr=>aS (h3 r hr) hb⟩
theorem kZ.done {B:Nat} {w:World} {g c k:Nat} {es:List En} (h:kZ B w g c k es) (hk:es.length≤k):GW B w (.slice (some ⟨g,0,none⟩) es.length c) es:=by
 obtain ⟨rs,h1,h2,h3,h4⟩:=h;refine ⟨rs,h1,h2,fun r hr=>?_⟩
 obtain ⟨i,hi,he⟩:=List.getElem_of_mem hr;have hl:rs.length=es.length:=by rw[←h1,List.length_map]
 exact h4 i r (by rw[List.getElem?_eq_getElem hi,he]) (by omega)
theorem zw3 {rs:List Rw} {k:Nat} {r:Rw} (hr:rs[k]?=some r):(aZ rs).set (k * 4) (.string (str r.e.path))=aZ rs:=by
 have g0:=jM rs k 0 r hr (by decide)
 rw[Nat.add_zero]at g0;apply List.ext_getElem?
 intro j;rw[List.getElem?_set];by_cases hj:k * 4=j
 ·subst hj
  have hlt:k * 4<(aZ rs).length:=by have:=(List.getElem?_eq_some_iff.1 hr).1;rw[eJ];omega
  rw[if_pos rfl,if_pos hlt,g0];rfl
 ·rw[if_neg hj]
theorem zbg {rs:List Rw} {k:Nat} {r:Rw} (hr:rs[k]?=some r) (x:Option Addr) (cc:Nat):(aZ rs).set (k * 4+3) (.slice x r.e.chunks.length cc)=aZ (rs.set k ⟨r.e,x,cc⟩):=by
 have hk:=(List.getElem?_eq_some_iff.1 hr).1;rw[←rU rs k ⟨r.e,x,cc⟩ hk,zw3 hr];have g1:=jM rs k 1 r hr (by decide)
 have g2:=jM rs k 2 r hr (by decide)
 have l1:k * 4+1<(aZ rs).length:=by rw[eJ];omega
 have l2:k * 4+2<(aZ rs).length:=by rw[eJ];omega
 have e1:(aZ rs).set (k * 4+1) (.int .i64 r.e.kind)=aZ rs:=by
  apply List.ext_getElem?
  intro j;rw[List.getElem?_set];by_cases hj:k * 4+1=j
  ·subst hj;rw[if_pos rfl,if_pos l1,g1];rfl
  ·rw[if_neg hj]
 have e2:(aZ rs).set (k * 4+2) (.int .i64 r.e.size)=aZ rs:=by
  apply List.ext_getElem?
  intro j;rw[List.getElem?_set];by_cases hj:k * 4+2=j
  ·subst hj;rw[if_pos rfl,if_pos l2,g2];rfl
  ·rw[if_neg hj]
 rw[e1,e2]
theorem kZ.row {B:Nat} {w:World} {g c k K:Nat} {es:List En} {e:En} (h:kZ B w g c K es) (he:es[k]?=some e):∃ rs:List Rw,∃ r:Rw,rs.map Rw.e=es∧rs[k]?=some r∧r.e=e∧w.ownsRow B 87 4 (.slice (some ⟨g,0,none⟩) es.length c) es.length (aZ rs)∧(∀ r∈rs,aO .i64 w r.a r.e.chunks∧(r.e.chunks≠[]→∀ x,r.a=some x→x.block≠g)) ∧
  ∀ i r,rs[i]?=some r→i<K→w.ownsRow B 2 1 (.slice r.a r.e.chunks.length r.c) r.e.chunks.length (r.e.chunks.map (Value.int .i64)):=by
 obtain ⟨rs,h1,h2,h3,h4⟩:=h;have hk:k<es.length:=(List.getElem?_eq_some_iff.1 he).1;have hl:rs.length=es.length:=by rw[←h1,List.length_map]
 obtain ⟨r,hr⟩:∃ r,rs[k]?=some r:=⟨_,List.getElem?_eq_getElem (by omega)⟩
 refine ⟨rs,r,h1,hr,?_,h2,h3,h4⟩;have:(rs.map Rw.e)[k]?=some r.e:=by rw[List.getElem?_map,hr];rfl
 rw[h1,he]at this;exact (Option.some.inj this).symm
theorem kZ.set0 {B:Nat} {w:World} {g c k K:Nat} {es:List En} {e:En} (h:kZ B w g c K es) (he:es[k]?=some e):kZ B (w.setCell ⟨g,k * 4,none⟩ (.string (str e.path))) g c K es:=by
 obtain ⟨rs,r,h1,hr,rfl,h2,h3,h4⟩:=h.row he;have s1:=(h2.stored (k * 4) (.string (str r.e.path))).1;rw[zw3 hr]at s1;have hkp:aD (fun b=>b=g) w (w.setCell ⟨g,k * 4,none⟩ (.string (str r.e.path))):=aD.setCell (S:=fun b=>b=g) (p:=⟨g,k * 4,none⟩) (aD.refl _ _) (fun _=>rfl) _
 exact ⟨rs,h1,s1,fun r0 hr0=>⟨(h3 r0 hr0).1.kept hkp (fun hz y hy hS=>(h3 r0 hr0).2 hz y hy hS),(h3 r0 hr0).2⟩,fun i r0 hr0 hi=>aH (h4 i r0 hr0 hi) hkp (fun b hb hS=>aX h2 (h4 i r0 hr0 hi) (by decide) (by subst hS;rfl) hb)⟩
theorem kZ.set3 {B:Nat} {w:World} {g c k:Nat} {es:List En} {e:En} {x:Option Addr} {cc:Nat} (h:kZ B w g c k es) (he:es[k]?=some e) (hx:w.ownsRow B 2 1 (.slice x e.chunks.length cc) e.chunks.length (e.chunks.map (Value.int .i64))) (hg:e.chunks≠[]→∀ y,x=some y→y.block≠g):kZ B (w.setCell ⟨g,k * 4+3,none⟩ (.slice x e.chunks.length cc)) g c (k+1) es:=by
 obtain ⟨rs,r,h1,hr,rfl,h2,h3,h4⟩:=h.row he;have hk:k<es.length:=(List.getElem?_eq_some_iff.1 he).1;have s1:=(h2.stored (k * 4+3) (.slice x r.e.chunks.length cc)).1;rw[zbg hr]at s1;have hkp:aD (fun b=>b=g) w (w.setCell ⟨g,k * 4+3,none⟩ (.slice x r.e.chunks.length cc)):=aD.setCell (S:=fun b=>b=g) (p:=⟨g,k * 4+3,none⟩) (aD.refl _ _) (fun _=>rfl) _
 have hx2:=aH hx hkp (fun b hb hS=>aX h2 hx (by decide) (by subst hS;rfl) hb)
 refine ⟨rs.set k ⟨r.e,x,cc⟩,?_,s1,fun r0 hr0=>?_,fun i r0 hr0 hi=>?_⟩
 ·rw[List.map_set,h1]
  apply List.ext_getElem?
  intro j;rw[List.getElem?_set];by_cases hj:k=j
  ·subst hj;rw[if_pos rfl,if_pos hk,he]
  ·rw[if_neg hj]
 ·rcases List.mem_or_eq_of_mem_set hr0 with hr1 | rfl
  ·exact ⟨(h3 r0 hr1).1.kept hkp (fun hz y hy hS=>(h3 r0 hr1).2 hz y hy hS),(h3 r0 hr1).2⟩
  ·exact ⟨cM hx2 rfl,hg⟩
 ·rw[List.getElem?_set]at hr0
  by_cases hj:k=i
  ·subst hj
   rw[if_pos rfl]at hr0;split at hr0
   ·cases hr0;exact hx2
   ·cases hr0
  ·rw[if_neg hj]at hr0
   exact aH (h4 i r0 hr0 (by omega)) hkp (fun b hb hS=>aX h2 (h4 i r0 hr0 (by omega)) (by decide) (by subst hS;rfl) hb)
theorem xO (a:Option Addr) (c n:Nat) (es:List En) (w:World) (h:RdE w a es) (hn:n=es.length) (hl:es.length≤1048576) (hs:cG es) :
  Calls Tryz.prog 42 #[.slice a n c] w fun r w'=>∃ av cv,r=.returned (.slice av es.length cv)∧GW w.heap.size w' (.slice av es.length cv) es∧Below w.heap.size w w':=by
 subst hn;have HS:=aA hs;by_cases hz:es=[]
 ·subst hz
  go_enter Tryz.func42,Tryz.ntmps42;go_wp2_with fail
  refine (zh4 _ _ _).mono ?_;rintro r w1 ⟨rfl,rfl⟩;go_wp2_with fail
  go_loopw [10] (fun i wr=>i=.int .i64 0∧wr=w1) (fun _ _=>0)
  case atStart=>exact ⟨rfl,rfl⟩
  case round =>
   obtain ⟨rfl,hw9⟩:=hrel;subst hw9;go_wp2_with fail
   go_ret
   exact ⟨none,0,rfl,GW.nil _ _,Below.refl _ _⟩
 ·have h0:0<es.length:=List.length_pos_iff.2 hz
  have HCR:=aA (zg4 a c es.length es w h rfl hl h0);clear h hz hs;go_enter Tryz.func42,Tryz.ntmps42;go_wp2_with fail
  refine HCR.out.mono ?_;rintro r w1 ⟨rs,rfl,hrs,hO,hrd,hb1⟩;have B1:=aA hb1;have hg1:w.heap.size<w1.heap.size:=(hO.lt w.heap.size rfl).2;have R1:Hid (kZ w.heap.size w1 w.heap.size es.length 0 es):=aA ⟨rs,hrs,hO,fun r hr=>⟨(hrd r hr).below hb1,fun hz y hy=>by
   obtain ⟨b,off,e,hb,-⟩:=hrd r hr hz;rw[e]at hy;cases hy
   show b≠w.heap.size
   omega⟩,fun i r hr hi=>by omega⟩
  clear hrs hO hrd hb1 HCR;go_wp2_with fail
  go_loopw [10] (fun i wr=>∃ k:Nat,k≤es.length∧i=.int .i64 k∧Hid (kZ w.heap.size wr w.heap.size es.length k es)∧Hid (Below w.heap.size w wr)∧w.heap.size<wr.heap.size) (fun i _=>es.length - (intOf i).toNat)
  case atStart=>exact ⟨0,Nat.zero_le _,rfl,R1,B1,hg1⟩
  case round =>
   obtain ⟨k,hk,rfl,HX,HW,hgw⟩:=hrel;by_cases hlt:k<es.length
   ·obtain ⟨b,off,e,x,cc,hbb,hb,he,c0,c1,c2,c3,hr⟩:=HX.out.rd.at hlt
    simp only[Option.some.injEq,Addr.mk.injEq,and_true]at hbb;obtain ⟨rfl,rfl⟩:=hbb;rw[Nat.zero_add]at c0 c1 c2 c3;have hsm:=HS.out e (List.mem_of_getElem? he);have HE:=aA he;have HRC:=aA hr;have hk0:(0:Int)≤(k:Int):=by omega
    have hk1:(k:Int)<(es.length:Int):=by omega
    have fz:∀ i,wr.frozen? ⟨w.heap.size,i,none⟩=false:=fun i=>by obtain ⟨rs,-,h2,-⟩:=HX.out;exact h2.frozenAt _
    have BA:=aA (aC wr (.cells #[.string (str e.path),.int .i64 e.kind,.int .i64 e.size,.slice x e.chunks.length cc] 87));have FE:=aA (dI.new wr (.string (str e.path)) (.int .i64 e.kind) (.int .i64 e.size) (.slice x e.chunks.length cc) 87);have HXB:=aA (show e.chunks≠[]→∀ y,x=some y→y.block≠w.heap.size from by
     obtain ⟨rs,r,q1,q2,q3,q4,q5,-⟩:=HX.out.row he;have hg:=(q4.cellAt (k * 4+3) (by omega)).trans (jM rs k 3 r q2 (by decide))
     rw[c3]at hg;simp only[cA,List.getElem?_cons_succ,List.getElem?_cons_zero,Option.some.injEq,Value.slice.injEq]at hg
     rw[hg.1,←q3];exact (q5 r (List.mem_of_getElem? q2)).2)
    clear he hr;go_wp2_with fail
    have HX1:=aA (HX.out.below BA.out);have hgE:w.heap.size<wr.heap.size:=hgw;generalize hWE:wr.alloc (.cells #[.string (str e.path),.int .i64 e.kind,.int .i64 e.size,.slice x e.chunks.length cc] 87)=WE at *;have hsE:wr.heap.size<WE.heap.size:=FE.out.lt;clear hWE c0 c1 c2 c3 fz;refine (vG (str e.path) _ (by rw[aP];omega)).mono ?_
    rintro r w2 ⟨rfl,hb2⟩;have X2:=aA (HX1.out.below hb2);have FE2:=aA (FE.out.below hb2);have BB2:=aA (aB HW.out (aB BA.out hb2));have HRC2:=aA (HRC.out.below (aB BA.out hb2));have hs2:=hb2.size;have fz2:∀ i,w2.frozen? ⟨w.heap.size,i,none⟩=false:=fun i=>by obtain ⟨rs,-,h2,-⟩:=X2.out;exact h2.frozenAt _
    obtain ⟨b,off,e',x',cc',hbb,hb',he',d0,d1,d2,d3,-⟩:=X2.out.rd.at hlt;simp only[Option.some.injEq,Addr.mk.injEq,and_true]at hbb;obtain ⟨rfl,rfl⟩:=hbb;rw[Nat.zero_add]at d0;have fz0:=fz2 (k * 4);have X3:=aA (X2.out.set0 HE.out);have hne:w.heap.size≠wr.heap.size:=by omega
    have FE3:Hid ((w2.setCell ⟨w.heap.size,k * 4,none⟩ (.string (str e.path))).cell? ⟨wr.heap.size,3,none⟩=some (.slice x e.chunks.length cc)):=aA (qO hne FE2.out.2.2.2);have BB3:=aA (BB2.out.setCell (p:=⟨w.heap.size,k * 4,none⟩) (Nat.le_refl _) (.string (str e.path)));have BS:=aA (show (w2.setCell ⟨w.heap.size,k * 4,none⟩ (.string (str e.path))).heap.size=w2.heap.size by simp[World.setCell])
    have HRC3:Hid (aO .i64 (w2.setCell ⟨w.heap.size,k * 4,none⟩ (.string (str e.path))) x e.chunks):=aA (HRC2.out.kept (aD.setCell (S:=fun b=>b=w.heap.size) (p:=⟨w.heap.size,k * 4,none⟩) (aD.refl _ _) (fun _=>rfl) _) (fun hz y hy hS=>HXB.out hz y hy hS))
    have fe3:=FE3.out;clear hb2 d1 d2 d3 he' fz2;go_wp2_with fail
    clear fe3;generalize w2.setCell ⟨w.heap.size,k * 4,none⟩ (.string (str e.path))=W3 at *;refine (zq1 x cc e.chunks.length e.chunks W3 HRC3.out rfl hsm.2).mono ?_;rintro r w4 ⟨av,cv,rfl,hO4,hb4⟩;have X4:=aA (X3.out.below hb4);have BB4:=aA (aB BB3.out hb4);have O4:=aA hO4;have fz4:w4.frozen? ⟨w.heap.size,k * 4+3,none⟩=false:=by obtain ⟨rs,-,h2,-⟩:=X4.out;exact h2.frozenAt _
    obtain ⟨b,off,e',x',cc',hbb,hb',he',d0,d1,d2,d3,-⟩:=X4.out.rd.at hlt;simp only[Option.some.injEq,Addr.mk.injEq,and_true]at hbb;obtain ⟨rfl,rfl⟩:=hbb;rw[Nat.zero_add]at d3;have hs4:=hb4.size;have hs3:=BS.out;clear hO4 hb4 d0 d1 d2 he';go_wp2_with fail
    go_roundw
    case rel =>
     refine ⟨k+1,by omega,by go_num,aA ?_,aA ?_,?_⟩
     ·exact X4.out.set3 HE.out (aS O4.out (by omega)) (fun _ y hy e=>by
       have:=(O4.out.lt y.block (by rw[hy];rfl)).1
       omega)
     ·exact BB4.out.setCell (p:=⟨w.heap.size,k * 4+3,none⟩) (Nat.le_refl _) _
     ·simp[World.setCell];omega
    case measure=>simp[intOf];omega
   ·have HRD:=aA (HX.out.done (by omega))
    go_wp2_with fail
    go_ret
    exact ⟨some ⟨w.heap.size,0,none⟩,es.length,rfl,HRD.out,HW.out⟩
def eT (q rep:Int) (U:List En) (w:World) (r:Ending) (w':World):Prop :=
 ∃ av cv,r=.returned (.agg #[.int .i64 q,.int .i64 rep,.slice av U.length cv])∧GW w.heap.size w' (.slice av U.length cv) U∧Below w.heap.size w w'
theorem eT.of {q rep:Int} {U:List En} {w w3:World} {B b n:Nat} {av:Option Addr} {cv:Nat} {u0 u1 u2:Value} (hB:b<B) (hw:w.heap.size≤b) (hn:n=U.length) (hG:GW B w3 (.slice av n cv) U) (hb:Below w.heap.size w w3) :
  eT q rep U w (.returned (.agg #[.int .i64 q,.int .i64 rep,.slice av n cv])) (((w3.setCell ⟨b,0,none⟩ u0).setCell ⟨b,1,none⟩ u1).setCell ⟨b,2,none⟩ u2):=by
 subst hn;exact ⟨av,cv,rfl,(hG.kept (aD.three w3 b u0 u1 u2) (fun x hx e=>by omega)).mono (by omega),((hb.setCell (p:=⟨b,0,none⟩) hw _).setCell (p:=⟨b,1,none⟩) hw _).setCell (p:=⟨b,2,none⟩) hw _⟩
end Go.Proofs.YtgaeikgoknoamaaGreat
