/-
  Texts put together: OvrK OvrO MntG MntI.
-/
import Derived.Test.YtgaeikgoknoamaaGreatKKeeps19
import Derived.Test.YtgaeikgoknoamaaGreatKKeeps12
import Derived.Test.YtgaeikgoknoamaaGreatKKeeps10
import Derived.Test.YtgaeikgoknoamaaGreatKKeeps18
import Derived.Test.YtgaeikgoknoamaaGreatKKeeps17
import Derived.Test.YtgaeikgoknoamaaGreatKKeeps7
set_option linter.unusedVariables false
set_option maxHeartbeats 12800000
set_option maxRecDepth 100000
namespace Go.Proofs.YtgaeikgoknoamaaGreat
open Go.RowKit Go.Maps
attribute [local go_sem ↓] Go.wp_at_zero Go.wp_at_succ
theorem zw8 (a:Option Addr) (c n:Nat) (w:World) :
  Calls Tryz.prog 276 #[.slice a n c,.string (str [])] w fun r w'=>r=.returned (.int .i64 0)∧w'=w:=by
 have hs0:((str []).toList == [])=true:=by rw[aN];rfl
 go_enter Tryz.func276,Tryz.ntmps276;go_wp2_with fail
 go_ret
 exact ⟨rfl,rfl⟩
theorem zc6 (a:Option Addr) (c n:Nat) (es:List En) (q:Bs) (w:World) (h:RdE w a es) (hn:n=es.length) (hRi:aV es) (hq:q=[]∨aF q=0) (hql:q.length≤1048576) :
  Calls Tryz.prog 276 #[.slice a n c,.string (str q)] w fun r w'=>r=.returned (.int .i64 (gL es q))∧Below w.heap.size w w':=by
 by_cases h0:q=[]
 ·subst h0
  have e1:gL es []=0:=by simp[gL]
  rw[e1];exact (zw8 a c n w).mono (fun r w' ⟨h1,h2⟩=>⟨h1,by rw[h2];exact Below.refl _ _⟩)
 ·have e1:gL es q=eY es q:=by simp[gL,h0]
  rw[e1];exact zv8 a c n es q w h hn (by have:=hRi.len;omega) hRi (by rcases hq with hq | hq;exact absurd hq h0;exact hq) hql
theorem ztj {es:List En} {q:Bs} {k:Nat} {e:En} (he:es[k]?=some e) (h:aE e.path=q):cO (es.take (k+1)) q=cO (es.take k) q ++ [e]:=by
 rw[mZ he];simp[cO,h]
theorem zjh {es:List En} {q:Bs} {k:Nat} {e:En} (he:es[k]?=some e) (h:aE e.path≠q):cO (es.take (k+1)) q=cO (es.take k) q:=by
 rw[mZ he];simp[cO,h]
structure qN (B:Nat) (w:World) (ov sv:Value) (D:List En):Prop where
 out:cJ B w ov (eF D).2
 seen:cJ B w sv (eF D).1
 apart:∀ g,ov.ownBlock=some g→sv.ownBlock≠some g
theorem qN.below {B:Nat} {w w':World} {ov sv:Value} {D:List En} (h:qN B w ov sv D) (hb:Below w.heap.size w w'):qN B w' ov sv D:=⟨h.out.below hb,h.seen.below hb,h.apart⟩
theorem qN.skip {B:Nat} {w:World} {ov sv:Value} {D:List En} {e:En} (h:qN B w ov sv D) (hm:cP e.path∈(eF D).1):qN B w ov sv (D ++ [e]):=by
 have:eF (D ++ [e])=eF D:=by rw[rV,xL,if_pos hm]
 exact ⟨by rw[this];exact h.out,by rw[this];exact h.seen,h.apart⟩
theorem qN.lens {B:Nat} {w:World} {ov sv:Value} {D:List En} (h:qN B w ov sv D):(eF D).1.length≤D.length∧(eF D).2.length≤D.length:=⟨(wM D).2.2.2.1,(wM D).2.2.2.2⟩
theorem sJ (a:Option Addr) (c n:Nat) (ls:List (List En)) (q:Bs) (w:World) (h:RdL w a ls) (hn:n=ls.length) (h4:ls.length≤4) (hR:∀ es∈ls,aV es) (hq:q=[]∨aF q=0) (hql:q.length≤1048576) :
  Calls Tryz.prog 270 #[.slice a n c,.string (str q)] w fun r w'=>∃ av cv,r=.returned (.slice av (fZ (aY ls) q).length cv)∧cJ w.heap.size w' (.slice av (fZ (aY ls) q).length cv) (fZ (aY ls) q)∧Below w.heap.size w w':=by
 subst hn;obtain ⟨i1,ki,kz0,kz1,kz2⟩:=info_parts rK;have HR:=aA h;have HRi:=aA hR;have HQ:=aA hq;have HNM:=aA (zdb hR h4 q);have HCL:=aA (zb5 (q:=q) hR ls.length (Nat.le_refl _));have hw1:IntKind.i64.wrap ((ls.length:Int) - 1)=(ls.length:Int) - 1:=by simp[IntKind.wrap,IntKind.signed,IntKind.bits];omega
 have B0:=aA (aB (aC w (.cells #[] 9)) (aC (w.alloc (.cells #[] 9)) (.cells #[] 9)));have T0:Hid (qN w.heap.size ((w.alloc (.cells #[] 9)).alloc (.cells #[] 9)) (.slice (some ⟨w.heap.size,0,none⟩) 0 0) (.slice (some ⟨w.heap.size+1,0,none⟩) 0 0) []):=aA ⟨aG (fF w) (aC _ _),by have:=fF (w.alloc (.cells #[] 9));rw[show (w.alloc (.cells #[] 9)).heap.size=w.heap.size+1 by simp]at this;exact aS this (by omega),fun g h1 h2=>by simp[Value.ownBlock]at h1 h2;omega⟩
 clear h hR hq;generalize hDD:fS ls q ls.length=DD at *;have HDD:=aA hDD;clear hDD;go_enter Tryz.func270,Tryz.ntmps270;go_wp2_with fail
 generalize (w.alloc (.cells #[] 9)).alloc (.cells #[] 9)=W0 at *;go_loopw [5,6,7] (fun ov sv i wr=>∃ (k:Nat) (D:List En),k≤ls.length∧i=.int .i64 ((k:Int) - 1)∧Hid (D++fS ls q k=DD)∧Hid (qN w.heap.size wr ov sv D)∧Hid (Below w.heap.size w wr)) (fun _ _ i _=>(intOf i+1).toNat)
 case atStart=>exact ⟨ls.length,[],Nat.le_refl _,rfl,aA (by rw[List.nil_append];exact HDD.out),T0,B0⟩
 case round =>
  obtain ⟨k,D,hk,hi,HD,HT,HW⟩:=hrel;have hcl:=HCL.out;cases k with
  | zero =>
   rw[show ((0:Nat):Int) - 1 = -1 from rfl]at hi
   subst hi;have HE:=aA (show D=DD from by have:=HD.out;simpa [fS] using this)
   obtain ⟨ov,oc,hov⟩:=HT.out.out.shape;have HO:Hid (cJ w.heap.size wr (.slice ov (eF D).2.length oc) (fZ (aY ls) q)):=aA (by have:=HT.out.out;rw[hov]at this;rw[←HNM.out,←HE.out];exact this)
   have HL:=aA (show (eF D).2.length=(fZ (aY ls) q).length by rw[←HNM.out,HE.out])
   subst hov;clear hcl;go_wp2_with fail
   go_ret
   exact ⟨ov,oc,by rw[HL.out];rfl,by rw[←HL.out];exact HO.out,HW.out⟩
  | succ m =>
   rw[show ((m+1:Nat):Int) - 1=(m:Int) from by omega]at hi
   subst hi;have hm0:(0:Int)≤(m:Int):=by omega
   have hm1:(m:Int)<(ls.length:Int):=by omega
   have hm2:IntKind.i64.wrap ((m:Int) - 1)=(m:Int) - 1:=by simp[IntKind.wrap,IntKind.signed,IntKind.bits];omega
   obtain ⟨b,off,es,x,cc,rfl,hb,he,c0,hr⟩:=HR.out.at (k:=m) (by omega)
   have hRi:=HRi.out es (List.mem_of_getElem? he);have hel:=hRi.len;have HX:=aA he;have HRI:=aA hRi;have HSM:=aA (cN hRi);have HHI:=aA (zc6 x cc es.length es q wr (hr.below HW.out) rfl hRi HQ.out hql);have HRE:=aA hr;have KC:Hid (∀ w',Below w.heap.size w w'→w'.cell? ⟨b,off+m,none⟩=some (.slice x es.length cc)):=aA (fun w' hb'=>(hb'.cell (p:=⟨b,off+m,none⟩) hb).trans c0)
   clear he hRi hr c0;have c0:=KC.out _ HW.out;by_cases h2:gL es q=2
   ·rw[h2]at HHI
    have HE:=aA (show D=DD from by have:=HD.out;rw[tC HX.out h2,List.append_nil]at this;exact this)
    obtain ⟨ov,oc,hov⟩:=HT.out.out.shape;have HO:Hid (cJ w.heap.size wr (.slice ov (eF D).2.length oc) (fZ (aY ls) q)):=aA (by have:=HT.out.out;rw[hov]at this;rw[←HNM.out,←HE.out];exact this)
    have HL:=aA (show (eF D).2.length=(fZ (aY ls) q).length by rw[←HNM.out,HE.out])
    subst hov;clear hcl h2;go_wp2_with fail
    refine HHI.out.mono ?_;rintro r w1 ⟨rfl,hb1⟩;have B1:=aA hb1;clear hb1 c0;go_wp2_with fail
    go_ret
    exact ⟨ov,oc,by rw[HL.out];rfl,by rw[←HL.out];exact HO.out.below B1.out,aB HW.out B1.out⟩
   ·have hn2:(gL es q==2)=false:=by simpa using h2
    have HKD:Hid ((D++cO es q).length≤12 * ls.length):=aA (by
     have:=HD.out;by_cases h1:gL es q=1
     ·rw[oA HX.out h1]at this;rw[this];exact hcl
     ·rw[qJ HX.out h2 h1,←List.append_assoc]at this
      have h5:=congrArg List.length this;rw[List.length_append]at h5;omega)
    have HHq:=aA (show (gL es q=1→D++cO es q=DD)∧(gL es q≠1→(D++cO es q)++fS ls q m=DD) from ⟨fun h1=>by have:=HD.out;rw[oA HX.out h1]at this;exact this,fun h1=>by have:=HD.out;rw[qJ HX.out h2 h1,←List.append_assoc]at this;exact this⟩)
    generalize gL es q=HH at *;clear h2 hcl;go_wp2_with fail
    refine HHI.out.mono ?_;rintro r w1 ⟨rfl,hb1⟩;have B1:=aA (aB HW.out hb1);have T1:=aA (HT.out.below hb1);clear hb1 c0 HT HHI HW;go_wp2_with fail
    go_loopw [5,6,9] (fun ov sv i wx=>∃ j:Nat,j≤es.length∧i=.int .i64 j∧Hid (qN w.heap.size wx ov sv (D++cO (es.take j) q))∧Hid (Below w.heap.size w wx)) (fun _ _ i _=>es.length - (intOf i).toNat)
    case atStart=>exact ⟨0,Nat.zero_le _,rfl,aA (by simpa [cO] using T1.out),B1⟩
    case round =>
     obtain ⟨j,hj,rfl,HT,HW⟩:=hrel;have c1:=KC.out _ HW.out;obtain ⟨ov,oc,hov⟩:=HT.out.out.shape;obtain ⟨sv,sc,hsv⟩:=HT.out.seen.shape;subst hov;subst hsv;obtain ⟨LS,hLS⟩:∃ LS,LS=(eF (D++cO (es.take j) q)).1.length:=⟨_,rfl⟩;obtain ⟨LO,hLO⟩:∃ LO,LO=(eF (D++cO (es.take j) q)).2.length:=⟨_,rfl⟩;have hlens:=HT.out.lens;rw[←hLS,←hLO]at HT hlens ⊢;have HLS:=aA hLS;have HLO:=aA hLO;clear hLS hLO;by_cases hlt:j<es.length
     ·obtain ⟨bb,off2,e,xx,c2,hxe,hbb,he,y0,y1,y2,y3,hre⟩:=(HRE.out.below HW.out).at hlt
      subst hxe;have hpf:=bQ (HRI.out.ent e (List.mem_of_getElem? he));have hpos:=tZ hpf;have hsm:=HSM.out e (List.mem_of_getElem? he);have HXe:=aA he;have hj0:(0:Int)≤(j:Int):=by omega
      have hj1:(j:Int)<(es.length:Int):=by omega
      have HP:=aA (show (bJ (bF (str e.path).data.toList.tail)).getLastD []=aE e.path from by rw[bD];rfl)
      have HLA:=aA (show tQ (bF (str e.path).data.toList.tail)=cP e.path from by rw[bD];rfl)
      have BA:=aA (aC wr (.cells #[.string (str e.path),.int .i64 e.kind,.int .i64 e.size,.slice xx e.chunks.length c2] 87));have F0:=aA (dI.new wr (.string (str e.path)) (.int .i64 e.kind) (.int .i64 e.size) (.slice xx e.chunks.length c2) 87);have hkj:(D++cO (es.take j) q).length≤48:=by
       have h5:=HKD.out;have h6:(cO (es.take j) q).length≤(cO es q).length:=((List.take_sublist j es).filter _).length_le;rw[List.length_append]at h5 ⊢;omega
      clear he hre hpf;obtain ⟨t0,t1,t2,t3⟩:=F0.out;go_wp2_with fail
      clear t0 t1 t2 t3 y0 y1 y2 y3 c1;generalize wr.alloc (.cells #[.string (str e.path),.int .i64 e.kind,.int .i64 e.size,.slice xx e.chunks.length c2] 87)=WE at *;refine (zkc _ _ (by rw[aP];omega) (by rw[aP];omega)).mono ?_
      rintro r w2 ⟨rfl,hb2⟩;rw[HLA.out];have F2:=aA (F0.out.below hb2);have BE2:=aA (aB BA.out hb2);clear hb2;have t0:=F2.out.1;go_wp2_with fail
      clear t0;refine (iU _ _ (by rw[aP];omega) (by rw[aP];omega)).mono ?_
      rintro r w3 ⟨rfl,hb3⟩;rw[HP.out];have F3:=aA (F2.out.below hb3);have BE3:=aA (aB BE2.out hb3);have T3:=aA (HT.out.below BE3.out);have B3:=aA (aB HW.out BE3.out);have hwz:=B3.out.size;have k3:=F3.out.2.1;have k0:=F3.out.1;clear hb3 F2 F0;by_cases hqq:aE e.path=q
      ·have hs1:=kN hqq
       have HKI:=aA (show D++cO (es.take (j+1)) q=(D++cO (es.take j) q) ++ [e] from by rw[ztj HXe.out hqq,List.append_assoc])
       clear hqq;have HIN:=aA (zlh sv sc LS (eF (D++cO (es.take j) q)).1 (cP e.path) w3 (T3.out.seen.reads) HLS.out (by rw[←HLS.out];omega))
       by_cases hmm:cP e.path∈(eF (D++cO (es.take j) q)).1
       ·rw[decide_eq_true hmm]at HIN
        have TN:=aA (T3.out.skip hmm);clear hmm;go_wp2_with fail
        refine HIN.out.mono ?_;rintro r w4 ⟨rfl,hw4⟩;have hw5:=hw4.symm;clear hw4;subst hw5;go_wp2_with fail
        go_roundw
        case rel=>exact ⟨j+1,by omega,by go_num,aA (by rw[HKI.out];exact TN.out),B3⟩
        case measure=>simp[intOf];omega
       ·rw[decide_eq_false hmm]at HIN
        have HMM:=aA hmm;clear hmm;have hm3:LS+1≤maxLen:=by unfold maxLen;omega
        have hm4:(LS+1) * 16≤140737488355328:=by omega
        have OS3:Hid (w3.ownsRow w.heap.size 9 1 (.slice sv LS sc) LS ((eF (D++cO (es.take j) q)).1.map vS)):=by have:=T3.out.seen;unfold cJ at this;rw[←HLS.out]at this;exact this
        have HAP:Hid (∀ (W:World),aD (fun b=>(Value.slice sv LS sc).ownBlock=some b) w3 W→W.cell? ⟨wr.heap.size,1,none⟩=some (.int .i64 e.kind)):=aA (fun W hK=>(hK.cell (p:=⟨wr.heap.size,1,none⟩) F3.out.lt (fun hq=>absurd (HT.out.seen.lt _ hq).2 (Nat.lt_irrefl _))).trans F3.out.2.1)
        by_cases h3:e.kind=3
        ·have h3':(e.kind != 3)=false:=by simp[h3]
         have HST:=aA (show eF ((D++cO (es.take j) q) ++ [e])=((eF (D++cO (es.take j) q)).1 ++ [cP e.path],(eF (D++cO (es.take j) q)).2) from by rw[rV,xL,if_neg HMM.out,if_pos h3])
         clear h3;go_wp2_with fail
         refine HIN.out.mono ?_;rintro r w4 ⟨rfl,hw4⟩;have hw5:=hw4.symm;clear hw4;subst hw5;go_wp2_with (at_builtin;refine iP rfl (.tmp 58) (.tmp 60) 25 rfl w.heap.size 9 i1 (.string ⟨#[]⟩) 1 16 Tryz.underlying25 ki kz0 kz1 kz2 rfl (by decide) _ _ _ rfl OS3.out rfl rfl (by intro u hu;simp at hu;subst hu;rfl) hm3 hm4 hwz ?_;intro v' w5 hown5 hkept hat;have O5:=aA (show cJ w.heap.size w5 v' ((eF (D++cO (es.take j) q)).1 ++ [cP e.path]) from cJ.snoc (by rw[←HLS.out];exact hown5) rfl);have K5:=aA hkept;have A5:=aA hat;have k5:=HAP.out _ hkept;clear hown5 hkept hat)
         go_roundw
         case rel =>
          refine ⟨j+1,by omega,by go_num,aA ?_,aA ?_⟩
          ·rw[HKI.out]
           refine ⟨?_,?_,?_⟩
           ·rw[HST.out];exact T3.out.out.kept K5.out (fun g hg=>T3.out.apart g hg)
           ·rw[HST.out];exact O5.out
           ·intro g hg hg2
            rcases A5.out with h8 | ⟨g',h8,h9⟩
            ·rw[h8]at hg2;exact T3.out.apart g hg hg2
            ·rw[h8]at hg2
             have:=(T3.out.out.lt g hg).2;simp at hg2
             omega
          ·exact aD.below_own B3.out hwz OS3.out K5.out
         case measure=>simp[intOf];omega
        ·have h3':(e.kind != 3)=true:=by simp[h3]
         have HST:=aA (show eF ((D++cO (es.take j) q) ++ [e])=((eF (D++cO (es.take j) q)).1 ++ [cP e.path],gC (eF (D++cO (es.take j) q)).2 (cP e.path)) from by rw[rV,xL,if_neg HMM.out,if_neg h3])
         clear h3;have HPUT:Hid (∀ (W:World),aD (fun b=>(Value.slice sv LS sc).ownBlock=some b) w3 W→Calls Tryz.prog 278 #[.slice ov LO oc,.string (str (cP e.path))] W fun r w'=>∃ av cv N,r=.returned (.slice av N cv)∧N=(gC (eF (D++cO (es.take j) q)).2 (cP e.path)).length∧cJ W.heap.size w' (.slice av N cv) (gC (eF (D++cO (es.take j) q)).2 (cP e.path))∧Below W.heap.size W w'):=aA (fun W hK=>(zbf ov oc LO _ (cP e.path) W (T3.out.out.kept hK (fun g hg=>T3.out.apart g hg)) HLO.out (by rw[←HLO.out];omega)).mono (fun r w' ⟨av,cv,h1,h2,h3⟩=>⟨av,cv,_,h1,rfl,h2,h3⟩))
         go_wp2_with fail
         refine HIN.out.mono ?_;rintro r w4 ⟨rfl,hw4⟩;have hw5:=hw4.symm;clear hw4;subst hw5;go_wp2_with (at_builtin;refine iP rfl (.tmp 58) (.tmp 60) 25 rfl w.heap.size 9 i1 (.string ⟨#[]⟩) 1 16 Tryz.underlying25 ki kz0 kz1 kz2 rfl (by decide) _ _ _ rfl OS3.out rfl rfl (by intro u hu;simp at hu;subst hu;rfl) hm3 hm4 hwz ?_;intro v' w5 hown5 hkept hat;have O5:=aA (show cJ w.heap.size w5 v' ((eF (D++cO (es.take j) q)).1 ++ [cP e.path]) from cJ.snoc (by rw[←HLS.out];exact hown5) rfl);have K5:=aA hkept;have A5:=aA hat;have k5:=HAP.out _ hkept;clear hown5 hkept hat)
         refine (HPUT.out w5 K5.out).mono ?_;rintro r w6 ⟨av6,cv6,N6,rfl,hN6,hO6,hb6⟩;have HN6:=aA hN6;have O6:=aA hO6;have B6:=aA hb6;have BW5:=aA (aD.below_own B3.out hwz OS3.out K5.out);have hwz5:=BW5.out.size;clear hN6 hO6 hb6;go_wp2_with fail
         go_roundw
         case rel =>
          refine ⟨j+1,by omega,by go_num,aA ?_,aA ?_⟩
          ·rw[HKI.out]
           refine ⟨?_,?_,?_⟩
           ·rw[HST.out];exact O6.out.mono hwz5
           ·rw[HST.out];exact O5.out.below B6.out
           ·intro g hg hg2
            have h8:=(O6.out.lt g hg).1;have h9:=(O5.out.lt g hg2).2;omega
          ·exact aB BW5.out B6.out
         case measure=>simp[intOf];omega
      ·have hs1:=mE hqq
       have HKI:=aA (show D++cO (es.take (j+1)) q=D++cO (es.take j) q from by rw[zjh HXe.out hqq])
       clear hqq;go_wp2_with fail
       go_roundw
       case rel=>exact ⟨j+1,by omega,by go_num,aA (by rw[HKI.out];exact T3.out),B3⟩
       case measure=>simp[intOf];omega
     ·have hE:es.take j=es:=List.take_of_length_le (by omega)
      rw[hE]at HT HLS HLO;clear hE;by_cases h1:HH=1
      ·have HE:=aA (HHq.out.1 h1)
       have HO:Hid (cJ w.heap.size wr (.slice ov LO oc) (fZ (aY ls) q)):=aA (by have:=HT.out.out;rw[←HNM.out,←HE.out];exact this)
       have HL:=aA (show LO=(fZ (aY ls) q).length by rw[←HNM.out,←HE.out];exact HLO.out)
       subst h1;go_wp2_with fail
       go_ret
       exact ⟨ov,oc,by rw[←HL.out];rfl,by rw[←HL.out];exact HO.out,HW.out⟩
      ·have HE:=aA (HHq.out.2 h1)
       have h1':(HH==1)=false:=by simpa using h1
       clear h1;go_wp2_with fail
       go_roundw
       case rel=>exact ⟨m,D++cO es q,by omega,rfl,HE,HT,HW⟩
       case measure=>simp[intOf]
def znd (w:World) (r:Ending) (w':World):Prop :=
 r=.returned (.tuple #[.agg #[.string ⟨#[]⟩,.int .i64 0,.int .i64 0,.slice none 0 0],.bool false])∧Below w.heap.size w w'
def zw9 (e:En) (w:World) (r:Ending) (w':World):Prop :=
 ∃ x c,r=.returned (.tuple #[.agg #[.string (str e.path),.int .i64 e.kind,.int .i64 e.size,.slice x e.chunks.length c],.bool true])∧w'.ownsRow w.heap.size 2 1 (.slice x e.chunks.length c) e.chunks.length (e.chunks.map (Value.int .i64))∧Below w.heap.size w w'
def iK (w:World) (b:Nat) (u0 u1 u2 u3:Value):Prop:=dI w b u0 u1 u2 u3∧∀ i,w.frozen? ⟨b,i,none⟩=false
theorem iK.new (w:World) (u0 u1 u2 u3:Value) (t:TypeId):iK (w.alloc (.cells #[u0,u1,u2,u3] t)).drew w.heap.size u0 u1 u2 u3 :=
 ⟨(dI.new w u0 u1 u2 u3 t).below (Below.refl _ _).drew,fun i=>((Below.refl (w.alloc (.cells #[u0,u1,u2,u3] t)).heap.size _).drew.frozen (p:=⟨w.heap.size,i,none⟩) (by simp)).trans (by simp)⟩
theorem iK.below {w w':World} {b:Nat} {u0 u1 u2 u3:Value} (h:iK w b u0 u1 u2 u3) (hk:Below w.heap.size w w'):iK w' b u0 u1 u2 u3 :=
 ⟨h.1.below hk,fun i=>(hk.frozen (p:=⟨b,i,none⟩) h.1.lt).trans (h.2 i)⟩
theorem iK.kept {S:Nat→Prop} {w w':World} {b:Nat} {u0 u1 u2 u3:Value} (h:iK w b u0 u1 u2 u3) (hk:aD S w w') (hn:¬ S b):iK w' b u0 u1 u2 u3 :=
 ⟨⟨(hk.cell (p:=⟨b,0,none⟩) h.1.lt hn).trans h.1.1,(hk.cell (p:=⟨b,1,none⟩) h.1.lt hn).trans h.1.2.1,(hk.cell (p:=⟨b,2,none⟩) h.1.lt hn).trans h.1.2.2.1,(hk.cell (p:=⟨b,3,none⟩) h.1.lt hn).trans h.1.2.2.2⟩,fun i=>(hk.frozen (p:=⟨b,i,none⟩) h.1.lt hn).trans (h.2 i)⟩
theorem iK.set1 {w:World} {b:Nat} {u0 u1 u2 u3:Value} (h:iK w b u0 u1 u2 u3) (v:Value):iK (w.setCell ⟨b,1,none⟩ v) b u0 v u2 u3 :=
 ⟨⟨by rw[aR (by simp)];exact h.1.1,dS h.1.2.1,by rw[aR (by simp)];exact h.1.2.2.1,by rw[aR (by simp)];exact h.1.2.2.2⟩,fun i=>by rw[World.frozen?_setCell];exact h.2 i⟩
theorem zx8 (a:Option Addr) (c n:Nat) (ls:List (List En)) (p:Bs) (w:World) (h:RdL w a ls) (hn:n=ls.length) (h4:ls.length≤4) (hR:∀ es∈ls,aV es) (hp:aF p=0) (hpl:p.length≤1048576) (hs:gD ls p=none) :
  Calls Tryz.prog 268 #[.slice a n c,.string (str p)] w (znd w):=by
 subst hn;have X0:=aA (dI.new w (.string ⟨#[]⟩) (.int .i64 0) (.int .i64 0) (.slice none 0 0) 87);have B0:=aA (aC w (.cells #[.string ⟨#[]⟩,.int .i64 0,.int .i64 0,.slice none 0 0] 87));have HPL:=aA (yJ a c ls.length ls p _ (h.below B0.out) rfl h4 hR hp hpl);rw[hs,show cR none = -1 from rfl]at HPL
 have f0:∀ i,(w.alloc (.cells #[.string ⟨#[]⟩,.int .i64 0,.int .i64 0,.slice none 0 0] 87)).frozen? ⟨w.heap.size,i,none⟩=false:=fun i=>by simp
 clear h hR hs;go_enter Tryz.func268,Tryz.ntmps268;go_wp2_with fail
 refine HPL.out.mono ?_;rintro r w1 ⟨rfl,hb1⟩;have B1:=aA (aB B0.out hb1);obtain ⟨t0,t1,t2,t3⟩:=X0.out.below hb1;have g0:=fun i=>(hb1.frozen (p:=⟨w.heap.size,i,none⟩) X0.out.lt).trans (f0 i)
 have g1:=g0 0;have g2:=g0 1;have g3:=g0 2;have g4:=g0 3;clear hb1 g0 f0;go_wp2_with fail
 refine bodyPost_ret (v:=.tuple #[.agg #[.string ⟨#[]⟩,.int .i64 0,.int .i64 0,.slice none 0 0],.bool false]) (by simp[results,Tryz.results268,go_sem,t0,t1,t2,t3]) rfl ⟨rfl,?_⟩
 exact (((B1.out.setCell (p:=⟨w.heap.size,0,none⟩) (Nat.le_refl _) _).setCell (p:=⟨w.heap.size,1,none⟩) (Nat.le_refl _) _).setCell (p:=⟨w.heap.size,2,none⟩) (Nat.le_refl _) _).setCell (p:=⟨w.heap.size,3,none⟩) (Nat.le_refl _) _
theorem zy8 (a:Option Addr) (c n:Nat) (ls:List (List En)) (p:Bs) (w:World) (h:RdL w a ls) (hn:n=ls.length) (h4:ls.length≤4) (hR:∀ es∈ls,aV es) (hp:aF p=0) (hpl:p.length≤1048576) (i:Nat) (e:En) (hs:gD ls p=some i) (he:cY ls i p=some e) :
  Calls Tryz.prog 268 #[.slice a n c,.string (str p)] w (zw9 (asT e) w):=by
 subst hn;obtain ⟨i0,hi0,hz0,hz1,hz2⟩:=info_parts Tryz.infoI64;have X0:=aA (dI.new w (.string ⟨#[]⟩) (.int .i64 0) (.int .i64 0) (.slice none 0 0) 87);have B0:=aA (aC w (.cells #[.string ⟨#[]⟩,.int .i64 0,.int .i64 0,.slice none 0 0] 87));have HPL:=aA (yJ a c ls.length ls p _ (h.below B0.out) rfl h4 hR hp hpl);rw[hs,show cR (some i)=(i:Int) from rfl]at HPL
 have f0:∀ i,(w.alloc (.cells #[.string ⟨#[]⟩,.int .i64 0,.int .i64 0,.slice none 0 0] 87)).frozen? ⟨w.heap.size,i,none⟩=false:=fun i=>by simp
 have hil:i<ls.length:=by
  have:=iV he;unfold cY at he;cases hh:ls[i]? with
  | none=>rw[hh]at he;cases he
  | some y=>exact (List.getElem?_eq_some_iff.1 hh).1
 obtain ⟨b,off,es,x,cc,rfl,hb,hes,c0,hr⟩:=h.at hil;have hRi:=hR es (List.mem_of_getElem? hes);have hel:=hRi.len;have hfe:aK es p=some e:=by rw[←oH hes];exact he
 obtain ⟨q,hq⟩:∃ q,atE es p=some q:=by
  cases ha:atE es p with
  | none=>rw[gV ha]at hfe;cases hfe
  | some q=>exact ⟨q,rfl⟩
 obtain ⟨e',he',hfe'⟩:=lC hq;have:e'=e:=Option.some.inj (hfe'.symm.trans hfe);subst this;have hqlt:=oT hq;obtain ⟨bb,off2,e2,y,yc,rfl,hbb,he2,z0,z1,z2,z3,hrc⟩:=hr.at hqlt;have:e2=e':=Option.some.inj (he2.symm.trans he');subst this;have hsm:=cN hRi e2 (List.mem_of_getElem? he2);have hek:=mV (hRi.ent e2 (List.mem_of_getElem? he2));have KS:Hid (∀ w',Below w.heap.size w w'→w'.cell? ⟨b,off+i,none⟩=some (.slice (some ⟨bb,off2,none⟩) es.length cc)∧w'.cell? ⟨bb,off2+q * 4,none⟩=some (.string (str e2.path))∧w'.cell? ⟨bb,off2+q * 4+1,none⟩=some (.int .i64 e2.kind)∧w'.cell? ⟨bb,off2+q * 4+2,none⟩=some (.int .i64 e2.size)∧w'.cell? ⟨bb,off2+q * 4+3,none⟩=some (.slice y e2.chunks.length yc)):=aA (fun w' hb'=>⟨(hb'.cell (p:=⟨b,off+i,none⟩) hb).trans c0,(hb'.cell (p:=⟨bb,off2+q * 4,none⟩) hbb).trans z0,(hb'.cell (p:=⟨bb,off2+q * 4+1,none⟩) hbb).trans z1,(hb'.cell (p:=⟨bb,off2+q * 4+2,none⟩) hbb).trans z2,(hb'.cell (p:=⟨bb,off2+q * 4+3,none⟩) hbb).trans z3⟩)
 have HAT:Hid (∀ w',Below w.heap.size w w'→Calls Tryz.prog 189 #[.slice (some ⟨bb,off2,none⟩) es.length cc,.string (str p)] w' fun r w2=>r=.returned (.int .i64 q)∧w2=w'):=aA (fun w' hb'=>by have h1:=iI (some ⟨bb,off2,none⟩) cc es.length es p w' (hr.below hb') rfl (by omega);rw[hq]at h1;exact h1)
 have HRC:=aA hrc;have hi1:(0:Int)≤(i:Int):=by omega
 have hi2:(i:Int)<(ls.length:Int):=by omega
 have hi3:¬ (i:Int)<0:=by omega
 have hq1:(0:Int)≤(q:Int):=by omega
 have hq2:(q:Int)<(es.length:Int):=by omega
 clear h hR hs he hes c0 hr hRi hfe hq he' hfe' he2 z0 z1 z2 z3 hrc;go_enter Tryz.func268,Tryz.ntmps268;go_wp2_with fail
 refine HPL.out.mono ?_;rintro r w1 ⟨rfl,hb1⟩;have B1:=aA (aB B0.out hb1);have X1:=aA (X0.out.below hb1);have FZ:=aA (fun i=>(hb1.frozen (p:=⟨w.heap.size,i,none⟩) X0.out.lt).trans (f0 i))
 clear hb1 f0 X0 HPL;obtain ⟨s0,s1,s2,s3,s4⟩:=KS.out _ B1.out;go_wp2_with fail
 go_region_held3 (fun w'=>w'.cell? ⟨b,off+i,none⟩=some (.slice (some ⟨bb,off2,none⟩) es.length cc)∧w'.cell? ⟨bb,off2+q * 4,none⟩=some (.string (str e2.path))∧w'.cell? ⟨bb,off2+q * 4+1,none⟩=some (.int .i64 e2.kind)∧w'.cell? ⟨bb,off2+q * 4+2,none⟩=some (.int .i64 e2.size)∧w'.cell? ⟨bb,off2+q * 4+3,none⟩=some (.slice y e2.chunks.length yc)) (first | exact KS.out _ B1.out.drew | exact KS.out _ (aB B1.out (aC _ _)).drew | exact KS.out _ (aB B1.out (aC _ _)) | go_keep)
  ((go_at_call 189;refine (HAT.out _ (by first | exact B1.out.drew | exact (aB B1.out (aC _ _)).drew)).mono ?_;rintro r w9 ⟨rfl,hw9⟩;have hw8:=hw9.symm;clear hw9;subst hw8))
 all_goals
  have BD:=aA (aB B1.out (aC w1 (.cells #[.string (str e2.path),.int .i64 e2.kind,.int .i64 e2.size,.slice y e2.chunks.length yc] 87))).drew;have BE:=aA ((aC w1 (.cells #[.string (str e2.path),.int .i64 e2.kind,.int .i64 e2.size,.slice y e2.chunks.length yc] 87)).drew);have XE:Hid (iK (w1.alloc (.cells #[.string (str e2.path),.int .i64 e2.kind,.int .i64 e2.size,.slice y e2.chunks.length yc] 87)).drew w1.heap.size (.string (str e2.path)) (.int .i64 e2.kind) (.int .i64 e2.size) (.slice y e2.chunks.length yc)):=aA (iK.new w1 _ _ _ _ _);have XR:Hid (iK (w1.alloc (.cells #[.string (str e2.path),.int .i64 e2.kind,.int .i64 e2.size,.slice y e2.chunks.length yc] 87)).drew w.heap.size (.string ⟨#[]⟩) (.int .i64 0) (.int .i64 0) (.slice none 0 0)):=aA (iK.below (w:=w1) ⟨X1.out,FZ.out⟩ BE.out)
  have hRE:w.heap.size<w1.heap.size:=X1.out.lt;have hEW:w1.heap.size<(w1.alloc (.cells #[.string (str e2.path),.int .i64 e2.kind,.int .i64 e2.size,.slice y e2.chunks.length yc] 87)).drew.heap.size:=XE.out.1.lt;clear X1 FZ s0 s1 s2 s3 s4 KS HAT BE B1 B0;generalize (w1.alloc (.cells #[.string (str e2.path),.int .i64 e2.kind,.int .i64 e2.size,.slice y e2.chunks.length yc] 87)).drew=WD at *;generalize w1.heap.size=be at *;have hne:w.heap.size≠be:=by omega
  have hne2:be≠w.heap.size:=by omega
  have hm0:0+e2.chunks.length≤maxLen:=by unfold maxLen;omega
  have hm0':(0+e2.chunks.length) * 8≤140737488355328:=by omega
  obtain ⟨⟨e0,e1,e3,e4⟩,ez⟩:=XE.out;have ez1:=ez 1;have ez3:=ez 3;clear ez;by_cases h4k:e2.kind=4
  ·have h4':(e2.kind==4)=true:=by simpa using h4k
   have HAS:=aA (show asT e2=⟨e2.path,2,e2.size,e2.chunks⟩ from by unfold asT;rw[if_pos h4k];rfl)
   clear h4k;have XE5:=aA (XE.out.set1 (.int .i64 2));have XR5:=aA (XR.out.kept (aD.setCell (S:=fun b=>b=be) (p:=⟨be,1,none⟩) (aD.refl _ WD) (fun _=>rfl) (.int .i64 2)) hne)
   have BW5:=aA (BD.out.setCell (p:=⟨be,1,none⟩) (by show w.heap.size≤be;omega) (.int .i64 2))
   have hz5:(WD.setCell ⟨be,1,none⟩ (.int .i64 2)).heap.size=WD.heap.size:=by simp[World.setCell]
   have OWN0:Hid (((WD.setCell ⟨be,1,none⟩ (.int .i64 2)).alloc (.cells #[] 2)).ownsRow WD.heap.size 2 1 (.slice (some ⟨WD.heap.size,0,none⟩) 0 0) 0 (([]:List Int).map (Value.int .i64))):=aA (by have h:=World.ownsRow_made (base:=(WD.setCell ⟨be,1,none⟩ (.int .i64 2)).heap.size) (e:=2) (size:=1) (WD.setCell ⟨be,1,none⟩ (.int .i64 2)) #[] 0 (Nat.le_refl _) (Nat.zero_le _) rfl;rw[hz5]at h;exact h)
   have RD0:Hid (aO .i64 ((WD.setCell ⟨be,1,none⟩ (.int .i64 2)).alloc (.cells #[] 2)) y e2.chunks):=aA (HRC.out.below (aB BW5.out (aC _ _)));have XEA:=aA (XE5.out.below (aC (WD.setCell ⟨be,1,none⟩ (.int .i64 2)) (.cells #[] 2)));have XRA:=aA (XR5.out.below (aC (WD.setCell ⟨be,1,none⟩ (.int .i64 2)) (.cells #[] 2)));have hlE:be<WD.heap.size:=XE.out.1.lt;have hlR:w.heap.size<WD.heap.size:=XR.out.1.lt;have KK:Hid (∀ W6:World,aD (fun b=>b=WD.heap.size) ((WD.setCell ⟨be,1,none⟩ (.int .i64 2)).alloc (.cells #[] 2)) W6→iK W6 be (.string (str e2.path)) (.int .i64 2) (.int .i64 e2.size) (.slice y e2.chunks.length yc)∧iK W6 w.heap.size (.string ⟨#[]⟩) (.int .i64 0) (.int .i64 0) (.slice none 0 0)):=aA (fun W6 hk=>⟨XEA.out.kept hk (by omega),XRA.out.kept hk (by omega)⟩)
   clear XEA XRA;go_wp2_with (at_builtin;refine lN rfl (.tmp 30) (.tmp 32) 48 rfl WD.heap.size 2 i0 .i64 8 Tryz.underlying48 hi0 hz0 hz1 hz2 WD.heap.size 0 0 [] rfl OWN0.out y e2.chunks.length yc e2.chunks rfl rfl RD0.out e2.chunks.length (by simp) hm0 hm0' (by simp) ?_;intro av cv w6 hown6 hk6;obtain ⟨⟨⟨p0,p1,p2,p3⟩,pz⟩,⟨⟨r0,r1,r2,r3⟩,rz⟩⟩:=KK.out _ hk6;have pz3:=pz 3;have rz0:=rz 0;have rz1:=rz 1;have rz2:=rz 2;have rz3:=rz 3;have O6:=aA hown6;have K6:=aA hk6;clear pz rz hown6 hk6)
   have BB6:=aA ((aB BW5.out (aC (WD.setCell ⟨be,1,none⟩ (.int .i64 2)) (.cells #[] 2))).trans (K6.out.below (B:=w.heap.size) (by have:=(aB BW5.out (aC (WD.setCell ⟨be,1,none⟩ (.int .i64 2)) (.cells #[] 2))).size;omega) (fun k hk hS=>by omega)))
   rw[HAS.out];refine bodyPost_ret (v:=.tuple #[.agg #[.string (str e2.path),.int .i64 2,.int .i64 e2.size,.slice av e2.chunks.length cv],.bool true]) (by simp[results,Tryz.results268,go_sem,r0,r1,r2,r3]) rfl ⟨av,cv,rfl,?_,?_⟩
   ·refine aS (base:=WD.heap.size) ?_ (by omega)
    refine aH (S:=fun b=>b=be∨b=w.heap.size) (by simpa using O6.out) ?_ (fun b hb hS=>by have:=(O6.out.lt b hb).1;omega)
    exact aD.setCell (S:=fun b=>b=be∨b=w.heap.size) (p:=⟨w.heap.size,3,none⟩) (aD.setCell (S:=fun b=>b=be∨b=w.heap.size) (p:=⟨w.heap.size,2,none⟩) (aD.setCell (S:=fun b=>b=be∨b=w.heap.size) (p:=⟨w.heap.size,1,none⟩) (aD.setCell (S:=fun b=>b=be∨b=w.heap.size) (p:=⟨w.heap.size,0,none⟩) (aD.setCell (S:=fun b=>b=be∨b=w.heap.size) (p:=⟨be,3,none⟩) (aD.refl _ _) (fun _=>.inl rfl) _) (fun _=>.inr rfl) _) (fun _=>.inr rfl) _) (fun _=>.inr rfl) _) (fun _=>.inr rfl) _
   ·exact ((((BB6.out.setCell (p:=⟨be,3,none⟩) (by show w.heap.size≤be;omega) _).setCell (p:=⟨w.heap.size,0,none⟩) (Nat.le_refl _) _).setCell (p:=⟨w.heap.size,1,none⟩) (Nat.le_refl _) _).setCell (p:=⟨w.heap.size,2,none⟩) (Nat.le_refl _) _).setCell (p:=⟨w.heap.size,3,none⟩) (Nat.le_refl _) _
  ·have h4':(e2.kind==4)=false:=by simpa using h4k
   have HAS:=aA (show asT e2=⟨e2.path,e2.kind,e2.size,e2.chunks⟩ from by unfold asT;rw[if_neg h4k])
   clear h4k;have XE5:=XE;have XR5:=XR;have BW5:=BD;have OWN0:Hid ((WD.alloc (.cells #[] 2)).ownsRow WD.heap.size 2 1 (.slice (some ⟨WD.heap.size,0,none⟩) 0 0) 0 (([]:List Int).map (Value.int .i64))):=aA (World.ownsRow_made (base:=WD.heap.size) (e:=2) (size:=1) WD #[] 0 (Nat.le_refl _) (Nat.zero_le _) rfl);have RD0:Hid (aO .i64 (WD.alloc (.cells #[] 2)) y e2.chunks):=aA (HRC.out.below (aB BW5.out (aC _ _)));have XEA:=aA (XE5.out.below (aC WD (.cells #[] 2)));have XRA:=aA (XR5.out.below (aC WD (.cells #[] 2)));have hlE:=XE5.out.1.lt;have hlR:=XR5.out.1.lt
   have KK:Hid (∀ W6:World,aD (fun b=>b=WD.heap.size) (WD.alloc (.cells #[] 2)) W6→iK W6 be (.string (str e2.path)) (.int .i64 e2.kind) (.int .i64 e2.size) (.slice y e2.chunks.length yc)∧iK W6 w.heap.size (.string ⟨#[]⟩) (.int .i64 0) (.int .i64 0) (.slice none 0 0)):=aA (fun W6 hk=>⟨XEA.out.kept hk (by omega),XRA.out.kept hk (by omega)⟩)
   clear XEA XRA;go_wp2_with (at_builtin;refine lN rfl (.tmp 30) (.tmp 32) 48 rfl WD.heap.size 2 i0 .i64 8 Tryz.underlying48 hi0 hz0 hz1 hz2 WD.heap.size 0 0 [] rfl OWN0.out y e2.chunks.length yc e2.chunks rfl rfl RD0.out e2.chunks.length (by simp) hm0 hm0' (by simp) ?_;intro av cv w6 hown6 hk6;obtain ⟨⟨⟨p0,p1,p2,p3⟩,pz⟩,⟨⟨r0,r1,r2,r3⟩,rz⟩⟩:=KK.out _ hk6;have pz3:=pz 3;have rz0:=rz 0;have rz1:=rz 1;have rz2:=rz 2;have rz3:=rz 3;have O6:=aA hown6;have K6:=aA hk6;clear pz rz hown6 hk6)
   have BB6:=aA ((aB BW5.out (aC WD (.cells #[] 2))).trans (K6.out.below (B:=w.heap.size) (by have:=(aB BW5.out (aC WD (.cells #[] 2))).size;omega) (fun k hk hS=>by omega)))
   rw[HAS.out];refine bodyPost_ret (v:=.tuple #[.agg #[.string (str e2.path),.int .i64 e2.kind,.int .i64 e2.size,.slice av e2.chunks.length cv],.bool true]) (by simp[results,Tryz.results268,go_sem,r0,r1,r2,r3]) rfl ⟨av,cv,rfl,?_,?_⟩
   ·refine aS (base:=WD.heap.size) ?_ (by omega)
    refine aH (S:=fun b=>b=be∨b=w.heap.size) (by simpa using O6.out) ?_ (fun b hb hS=>by have:=(O6.out.lt b hb).1;omega)
    exact aD.setCell (S:=fun b=>b=be∨b=w.heap.size) (p:=⟨w.heap.size,3,none⟩) (aD.setCell (S:=fun b=>b=be∨b=w.heap.size) (p:=⟨w.heap.size,2,none⟩) (aD.setCell (S:=fun b=>b=be∨b=w.heap.size) (p:=⟨w.heap.size,1,none⟩) (aD.setCell (S:=fun b=>b=be∨b=w.heap.size) (p:=⟨w.heap.size,0,none⟩) (aD.setCell (S:=fun b=>b=be∨b=w.heap.size) (p:=⟨be,3,none⟩) (aD.refl _ _) (fun _=>.inl rfl) _) (fun _=>.inr rfl) _) (fun _=>.inr rfl) _) (fun _=>.inr rfl) _) (fun _=>.inr rfl) _
   ·exact ((((BB6.out.setCell (p:=⟨be,3,none⟩) (by show w.heap.size≤be;omega) _).setCell (p:=⟨w.heap.size,0,none⟩) (Nat.le_refl _) _).setCell (p:=⟨w.heap.size,1,none⟩) (Nat.le_refl _) _).setCell (p:=⟨w.heap.size,2,none⟩) (Nat.le_refl _) _).setCell (p:=⟨w.heap.size,3,none⟩) (Nat.le_refl _) _
def cK (o:List En) (u:Bs):List En:=if aK o u=none then dC o (gU u) else o
def gQ (U:List En) (e:En):List En:=dC ((bL e.path).foldl cK U) e
theorem zed {es:List En} {e:En} (h:cG es) (hp:e.path.length≤1048576) (hc:e.chunks.length≤1048576):cG (dC es e):=fun x hx=>by
 rcases jJ.1 hx with rfl | ⟨hx,-⟩
 ·exact ⟨hp,hc⟩
 ·exact h x hx
theorem zti (o:List En) (u:Bs):(cK o u).length≤o.length+1:=by
 unfold cK;split
 ·rw[zb7];have:=vE o (gU u);omega
 ·omega
theorem zgd {o:List En} {u:Bs} (h:cG o) (hu:u.length≤1048576):cG (cK o u):=by
 unfold cK;split
 ·exact zed h hu (by simp[gU])
 ·exact h
theorem zbh (o:List En):∀ us:List Bs,(us.foldl cK o).length≤o.length+us.length:=by
 intro us
 induction us generalizing o with
 | nil=>simp
 | cons u us ih=>have h1:=ih (cK o u);have h2:=zti o u;simp only[List.foldl_cons,List.length_cons];omega
theorem zpj {o:List En} {us:List Bs} {k:Nat} {u:Bs} (h:us[k]?=some u):(us.take (k+1)).foldl cK o=cK ((us.take k).foldl cK o) u:=by rw[mZ h,List.foldl_append];rfl
theorem kH (o:Option Addr) (oc on:Nat) (O:List En) (a:Option Addr) (c n:Nat) (U:List En) (e:En) (x:Option Addr) (m cc:Nat) (w:World) (hO:RdE w o O) (hon:on=O.length) (hOl:O.length≤1000) (hOs:cG O) (h:RdE w a U) (hn:n=U.length) (hl:U.length≤1000) (hs:cG U) (hp:aF e.path=0) (hm:m=e.chunks.length) (hx:aO .i64 w x e.chunks) (hpl:e.path.length≤1048576) (hcl:e.chunks.length≤1048576)
  (rep:Int) (V:List En) (hV:(12<(gQ U e).length→rep=2∧V=O)∧(¬ 12<(gQ U e).length→rep=0∧V=gQ U e)) :
  Calls Tryz.prog 269 #[.slice o on oc,.slice a n c,.agg #[.string (str e.path),.int .i64 e.kind,.int .i64 e.size,.slice x m cc]] w (eT 0 rep V w):=by
 subst hn;subst hm;subst hon;have hsz:=aP e.path;have h1:1≤(str e.path).size:=pT (by rw[bD];exact hp)
 have HAB:=aA (show bJ (bF (str e.path).data.toList.tail)=bL e.path from by rw[bD,eP hp])
 have hul:=rG e.path;have HUS:=aA (fun u (hu:u∈bL e.path)=>xX hp u hu)
 have B0:=aA (aB (aC w (.cells #[.string (str e.path),.int .i64 e.kind,.int .i64 e.size,.slice x e.chunks.length cc] 87)) (aC (w.alloc (.cells #[.string (str e.path),.int .i64 e.kind,.int .i64 e.size,.slice x e.chunks.length cc] 87)) (.cells #[.int .i64 0,.int .i64 0,.slice none 0 0] 267)));have FE0:=aA ((dI.new w (.string (str e.path)) (.int .i64 e.kind) (.int .i64 e.size) (.slice x e.chunks.length cc) 87).below (aC (w.alloc (.cells #[.string (str e.path),.int .i64 e.kind,.int .i64 e.size,.slice x e.chunks.length cc] 87)) (.cells #[.int .i64 0,.int .i64 0,.slice none 0 0] 267)))
 have X0:=aA (fB.new (w.alloc (.cells #[.string (str e.path),.int .i64 e.kind,.int .i64 e.size,.slice x e.chunks.length cc] 87)) (.int .i64 0) (.int .i64 0) (.slice none 0 0) 267);have hsA:(w.alloc (.cells #[.string (str e.path),.int .i64 e.kind,.int .i64 e.size,.slice x e.chunks.length cc] 87)).heap.size=w.heap.size+1:=by simp
 rw[hsA]at X0;have HC:=aA (iN a c U.length U _ (h.below B0.out) rfl (by omega) hs)
 have HRO:=aA hO;have HOS:=aA hOs;have HX:=aA hx;have HS:=aA hs;have HFS:=aA (show gQ U e=dC ((bL e.path).foldl cK U) e from rfl)
 have HV:=aA hV;clear hO hOs h hs hx hsA hV hp;generalize bL e.path=ups at *;generalize gQ U e=FS at *;go_enter Tryz.func269,Tryz.ntmps269;go_wp2_with fail
 generalize hW0:(w.alloc (.cells #[.string (str e.path),.int .i64 e.kind,.int .i64 e.size,.slice x e.chunks.length cc] 87)).alloc (.cells #[.int .i64 0,.int .i64 0,.slice none 0 0] 267)=W0 at *;have hs0:W0.heap.size=w.heap.size+2:=by rw[←hW0];simp
 clear hW0;have hlt0:=X0.out.lt;refine HC.out.mono ?_;rintro r w1 ⟨g1,cv1,rfl,-,hG1,hb1⟩;have G1:=aA (GW.of hG1);have hs1:=hb1.size;have B1:=aA (aB B0.out hb1);have FE1:=aA (FE0.out.below hb1);have X1:=aA (X0.out.below hb1);clear hG1 hb1 HC FE0 X0;have f0:=FE1.out.1;go_wp2_with fail
 clear f0;refine (oL (str e.path) _ h1 (by omega)).mono ?_
 rintro r w2 ⟨v,rfl,ho2,hb2⟩;rw[HAB.out]at ho2;obtain ⟨uv,uc,rfl⟩:=aQ ho2;have RU:=aA (cJ.reads ho2);have G2:=aA ((G1.out.below hb2).mono (B':=w.heap.size+2) (by omega))
 have hs2:=hb2.size;have B2:=aA (aB B1.out hb2);have FE2:=aA (FE1.out.below hb2);have X2:=aA (X1.out.below hb2);clear ho2 hb2 G1 FE1 X1 B1 HAB;go_wp2_with fail
 go_loopw [7,9] (fun v i wr=>∃ (k:Nat) (av:Option Addr) (cv:Nat),k≤ups.length∧i=.int .i64 k∧v=.slice av ((ups.take k).foldl cK U).length cv∧Hid (GW (w.heap.size+2) wr (.slice av ((ups.take k).foldl cK U).length cv) ((ups.take k).foldl cK U))∧Hid (cG ((ups.take k).foldl cK U))∧Hid (Below w2.heap.size w2 wr)) (fun _ i _=>ups.length - (intOf i).toNat)
 case atStart=>exact ⟨0,some ⟨g1,0,none⟩,cv1,Nat.zero_le _,rfl,rfl,G2,HS,aA (Below.refl _ _)⟩
 case round =>
  obtain ⟨k,av,cv,hk,rfl,rfl,HGk,HSk,HW⟩:=hrel;have hkl:=zbh U (ups.take k);have htk:(ups.take k).length≤2:=by rw[List.length_take];omega
  have hws:=HW.out.size;by_cases hlt:k<ups.length
  ·obtain ⟨b,off,u,rfl,hb,hu,c0⟩:=(RU.out.below HW.out).at hlt
   have HFA:=aA (zpj (o:=U) hu);have hus:=HUS.out u (List.mem_of_getElem? hu);have hk0:(0:Int)≤(k:Int):=by omega
   have hk1:(k:Int)<(ups.length:Int):=by omega
   clear hu;obtain ⟨LF,hLF⟩:∃ LF,LF=(ups.take k).foldl cK U:=⟨_,rfl⟩;rw[←hLF]at HFA HGk HSk hkl ⊢;clear hLF;have HAT:=aA (iI av cv LF.length LF u wr HGk.out.rd rfl (by omega))
   cases ha:atE LF u with
   | none =>
    have HST:=aA (show cK LF u=dC LF (gU u) from by rw[cK,if_pos (gV ha)])
    have HPU:=aA (pC av cv LF.length LF (gU u) none 0 0 wr HGk.out.rd rfl (by omega) HSk.out rfl (fun hz=>absurd rfl hz) (by show u.length≤1048576;omega) (by simp[gU]))
    have HSN:=aA (zgd HSk.out (show u.length≤1048576 by omega))
    rw[ha,show cR none = -1 from rfl]at HAT
    clear ha;go_wp2_with fail
    refine HAT.out.mono ?_;rintro r w3 ⟨rfl,hw3⟩;have hw4:=hw3.symm;clear hw3;subst hw4;go_wp2_with fail
    refine HPU.out.mono ?_;rintro r w5 ⟨g5,cv5,rfl,hG5,hb5⟩;have G5:=aA ((GW.of hG5).mono (B':=w.heap.size+2) (by omega))
    have B5:=aA (aB HW.out hb5);clear hG5 hb5 HAT HPU;go_wp2_with fail
    go_roundw
    case rel =>
     refine ⟨k+1,some ⟨g5,0,none⟩,cv5,by omega,by go_num,?_,?_,?_,B5⟩
     ·rw[HFA.out,HST.out]
     ·rw[HFA.out,HST.out];exact G5
     ·rw[HFA.out];exact HSN
    case measure=>simp[intOf];omega
   | some q =>
    obtain ⟨e2,-,hf2⟩:=lC ha;have HST:=aA (show cK LF u=LF from by rw[cK,if_neg (by rw[hf2];simp)])
    rw[ha,show cR (some q)=(q:Int) from rfl]at HAT
    have hq0:¬ (q:Int)<0:=by omega
    clear ha hf2;go_wp2_with fail
    refine HAT.out.mono ?_;rintro r w3 ⟨rfl,hw3⟩;have hw4:=hw3.symm;clear hw3;subst hw4;go_wp2_with fail
    go_roundw
    case rel =>
     refine ⟨k+1,av,cv,by omega,by go_num,?_,?_,?_,HW⟩
     ·rw[HFA.out,HST.out]
     ·rw[HFA.out,HST.out];exact HGk
     ·rw[HFA.out,HST.out];exact HSk
    case measure=>simp[intOf];omega
  ·have hE:ups.take k=ups:=List.take_of_length_le (by omega)
   rw[hE]at HGk HSk hkl ⊢;clear hE;obtain ⟨LF,hLF⟩:∃ LF,LF=ups.foldl cK U:=⟨_,rfl⟩;rw[←hLF]at HGk HSk hkl HFS ⊢;clear hLF;have BWr:=aA (aB B2.out HW.out);have hbe:=B2.out.size;have HPU:=aA (pC av cv LF.length LF e x e.chunks.length cc wr HGk.out.rd rfl (by omega) HSk.out rfl (HX.out.below BWr.out) hpl hcl)
   rw[←HFS.out]at HPU;obtain ⟨f0,f1,f2,f3⟩:=FE2.out.below HW.out;go_wp2_with fail
   clear f0 f1 f2 f3;refine HPU.out.mono ?_;rintro r w5 ⟨g5,cv5,rfl,hG5,hb5⟩;have G5:=aA ((GW.of hG5).mono (B':=w.heap.size+2) (by omega))
   have B5:=aA (aB BWr.out hb5);have X5:=aA (X2.out.below (aB HW.out hb5));have hs5:=hb5.size;clear hG5 hb5 HPU;by_cases h12:12<FS.length
   ·obtain ⟨e1,e2⟩:=HV.out.1 h12
    have HE1:=aA e1;have HE2:=aA e2;have h12':(12:Int)<(FS.length:Int):=by omega
    have HRP:=aA (oM o oc O.length O 2 w5 (HRO.out.below B5.out) rfl (by omega) HOS.out)
    clear e1 e2 h12;go_wp2_with fail
    refine HRP.out.mono ?_;rintro r w6 ⟨av6,cv6,rfl,hG6,hb6⟩;have G6:=aA hG6;have B6:=aA (aB B5.out hb6);have hl5:=X5.out.lt;obtain ⟨⟨t0,t1,t2⟩,t3,t4,t5⟩:=X5.out.below hb6;clear hG6 hb6;go_wp2_with fail
    exact bodyPost_ret (v:=.agg #[.int .i64 0,.int .i64 2,.slice av6 O.length cv6]) (by simp[results,Tryz.results269,go_sem,t0,t1,t2]) rfl (by rw[HE1.out,HE2.out];exact eT.of hl5 (by omega) rfl G6.out B6.out)
   ·obtain ⟨e1,e2⟩:=HV.out.2 h12
    have HE1:=aA e1;have HE2:=aA e2;have h12':¬ (12:Int)<(FS.length:Int):=by omega
    have hl5:=X5.out.lt;obtain ⟨⟨t0,t1,t2⟩,t3,t4,t5⟩:=X5.out;clear e1 e2 h12;go_wp2_with fail
    exact bodyPost_ret (v:=.agg #[.int .i64 0,.int .i64 0,.slice (some ⟨g5,0,none⟩) FS.length cv5]) (by simp[results,Tryz.results269,go_sem,t0,t1,t2]) rfl (by rw[HE1.out,HE2.out];exact eT.of (B:=w.heap.size+2) (by omega) (by omega) rfl G5.out B5.out)
theorem uC {a b:Int} (h:a=b):Ending.returned (.int .i64 a)=.returned (.int .i64 b):=by rw[h]
theorem zoi {ls:List (List En)} {p:Bs} (h4:ls.length≤4) (hR:∀ es∈ls,aV es) (hp:aF p=0) (h:aK (aY ls) p=none):gD ls p=none:=by
 rw[nX (jF hR) h4 hp,uH]at h;cases hs:gD ls p with
 | none=>rfl
 | some i =>
  obtain ⟨-,e,he,-⟩:=jY (show dN (cY ls) p 4=some i from hs)
  rw[hs]at h;simp[he]at h
theorem zpi {ls:List (List En)} {p:Bs} {e:En} (h4:ls.length≤4) (hR:∀ es∈ls,aV es) (hp:aF p=0) (h:aK (aY ls) p=some e):∃ i f,gD ls p=some i∧cY ls i p=some f∧asT f=e:=by
 rw[nX (jF hR) h4 hp,uH]at h;cases hs:gD ls p with
 | none=>rw[hs]at h;cases h
 | some i =>
  obtain ⟨-,f,hf,-⟩:=jY (show dN (cY ls) p 4=some i from hs)
  rw[hs]at h;simp[hf]at h
  exact ⟨i,f,rfl,hf,h⟩
theorem jV (a:Option Addr) (c n:Nat) (ls:List (List En)) (p:Bs) (w:World) (h:RdL w a ls) (hn:n=ls.length) (h4:ls.length≤4) (hR:∀ es∈ls,aV es) (hp:aF p=0) (hpl:p.length≤1048576) (hs:aK (aY ls) p=none) :
  Calls Tryz.prog 268 #[.slice a n c,.string (str p)] w (znd w):=zx8 a c n ls p w h hn h4 hR hp hpl (zoi h4 hR hp hs)
theorem fY (a:Option Addr) (c n:Nat) (ls:List (List En)) (p:Bs) (w:World) (h:RdL w a ls) (hn:n=ls.length) (h4:ls.length≤4) (hR:∀ es∈ls,aV es) (hp:aF p=0) (hpl:p.length≤1048576) (e:En) (hs:aK (aY ls) p=some e) :
  Calls Tryz.prog 268 #[.slice a n c,.string (str p)] w (zw9 e w):=by
 obtain ⟨i,f,h1,h2,h3⟩:=zpi h4 hR hp hs;have:=zy8 a c n ls p w h hn h4 hR hp hpl i f h1 h2;rwa [h3]at this
theorem iO (a:Option Addr) (c n:Nat) (ls:List (List En)) (p:Bs) (w:World) (h:RdL w a ls) (hn:n=ls.length) (h4:ls.length≤4) (hR:∀ es∈ls,aV es) (hp:aF p=0) (hpl:p.length≤1048576) :
  Calls Tryz.prog 266 #[.slice a n c,.string (str p)] w fun r w'=>r=.returned (.int .i64 (eH (aY ls) p))∧Below w.heap.size w w':=by
 subst hn;have hsz:=aP p;have h1:1≤(str p).size:=pT (by rw[bD];exact hp)
 have HP:=aA (show (bJ (bF (str p).data.toList.tail)).getLastD []=aE p from by rw[bD];rfl)
 by_cases hq:aE p=[]
 ·have HE:=aA (vM (es:=aY ls) hq)
  have hs:=(rY (aE p)).trans (decide_eq_true hq);clear hq h hR;generalize eH (aY ls) p=HC at *;go_enter Tryz.func266,Tryz.ntmps266;go_wp2_with fail
  refine (iU _ _ (by omega) (by omega)).mono ?_
  rintro r w1 ⟨rfl,hb⟩;rw[HP.out];have HB:=aA hb;clear hb;go_wp2_with fail
  go_ret
  exact ⟨uC HE.out.symm,HB.out⟩
 ·have hs:=(rY (aE p)).trans (decide_eq_false hq)
  obtain ⟨hqp,hqb⟩:=eD hp hq;have hql:(aE p).length≤1048576:=by have:=eV hqb;omega
  cases ha:aK (aY ls) (aE p) with
  | none =>
   have HE:=aA (zk0 hq ha);have HLK:=aA (fun u (hu:Below w.heap.size w u)=>jV a c ls.length ls (aE p) u (h.below hu) rfl h4 hR hqp hql ha)
   clear hq ha h hR hqp hqb;generalize eH (aY ls) p=HC at *;generalize aE p=PT at *;go_enter Tryz.func266,Tryz.ntmps266;go_wp2_with fail
   refine (iU _ _ (by omega) (by omega)).mono ?_
   rintro r w1 ⟨rfl,hb⟩;rw[HP.out];have HB:=aA hb;clear hb;go_wp2_with fail
   refine (HLK.out w1 HB.out).mono ?_;rintro r w2 ⟨rfl,hb2⟩;have B2:=aA (aB HB.out (aB hb2 (aC w2 (.cells #[.string ⟨#[]⟩,.int .i64 0,.int .i64 0,.slice none 0 0] 87))));clear hb2;go_wp2_with fail
   go_ret
   exact ⟨uC HE.out.symm,B2.out⟩
  | some e =>
   have HE:Hid (eH (aY ls) p=if e.kind=1 then 9 else 0):=aA (by simp[eH,hq,ha])
   have HLK:=aA (fun u (hu:Below w.heap.size w u)=>fY a c ls.length ls (aE p) u (h.below hu) rfl h4 hR hqp hql e ha)
   clear hq ha h hR hqp hqb;generalize eH (aY ls) p=HC at *;generalize aE p=PT at *;have HD:=aA (Decidable.em (e.kind=1));go_enter Tryz.func266,Tryz.ntmps266;go_wp2_with fail
   refine (iU _ _ (by omega) (by omega)).mono ?_
   rintro r w1 ⟨rfl,hb⟩;rw[HP.out];have HB:=aA hb;clear hb;go_wp2_with fail
   refine (HLK.out w1 HB.out).mono ?_;rintro r w2 ⟨x,xc,rfl,-,hb2⟩;have B2:=aA (aB HB.out (aB hb2 (aC w2 (.cells #[.string (str e.path),.int .i64 e.kind,.int .i64 e.size,.slice x e.chunks.length xc] 87))));obtain ⟨f0,f1,f2,f3⟩:=dI.new w2 (.string (str e.path)) (.int .i64 e.kind) (.int .i64 e.size) (.slice x e.chunks.length xc) 87;clear hb2;by_cases hk:e.kind=1
   ·have HE2:=aA (show HC=9 by rw[HE.out,if_pos hk])
    have hk2:(e.kind==1)=true:=by simpa using hk
    clear hk;go_wp2_with fail
    go_ret
    exact ⟨uC HE2.out.symm,B2.out⟩
   ·have HE2:=aA (show HC=0 by rw[HE.out,if_neg hk])
    have hk2:(e.kind==1)=false:=by simpa using hk
    clear hk;go_wp2_with fail
    go_ret
    exact ⟨uC HE2.out.symm,B2.out⟩
end Go.Proofs.YtgaeikgoknoamaaGreat
