/-
  Texts put together: KepD SnqU LazJ LazX KepF.
-/
import Derived.Test.YtgaeikgoknoamaaGreatKKeeps29
import Derived.Test.YtgaeikgoknoamaaGreatKKeeps28
import Derived.Test.YtgaeikgoknoamaaGreatKKeeps26
import Derived.Test.YtgaeikgoknoamaaGreatKKeeps14
import Derived.Test.YtgaeikgoknoamaaGreatKKeeps23
import Derived.Test.YtgaeikgoknoamaaGreatKKeeps27
import Derived.Test.YtgaeikgoknoamaaGreatKKeeps11
import Derived.Test.YtgaeikgoknoamaaGreatKKeeps20
import Derived.Test.YtgaeikgoknoamaaGreatKKeeps17
import Derived.Test.YtgaeikgoknoamaaGreatKKeeps10
import Derived.Test.YtgaeikgoknoamaaGreatKKeeps24
import Derived.Deep.CutBlock
import Derived.Deep.CutRange
import Derived.Laws.BytesArg
set_option linter.unusedVariables false
set_option maxHeartbeats 3200000
set_option maxRecDepth 100000
namespace Go.Proofs.YtgaeikgoknoamaaGreat
open Go.RowKit Go.Maps
attribute [local go_sem ↓] Go.wp_at_zero Go.wp_at_succ
def pW (l:List Sn) (D:Nat→Int) (P:Nat→List Int) (n:Nat):Int:=if snF l=0 then fC D P n else snF l
def zq0 (l:List Sn) (D:Nat→Int) (P:Nat→List Int) (n:Nat):Int:=if snM l=0 then fC D P n else snM l
theorem zr0 {l:List Sn} (h:zX l) (D:Nat→Int) (P:Nat→List Int) (n:Nat):zq0 l D P n=pW l D P n:=by
 unfold zq0 pW;rw[zm7 h]
theorem zfc {l:List Sn} {D:Nat→Int} {P:Nat→List Int} {n:Nat}:pW l D P n=0↔bH l∧cF D P n:=by
 unfold pW;by_cases h:snF l=0
 ·rw[if_pos h]
  exact ⟨fun h1=>⟨oI.1 h,pU h1⟩,fun h1=>jI h1.2⟩
 ·rw[if_neg h]
  exact ⟨fun h1=>absurd h1 h,fun h1=>absurd (oI.2 h1.1) h⟩
theorem zp1 (Z:List Int) (dv:Option Addr) (dc bb:Nat) (d:Int) (a:Option Addr) (n c:Nat) (w:World) (hb:w.cell? ⟨bb,0,none⟩=some (.slice dv Z.length dc)) (h:aO .i64 w dv Z) (hl:Z.length≤1048576) :
  Calls Tryz.prog 61 #[.agg #[.int .i64 d,.slice a n c],.pointer (some ⟨bb,0,none⟩)] w fun r w'=>r=.returned (.bool (Z.contains d))∧Below w.heap.size w w':=by
 have B0:=aA (aC w (.cells #[.int .i64 d,.slice a n c] 65));have hbl:bb<w.heap.size:=World.block_lt_of_cell? w ⟨bb,0,none⟩ hb;have hb1:=(B0.out.cell (p:=⟨bb,0,none⟩) hbl).trans hb;have H1:=aA (h.below B0.out);obtain ⟨f0,f1⟩:=Two.new w (.int .i64 d) (.slice a n c) 65;have hc:=pO dv dc Z d _ H1.out hl;obtain ⟨q,hq⟩:∃ q,q=Z.contains d:=⟨_,rfl⟩;rw[←hq]at hc ⊢;have HC:=aA hc;clear h hb hc hq H1;go_enter Tryz.func61,Tryz.ntmps61;go_wp2_with fail
 refine HC.out.mono ?_;rintro r w1 ⟨rfl,hw1⟩;have hw2:=hw1.symm;clear hw1;subst hw2;go_wp2_with fail
 go_ret
 exact ⟨rfl,B0.out⟩
theorem sR (a:Option Addr) (c n:Nat) (l:List Sn) (b:Option Addr) (d m:Nat) (D:Nat→Int) (P:Nat→List Int) (w:World) (h:RdS w a l) (hn:n=l.length) (hs:dF l) (hC:RdC w b D P m) (hm:m≤1048576) (hP:∀ i,i<m→U8 (P i)∧(P i).length≤1048576) (hz:pW l D P m≠0) :
  Calls Tryz.prog 21 #[.slice a n c,.slice b m d] w (nD (pW l D P m) D P 0 w):=by
 subst hn;have X0:=aA (Box.new w (.int .i64 0) (.slice none 0 0) 56);have B0:=aA (aC w (.cells #[.int .i64 0,.slice none 0 0] 56));have HC:=aA (lD a c l.length l _ (h.below B0.out) rfl hs.1 hs);have HD:=aA (fun u (hu:Below w.heap.size w u)=>mH b d m D P u (hC.below hu) hm hP)
 unfold pW at hz ⊢;clear h hs hC hP;go_enter Tryz.func21,Tryz.ntmps21;by_cases h0:snF l=0
 ·rw[if_pos h0]at hz ⊢
  rw[h0]at HC;generalize fC D P m=F at *;have hne:(F != 0)=true:=by simpa using hz
  clear h0 hz;go_wp2_with fail
  refine HC.out.mono ?_;rintro r w1 ⟨rfl,hb1⟩;have X1:=aA (X0.out.below hb1);have B1:=aA (aB B0.out hb1);clear hb1 X0;go_wp2_with fail
  refine (HD.out _ B1.out).mono ?_;rintro r w2 ⟨rfl,hb2⟩;have B2:=aA (aB B1.out hb2);obtain ⟨⟨t0,t1⟩,t2,t3⟩:=X1.out.below hb2;clear hb2;go_wp2_with fail
  exact bodyPost_ret (v:=.agg #[.int .i64 F,.slice none 0 0]) (by simp[results,Tryz.results21,go_sem,t0,t1]) rfl (nD.no ((B2.out.setCell (Nat.le_refl _) _).setCell (Nat.le_refl _) _))
 ·rw[if_neg h0]
  generalize snF l=F at *;have hne:(F != 0)=true:=by simpa using h0
  clear h0 hz;go_wp2_with fail
  refine HC.out.mono ?_;rintro r w1 ⟨rfl,hb1⟩;have B1:=aA (aB B0.out hb1);obtain ⟨⟨t0,t1⟩,t2,t3⟩:=X0.out.below hb1;clear hb1;go_wp2_with fail
  exact bodyPost_ret (v:=.agg #[.int .i64 F,.slice none 0 0]) (by simp[results,Tryz.results21,go_sem,t0,t1]) rfl (nD.no ((B1.out.setCell (Nat.le_refl _) _).setCell (Nat.le_refl _) _))
theorem tJ (a:Option Addr) (c n:Nat) (l:List Sn) (b:Option Addr) (d m:Nat) (D:Nat→Int) (P:Nat→List Int) (w:World) (h:RdS w a l) (hn:n=l.length) (hs:dF l) (hC:RdC w b D P m) (hP:∀ i,i<m→U8 (P i)∧(P i).length≤1048576) (hR:bH l) (hRC:cF D P m) :
  Calls Tryz.prog 21 #[.slice a n c,.slice b m d] w (nD 0 (dg (aT (aU l) D P m)) (bt (aT (aU l) D P m)) (aT (aU l) D P m).length w):=by
 subst hn;have hm40:=hRC.many;have X0:=aA (Box.new w (.int .i64 0) (.slice none 0 0) 56);have B0:=aA (aC w (.cells #[.int .i64 0,.slice none 0 0] 56));have hf1:=lD a c l.length l _ (h.below B0.out) rfl hs.1 hs;rw[oI.2 hR]at hf1;have HC:=aA hf1;have hf2:=fun u (hu:Below w.heap.size w u)=>mH b d m D P u (hC.below hu) (by omega) hP
 rw[jI hRC]at hf2;have HD:=aA hf2;have HRt:=aA (show ∀ s∈l,aV s.layer from fun s hm=>eE.1 (hR.own s hm).2.2)
 have HE:=aA (fun u (hu:Below w.heap.size w u)=>xM a c l.length l u (h.below hu) rfl hR.len HRt.out)
 have HRC:=aA hC;have HK:=aA (lP (Z:=aU l) hRC);have HUP:=aA (zlk (Z:=aU l) hRC);have hkl:=mM (aU l) D P m;have hzl:(aU l).length≤1048576:=by have:=mF HRt.out;have:=hR.len;omega
 clear h hs hC hP hR hRC hf1 hf2;generalize aU l=Z at *;go_enter Tryz.func21,Tryz.ntmps21;go_wp2_with fail
 refine HC.out.mono ?_;rintro r w1 ⟨rfl,hb1⟩;have X1:=aA (X0.out.below hb1);have B1:=aA (aB B0.out hb1);clear hb1 X0;go_wp2_with fail
 refine (HD.out _ B1.out).mono ?_;rintro r w2 ⟨rfl,hb2⟩;have X2:=aA (X1.out.below hb2);have B2:=aA (aB B1.out hb2);clear hb2 X1;go_wp2_with fail
 refine (HE.out _ B2.out).mono ?_;rintro r w3 ⟨x,e,rfl,hO,hb3⟩;have A3:=aA (aC w3 (.cells #[.slice x Z.length e] 48));have BB3:=aA (aB hb3 A3.out);have X3:=aA (X2.out.below BB3.out);have B3:=aA (aB B2.out BB3.out);have RZ:=aA ((cM hO rfl).below A3.out);have CZ:=aA (show (w3.alloc (.cells #[.slice x Z.length e] 48)).cell? ⟨w3.heap.size,0,none⟩=some (.slice x Z.length e) by simp)
 have hbz:w3.heap.size<(w3.alloc (.cells #[.slice x Z.length e] 48)).heap.size:=by simp
 have hs3:w.heap.size<w3.heap.size:=by have:=hb3.size;have:=X2.out.lt';omega
 clear hb3 hO X2 HE HC HD A3 BB3;go_wp2_with fail
 generalize w3.alloc (.cells #[.slice x Z.length e] 48)=W3 at *;generalize w3.heap.size=bz at *;have HA:zwi W3 61 #[.pointer (some ⟨bz,0,none⟩)] (fun d=>Z.contains d):=⟨enters_of Tryz.func61 (by kernel_rfl) rfl,fun dd aa nn cc u hu=>zp1 Z x e bz dd aa nn cc u ((hu.cell (p:=⟨bz,0,none⟩) hbz).trans CZ.out) (RZ.out.below hu) hzl⟩
 refine (zid b d m D P _ _ Z _ W3 W3 (Below.refl _ _) (HRC.out.below B3.out) (by omega) HA (fun _=>rfl)).mono ?_
 rintro r w4 ⟨y,f,rfl,hL,hb4⟩;have RK:=aA (hL.rdC hb4);have X4:=aA (X3.out.below hb4);have B4:=aA (aB B3.out hb4);have hs4:w.heap.size<w4.heap.size:=by have:=hb4.size;omega
 clear hL hb4 X3 HA;go_wp2_with fail
 refine (sT y f (aT Z D P m).length (dg (aT Z D P m)) (bt (aT Z D P m)) w4 w4 RK.out (Below.refl _ _) HK.out).mono ?_;rintro r w5 ⟨bm,rfl,hbm,hH,hb5⟩;rw[zef]at hH;have HH:=aA hH;have X5:=aA (X4.out.below hb5);have B5:=aA (aB B4.out hb5);have hs5:w4.heap.size≤w5.heap.size:=hb5.size;have HLen:Hid (∀ p∈aT Z D P m,0<p.2.length∧p.2.length≤1048576):=aA (fun p hp=>by
  rw[←zef (aT Z D P m)]at hp;obtain ⟨i,hi,e⟩:=xG.1 hp;subst e;exact HK.out.u8len hi)
 clear hH hb5 X4;go_wp2_with fail
 refine (zl9 bm _ _ w4.heap.size w5 HH.out (by omega) HLen.out hs5).mono ?_
 rintro r w6 ⟨av,cv,rfl,hG,hb6⟩;rw[HUP.out]at hG;have HG:=aA hG;have B6:=aA (aB B5.out hb6);obtain ⟨⟨t0,t1⟩,t2,t3⟩:=X5.out.below hb6;clear hG hb6 X5;go_wp2_with fail
 exact bodyPost_ret (v:=.agg #[.int .i64 0,.slice av (aT Z D P m).length cv]) (by simp[results,Tryz.results21,go_sem,t0,t1]) rfl (nD.box HG.out (by omega) B6.out)
theorem zt8 (a:Option Addr) (c n:Nat) (l:List Sn) (b:Option Addr) (d m:Nat) (D:Nat→Int) (P:Nat→List Int) (w:World) (h:RdS w a l) (hn:n=l.length) (hC:RdC w b D P m) (hR:bH l) (hRC:cF D P m) :
  Calls Tryz.prog 66 #[.slice a n c,.slice b m d] w fun r w'=>∃ av cv,r=.returned (.slice av (aT (aU l) D P m).length cv)∧GC w.heap.size w'.heap.size w' (.slice av (aT (aU l) D P m).length cv) (dg (aT (aU l) D P m)) (bt (aT (aU l) D P m)) (aT (aU l) D P m).length∧Below w.heap.size w w':=by
 subst hn;obtain ⟨i1,ki,kz0,kz1,kz2⟩:=info_parts Tryz.infoCh;have hm40:=hRC.many;have HRt:=aA (show ∀ s∈l,aV s.layer from fun s hm=>eE.1 (hR.own s hm).2.2)
 have HE:=aA (zk4 a c l.length l w h rfl hR.len HRt.out);have HA:=aA hC;have HK:=aA (lP (Z:=aU l) hRC);have hzl:(aU l).length≤1048576:=by have:=mF HRt.out;have:=hR.len;omega
 clear h hC hR hRC HRt;generalize aU l=Z at *;go_enter Tryz.func66,Tryz.ntmps66;go_wp2_with fail
 refine HE.out.mono ?_;rintro r w1 ⟨x,e,rfl,hO,hb1⟩;have A1:=aA (aC w1 (.cells #[] 65));have RZ:=aA ((cM hO rfl).below A1.out);have HXZ:=aA (show ∀ y,x=some y→y.block<w1.heap.size from fun y hy=>by subst hy;exact (hO.lt y.block rfl).2)
 have HL1:=aA (LC.made w w1 (dg (aT Z D P 0)) (bt (aT Z D P 0)));have B1:=aA (aB hb1 A1.out);have hs1:=hb1.size;have hs2:w1.heap.size≤(w1.alloc (.cells #[] 65)).heap.size:=A1.out.size;clear hO hb1 HE A1;go_wp2_with fail
 generalize w1.alloc (.cells #[] 65)=W1 at *;go_loopw [6,7] (fun v i wr=>∃ k:Nat,k≤m∧i=.int .i64 k∧Hid (LC w1.heap.size w wr v (dg (aT Z D P k)) (bt (aT Z D P k)) (aT Z D P k).length)∧Hid (aO .i64 wr x Z)∧Hid (Below w.heap.size w wr)∧Hid (W1.heap.size≤wr.heap.size)) (fun _ i _=>m - (intOf i).toNat)
 case atStart=>exact ⟨0,Nat.zero_le _,rfl,HL1,RZ,B1,aA (Nat.le_refl _)⟩
 case round =>
  clear HL1 RZ B1;obtain ⟨k,hk,rfl,HL,RZ,HW,HSz⟩:=hrel;have hsz:=HW.out.size;have hszz:=HSz.out;obtain ⟨lv,lc,hv⟩:=HL.out.shape;subst hv;have hrl:=mM Z D P k;by_cases hlt:k<m
  ·obtain ⟨b1,o1,A1,C1,rfl,hbb,hc1⟩:=HA.out (by omega)
   obtain ⟨c1,e1,r1⟩:=hc1 k hlt;have c1:=(HW.out.cell (p:=⟨b1,o1+k * 2,none⟩) hbb).trans c1;have e1:=(HW.out.cell (p:=⟨b1,o1+k * 2+1,none⟩) hbb).trans e1;have HRc:=aA r1;have HST:=aA (zw2 Z D P k);have hlt':(k:Int)<(m:Int):=by omega
   clear hc1 r1;generalize A1 k=a1 at *;generalize C1 k=d1 at *;generalize P k=xs at *;generalize D k=dd at *;go_wp2_with fail
   refine (tN x e Z dd wr RZ.out hzl).mono ?_;rintro r w3 ⟨rfl,hw3⟩;have hw4:=hw3.symm;clear hw3;subst hw4;cases hq:Z.contains dd
   ·rw[hq]at HST
    clear hq;go_wp2_with fail
    go_roundw
    case rel=>exact ⟨k+1,by omega,by go_num,aA (by rw[HST.out];exact HL.out),RZ,HW,HSz⟩
    case measure=>simp[intOf];omega
   ·rw[hq,if_pos rfl]at HST
    clear hq;obtain ⟨A,C,g2,g3⟩:=HL.out;have G2:=aA g2;have G3:=aA g3;clear g2 g3;obtain ⟨L,hL⟩:∃ L,L=aT Z D P k:=⟨_,rfl⟩;rw[←hL]at hrl G2 G3 HST ⊢;clear hL HL;obtain ⟨j,hj⟩:∃ j,j=L.length:=⟨_,rfl⟩;rw[←hj]at hrl G2 G3 ⊢;have HLn:=aA hj;clear hj;have hm1:j+1≤maxLen:=by unfold maxLen;omega
    have hm1':(j+1) * 32≤140737488355328:=by omega
    have hszw:w1.heap.size≤wr.heap.size:=by omega
    go_wp2_with (at_builtin;refine dQ rfl (.tmp 24) (.tmp 29) 52 rfl w1.heap.size 65 i1 (.agg #[.int .i64 0,.slice none 0 0]) 2 32 Tryz.underlying52 ki kz0 kz1 kz2 rfl (by decide) _ _ _ rfl G2.out _ rfl rfl rfl (by intro u hu;simp at hu;rcases hu with rfl | rfl <;> rfl) hm1 hm1' (by omega) ?_;intro av6 cv6 w6 hown6 hk6;have O6:=aA hown6;have K6:=aA hk6;clear hown6 hk6)
    go_roundw
    case rel =>
     refine ⟨k+1,by omega,by go_num,aA ?_,aA ?_,aA ?_,aA (by have:=K6.out.size;omega)⟩
     ·rw[HST.out]
      exact LC.snoc (p:=(dd,xs)) HLn.out G3.out HRc.out O6.out
     ·exact RZ.out.kept K6.out (fun hz y hy hS=>by have h1:=(G2.out.lt _ hS).1;have h2:=HXZ.out y hy;omega)
     ·exact HW.out.trans (K6.out.below (by omega) (fun q hq hS=>by have:=(G2.out.lt q hS).1;omega))
    case measure=>simp[intOf];omega
  ·have hke:k=m:=by omega
   have hlt':¬ (k:Int)<(m:Int):=by omega
   subst hke;have hkl:=mM Z D P k;have HCY:=aA (pZ lv lc (aT Z D P k).length (dg (aT Z D P k)) (bt (aT Z D P k)) wr (HL.out.rdC HW.out) (by omega) (fun i hi=>by have:=HK.out.len i hi;omega))
   go_wp2_with fail
   refine HCY.out.mono ?_;rintro r w5 ⟨av,cv,rfl,hG,hb5⟩;have HG:=aA (hG.mono hsz);have B5:=aA (aB HW.out hb5);clear hG hb5;go_wp2_with fail
   go_ret
   exact ⟨av,cv,rfl,HG.out,B5.out⟩
theorem sV (a:Option Addr) (c n:Nat) (l:List Sn) (b:Option Addr) (d m:Nat) (D:Nat→Int) (P:Nat→List Int) (w:World) (h:RdS w a l) (hn:n=l.length) (hs:dF l) (hC:RdC w b D P m) (hm:m≤1048576) (hP:∀ i,i<m→U8 (P i)∧(P i).length≤1048576) (hz:zq0 l D P m≠0) :
  Calls Tryz.prog 22 #[.slice a n c,.slice b m d] w (nD (zq0 l D P m) D P 0 w):=by
 subst hn;have X0:=aA (Box.new w (.int .i64 0) (.slice none 0 0) 56);have B0:=aA (aC w (.cells #[.int .i64 0,.slice none 0 0] 56));have HC:=aA (gX a c l.length l _ (h.below B0.out) rfl hs.1 hs);have HD:=aA (fun u (hu:Below w.heap.size w u)=>pN b d m D P u (hC.below hu) hm hP)
 unfold zq0 at hz ⊢;clear h hs hC hP;go_enter Tryz.func22,Tryz.ntmps22;by_cases h0:snM l=0
 ·rw[if_pos h0]at hz ⊢
  rw[h0]at HC;generalize fC D P m=F at *;have hne:(F != 0)=true:=by simpa using hz
  clear h0 hz;go_wp2_with fail
  refine HC.out.mono ?_;rintro r w1 ⟨rfl,hb1⟩;have X1:=aA (X0.out.below hb1);have B1:=aA (aB B0.out hb1);clear hb1 X0;go_wp2_with fail
  refine (HD.out _ B1.out).mono ?_;rintro r w2 ⟨rfl,hb2⟩;have B2:=aA (aB B1.out hb2);obtain ⟨⟨t0,t1⟩,t2,t3⟩:=X1.out.below hb2;clear hb2;go_wp2_with fail
  exact bodyPost_ret (v:=.agg #[.int .i64 F,.slice none 0 0]) (by simp[results,Tryz.results22,go_sem,t0,t1]) rfl (nD.no ((B2.out.setCell (Nat.le_refl _) _).setCell (Nat.le_refl _) _))
 ·rw[if_neg h0]
  generalize snM l=F at *;have hne:(F != 0)=true:=by simpa using h0
  clear h0 hz;go_wp2_with fail
  refine HC.out.mono ?_;rintro r w1 ⟨rfl,hb1⟩;have B1:=aA (aB B0.out hb1);obtain ⟨⟨t0,t1⟩,t2,t3⟩:=X0.out.below hb1;clear hb1;go_wp2_with fail
  exact bodyPost_ret (v:=.agg #[.int .i64 F,.slice none 0 0]) (by simp[results,Tryz.results22,go_sem,t0,t1]) rfl (nD.no ((B1.out.setCell (Nat.le_refl _) _).setCell (Nat.le_refl _) _))
theorem uL (a:Option Addr) (c n:Nat) (l:List Sn) (b:Option Addr) (d m:Nat) (D:Nat→Int) (P:Nat→List Int) (w:World) (h:RdS w a l) (hn:n=l.length) (hs:dF l) (hC:RdC w b D P m) (hP:∀ i,i<m→U8 (P i)∧(P i).length≤1048576) (hR:bH l) (hRC:cF D P m) :
  Calls Tryz.prog 22 #[.slice a n c,.slice b m d] w (nD 0 (dg (aT (aU l) D P m)) (bt (aT (aU l) D P m)) (aT (aU l) D P m).length w):=by
 subst hn;have hm40:=hRC.many;have X0:=aA (Box.new w (.int .i64 0) (.slice none 0 0) 56);have B0:=aA (aC w (.cells #[.int .i64 0,.slice none 0 0] 56));have hf1:=gX a c l.length l _ (h.below B0.out) rfl hs.1 hs;rw[hR.good]at hf1;have HC:=aA hf1;have hf2:=fun u (hu:Below w.heap.size w u)=>pN b d m D P u (hC.below hu) (by omega) hP
 rw[jI hRC]at hf2;have HD:=aA hf2;have HE:=aA (fun u (hu:Below w.heap.size w u)=>zt8 a c l.length l b d m D P u (h.below hu) rfl (hC.below hu) hR hRC)
 clear h hs hC hP hR hRC hf1 hf2;generalize aU l=Z at *;go_enter Tryz.func22,Tryz.ntmps22;go_wp2_with fail
 refine HC.out.mono ?_;rintro r w1 ⟨rfl,hb1⟩;have X1:=aA (X0.out.below hb1);have B1:=aA (aB B0.out hb1);clear hb1 X0;go_wp2_with fail
 refine (HD.out _ B1.out).mono ?_;rintro r w2 ⟨rfl,hb2⟩;have X2:=aA (X1.out.below hb2);have B2:=aA (aB B1.out hb2);have hs2:w.heap.size<w2.heap.size:=X2.out.lt';clear hb2 X1;go_wp2_with fail
 refine (HE.out _ B2.out).mono ?_;rintro r w3 ⟨av,cv,rfl,hG,hb3⟩;have HG:=aA hG;have B3:=aA (aB B2.out hb3);obtain ⟨⟨t0,t1⟩,t2,t3⟩:=X2.out.below hb3;clear hG hb3 X2;go_wp2_with fail
 exact bodyPost_ret (v:=.agg #[.int .i64 0,.slice av (aT Z D P m).length cv]) (by simp[results,Tryz.results22,go_sem,t0,t1]) rfl (nD.box HG.out (by omega) B3.out)
end Go.Proofs.YtgaeikgoknoamaaGreat
namespace Go.Proofs.YtgaeikgoknoamaaGreat
theorem rB {ls:List (List En)} (h:bY ls=0):fV ls:=fun es he=>by
 have hr:=(fJ.1 h).2 es he;exact ⟨by have:=hr.len;omega,cN hr⟩
end Go.Proofs.YtgaeikgoknoamaaGreat
namespace Go.Proofs.YtgaeikgoknoamaaGreat
open Go.RowKit Go.Maps
attribute [local go_sem ↓] Go.wp_at_zero Go.wp_at_succ
theorem zs4 {ls:List (List En)} (hR:∀ es∈ls,aV es) (hs:fV ls) (h4:ls.length≤4) (e:En) (he:e∈aY ls):e.path.length≤1048576:=by
 have hF:=jF hR;have hA:=sN hF;have hf:=eA hA.fit.rise he;rw[nX hF h4 (hA.fit.path he)]at hf;unfold uH at hf;cases hk:gD ls e.path with
 | none=>rw[hk]at hf;cases hf
 | some k =>
  rw[hk]at hf;cases hs2:cY ls k e.path with
  | none=>simp[hs2]at hf
  | some f =>
   obtain ⟨es,h1,h2,h3⟩:=iV hs2;have:=((hs es h1).2 f h2).1;rwa [h3]at this
end Go.Proofs.YtgaeikgoknoamaaGreat
namespace Go.Proofs.YtgaeikgoknoamaaGreat
open Go.RowKit Go.Maps
theorem zzi {w:World} {base:Nat} {a:Option Addr} {c:Nat} {ds:List Int} (h:w.ownsRow base 5 1 (.slice a ds.length c) ds.length (ds.map (Value.int .u8))) :
  Sem.run Tryz.prog (convert 22 9 (.slice a ds.length c)) w=.ok (.string (strOfNums ds)) w:=by
 rcases h.2 with ⟨h',h0⟩ | ⟨g,cap,cur,h',hb,hh,hnc,hcm,hcs,htake⟩
 ·simp only[Value.slice.injEq]at h'
  obtain ⟨rfl,_,rfl⟩:=h';have e:ds=[]:=List.eq_nil_of_length_eq_zero h0;subst e;exact run_convert_bytes_nil (P:=Tryz.prog) w 22 5 Tryz.underlying22 Tryz.underlying5 0 0 9 Tryz.underlying9
 ·simp only[Value.slice.injEq,true_and]at h'
  obtain ⟨rfl,rfl⟩:=h';exact run_convert_bytes_arg (P:=Tryz.prog) w 22 5 Tryz.underlying22 Tryz.underlying5 g 0 ds.length c ds rfl (fun i hi=>by rw[Nat.zero_add,h.cellAt i (by omega)];simp[List.getD_eq_getElem?_getD,hi]) 9 Tryz.underlying9
theorem zgk {ls:List (List En)} (h:bY ls=0):∀ q∈oE ls,q.length≤1048576:=fun q hq=>by
 obtain ⟨h4,hR⟩:=fJ.1 h;rw[oE,if_pos h,List.mem_map]at hq;obtain ⟨e,he,rfl⟩:=hq;exact zs4 hR (rB h) h4 e he
theorem zei {ls:List (List En)} (h:bY ls=0):(oE ls).length≤60:=by
 obtain ⟨h4,hR⟩:=fJ.1 h;have h1:=zk1 hR ls.length (Nat.le_refl _);rw[List.take_length]at h1;rw[oE,if_pos h,List.length_map];omega
theorem zjf {zs:List Int} {z:Int} (h:z∈zs):z∈cZ zs:=by
 unfold cZ;exact zJ.2 (.inr h)
theorem zxe {l:List Sn} {D:Nat→Int} {P:Nat→List Int} {n i:Nat} (hi:i<(aT (aU l) D P n).length):∃ k0,k0<l.length∧∃ s,l[k0]?=some s∧dg (aT (aU l) D P n) i∈cZ (dE s.layer):=by
 obtain ⟨j,-,h1,-,h2⟩:=qL hi;obtain ⟨s,hs,hc⟩:=yN.1 h2;obtain ⟨k,hk,rfl⟩:=List.mem_iff_getElem.1 hs;exact ⟨k,hk,_,List.getElem?_eq_getElem hk,by rw[h1];exact zjf hc⟩
theorem zxc {l:List Sn} {s:Sn} {D:Nat→Int} {P:Nat→List Int} {n:Nat} (hR:bH l) (hRC:cF D P n) (hs:s∈l) (hP:∀ i,i<n→U8 (P i)∧(P i).length≤1048576) (q:Bs) (hq:q.length≤1048576) :
  ∃ (Q:Int) (B:List Int),(∀ (a b:Option Addr) (c d:Nat) (u:World),RdL u a (cH l s)→RdC u b D P n→Calls Tryz.prog 24 #[.slice a (cH l s).length c,.slice b n d,.string (str q)] u (pF Q B u)) ∧
   (∀ (a b:Option Addr) (c d:Nat) (u:World),RdL u a (cH l s)→RdC u b (dg (aT (aU l) D P n)) (bt (aT (aU l) D P n)) (aT (aU l) D P n).length→Calls Tryz.prog 24 #[.slice a (cH l s).length c,.slice b (aT (aU l) D P n).length d,.string (str q)] u (pF Q B u)):=by
 have hF:=zb0 hR hs;have h4:=nI hR hs;have hn:=hRC.many;have hk:=mM (aU l) D P n;have hsl:=rB hF;rcases zgc hRC hs q with ⟨Q,h0,h1,h2⟩ | ⟨e,h1,h2,h3⟩
 ·exact ⟨Q,[],fun a b c d u hu hc=>qV a c _ _ b d n D P q u hu rfl (by omega) hsl hc (by omega) hP hq Q h1 h0,fun a b c d u hu hc=>qV a c _ _ b d _ _ _ q u hu rfl (by omega) hsl hc (by omega) (zy1 hP) hq Q h2 h0⟩
 ·refine ⟨(rdQ D P n e).1,(rdQ D P n e).2,fun a b c d u hu hc=>rJ a c _ _ b d n D P q u hu rfl (by omega) hsl hc (by omega) hP hq e h1,fun a b c d u hu hc=>?_⟩
  have h9:=rJ a c _ _ b d _ _ _ q u hu rfl (by omega) hsl hc (by omega) (zy1 hP) hq e h2
  rw[h3]at h9;exact h9
end Go.Proofs.YtgaeikgoknoamaaGreat
