/-
  Texts put together: MntK MntL MntM.
-/
import Derived.Test.YtgaeikgoknoamaaGreatKCollec22
import Derived.Test.YtgaeikgoknoamaaGreatKCollec21
import Derived.Test.YtgaeikgoknoamaaGreatKCollec19
set_option linter.unusedVariables false
set_option maxHeartbeats 6400000
set_option maxRecDepth 100000
namespace Go.Proofs.YtgaeikgoknoamaaGreat
open Go.RowKit Go.Maps
attribute [local go_sem ↓] Go.wp_at_zero Go.wp_at_succ
theorem zha (a:Option Addr) (c n:Nat) (ls:List (List En)) (u:Option Addr) (uc m:Nat) (U:List En) (p:Bs) (w:World) (h:RdL w a ls) (hn:n=ls.length) (hU:RdE w u U) (hm:m=U.length) (h4:(ls ++ [U]).length≤4) (hR:∀ es∈ls ++ [U],bD es) (hp:aG p=0) (hpl:p.length≤1048576) :
  Calls Tryz.prog 251 #[.slice a n c,.slice u m uc,.string (str p)] w fun r w'=>∃ rep V,MkS (aT (ls ++ [U])) U p rep V∧eP 0 rep V w r w':=by
 subst hn;subst hm;have hRU:bD U:=hR U (by simp)
 have hl4:ls.length≤4:=by rw[List.length_append]at h4;omega
 have hUl:=hRU.len;have HUs:=aA (cS hRU);have HP:=aA hp;have X0:=aA (dE.new w (.int .i64 0) (.int .i64 0) (.slice none 0 0) 267);have B0:=aA (aC w (.cells #[.int .i64 0,.int .i64 0,.slice none 0 0] 267));have HA:=aA (jO a c ls.length ls u uc U.length U _ (h.below B0.out) rfl (by omega) (hU.below B0.out) rfl)
 have HU:=aA hU;have HST:=aA (fun (q:Int) v (hv:Below w.heap.size w v)=>nI u uc U.length U q v (HU.out.below hv) rfl (by omega) HUs.out)
 have HRR:=aA hR;have H4:=aA h4;clear h hU hR hRU hp h4;obtain ⟨al,hal⟩:∃ al,al=ls ++ [U]:=⟨_,rfl⟩;rw[←hal]at HA HRR H4 ⊢;have HALL:=aA hal;clear hal;by_cases hh:eA (aT al) p=0
 ·cases ha:aL (aT al) p with
  | none =>
   have HC:=aA (show mkS (aT al) p=0 by simp[mkS,hh,ha])
   cases hat:atE U p with
   | none =>
    have HAT0:=aA hat;have hdf:kB U p=⟨p,2,0,[]⟩:=by simp[kB,gJ hat]
    clear hat;obtain ⟨rep,V,hV⟩:=lL U U (kB U p);have HCP:=aA (MkS.fill HC.out hV);rw[hdf]at hV;have HV:=aA hV;clear hV hdf HC;go_enter Tryz.func251,Tryz.ntmps251;go_wp2_with fail
    refine HA.out.mono ?_;rintro r w1 ⟨av,cv,rfl,hr1,hb1⟩;have X1:=aA (X0.out.below hb1);have B1:=aA (aB B0.out hb1);have R1:=aA hr1;have hlt:=X1.out.lt;clear hr1 hb1 HA X0 B0;have HHM:=aA (iB av cv _ _ p w1 R1.out rfl H4.out HRR.out HP.out hpl);rw[hh]at HHM;clear hh;go_wp2_with fail
    refine HHM.out.mono ?_;rintro r w2 ⟨rfl,hb2⟩;have X2:=aA (X1.out.below hb2);have B2:=aA (aB B1.out hb2);have R2:=aA (R1.out.below hb2);clear hb2 HHM X1 B1 R1;have HLK:=aA (jN av cv _ _ p w2 R2.out rfl H4.out HRR.out HP.out hpl ha);clear ha;go_wp2_with fail
    refine HLK.out.mono ?_;rintro r w3 ⟨rfl,hb3⟩;have A3:=aA (aC w3 (.cells #[.string ⟨#[]⟩,.int .i64 0,.int .i64 0,.slice none 0 0] 87));have B3:=aA (aB B2.out (aB hb3 A3.out));have X3:=aA (X2.out.below (aB hb3 A3.out));have R3:=aA (R2.out.below (aB hb3 A3.out));obtain ⟨f0,f1,f2,f3⟩:=cP.new w3 (.string ⟨#[]⟩) (.int .i64 0) (.int .i64 0) (.slice none 0 0) 87;clear hb3 A3 HLK X2 B2 R2;go_wp2_with fail
    clear f0 f1 f2 f3;generalize hW3:w3.alloc (.cells #[.string ⟨#[]⟩,.int .i64 0,.int .i64 0,.slice none 0 0] 87)=W3 at *;have HS3:=aA (show W3.heap.size=w3.heap.size+1 by rw[←hW3];simp)
    clear hW3;have A4:=aA (aC W3 (.cells #[.string (str p),.int .i64 2,.int .i64 0,.slice none 0 0] 87));have B4:=aA (aB B3.out A4.out);have X4:=aA (X3.out.below A4.out);have HAT:=aA (gU u uc U.length U p _ (HU.out.below B4.out) rfl (by omega))
    have F4:=aA (cP.new W3 (.string (str p)) (.int .i64 2) (.int .i64 0) (.slice none 0 0) 87);rw[HS3.out]at F4;have K4:Hid (∀ i,(W3.alloc (.cells #[.string (str p),.int .i64 2,.int .i64 0,.slice none 0 0] 87)).frozen? ⟨w3.heap.size+1,i,none⟩=false):=aA (fun i=>by rw[←HS3.out];simp)
    have hlt3:=B3.out.size;refine HAT.out.mono ?_;rintro r w4 ⟨rfl,rfl⟩;rw[HAT0.out];simp only[cD];clear HAT HAT0;obtain ⟨f0,f1,f2,f3⟩:=F4.out;go_wp2_with fail
    clear f0 f1 f2 f3;generalize W3.alloc (.cells #[.string (str p),.int .i64 2,.int .i64 0,.slice none 0 0] 87)=W4 at *;have HFL:=aA (jT u uc U.length U u uc U.length U ⟨p,2,0,[]⟩ none 0 0 W4 (HU.out.below B4.out) rfl (by omega) HUs.out (HU.out.below B4.out) rfl (by omega) HUs.out HP.out rfl (fun hz=>absurd rfl hz) hpl (by simp) rep V HV.out)
    refine HFL.out.mono ?_;rintro r w9 ⟨av9,cv9,rfl,hG9,hb9⟩;have G9:=aA hG9;have B9:=aA (aB B4.out hb9);have hl9:=X4.out.lt;obtain ⟨⟨t0,t1,t2⟩,t3,t4,t5⟩:=X4.out.below hb9;clear hG9 hb9;go_wp2_with fail
    exact bodyPost_ret (v:=.agg #[.int .i64 0,.int .i64 rep,.slice av9 V.length cv9]) (by simp[results,Tryz.results251,go_sem,t0,t1,t2]) rfl ⟨rep,V,HCP.out,eP.of hl9 (Nat.le_refl _) rfl G9.out B9.out⟩
   | some k =>
    have hk:=nO hat;obtain ⟨y,hy⟩:∃ y,U[k]?=some y:=⟨U[k],List.getElem?_eq_getElem hk⟩;have HAT0:=aA hat;have HY:=aA hy;by_cases hy3:y.kind=3
    ·have hdf:kB U p=⟨p,4,0,[]⟩:=by simp[kB,za8 hat hy,hy3]
     have hy3b:(y.kind==3)=true:=by simpa using hy3
     clear hat hy hy3;obtain ⟨rep,V,hV⟩:=lL U U (kB U p);have HCP:=aA (MkS.fill HC.out hV);rw[hdf]at hV;have HV:=aA hV;clear hV hdf HC;go_enter Tryz.func251,Tryz.ntmps251;go_wp2_with fail
     refine HA.out.mono ?_;rintro r w1 ⟨av,cv,rfl,hr1,hb1⟩;have X1:=aA (X0.out.below hb1);have B1:=aA (aB B0.out hb1);have R1:=aA hr1;have hlt:=X1.out.lt;clear hr1 hb1 HA X0 B0;have HHM:=aA (iB av cv _ _ p w1 R1.out rfl H4.out HRR.out HP.out hpl);rw[hh]at HHM;clear hh;go_wp2_with fail
     refine HHM.out.mono ?_;rintro r w2 ⟨rfl,hb2⟩;have X2:=aA (X1.out.below hb2);have B2:=aA (aB B1.out hb2);have R2:=aA (R1.out.below hb2);clear hb2 HHM X1 B1 R1;have HLK:=aA (jN av cv _ _ p w2 R2.out rfl H4.out HRR.out HP.out hpl ha);clear ha;go_wp2_with fail
     refine HLK.out.mono ?_;rintro r w3 ⟨rfl,hb3⟩;have A3:=aA (aC w3 (.cells #[.string ⟨#[]⟩,.int .i64 0,.int .i64 0,.slice none 0 0] 87));have B3:=aA (aB B2.out (aB hb3 A3.out));have X3:=aA (X2.out.below (aB hb3 A3.out));have R3:=aA (R2.out.below (aB hb3 A3.out));obtain ⟨f0,f1,f2,f3⟩:=cP.new w3 (.string ⟨#[]⟩) (.int .i64 0) (.int .i64 0) (.slice none 0 0) 87;clear hb3 A3 HLK X2 B2 R2;go_wp2_with fail
     clear f0 f1 f2 f3;generalize hW3:w3.alloc (.cells #[.string ⟨#[]⟩,.int .i64 0,.int .i64 0,.slice none 0 0] 87)=W3 at *;have HS3:=aA (show W3.heap.size=w3.heap.size+1 by rw[←hW3];simp)
     clear hW3;have A4:=aA (aC W3 (.cells #[.string (str p),.int .i64 2,.int .i64 0,.slice none 0 0] 87));have B4:=aA (aB B3.out A4.out);have X4:=aA (X3.out.below A4.out);have HAT:=aA (gU u uc U.length U p _ (HU.out.below B4.out) rfl (by omega))
     have F4:=aA (cP.new W3 (.string (str p)) (.int .i64 2) (.int .i64 0) (.slice none 0 0) 87);rw[HS3.out]at F4;have K4:Hid (∀ i,(W3.alloc (.cells #[.string (str p),.int .i64 2,.int .i64 0,.slice none 0 0] 87)).frozen? ⟨w3.heap.size+1,i,none⟩=false):=aA (fun i=>by rw[←HS3.out];simp)
     have hlt3:=B3.out.size;refine HAT.out.mono ?_;rintro r w4 ⟨rfl,rfl⟩;rw[HAT0.out];simp only[cD];clear HAT HAT0;obtain ⟨f0,f1,f2,f3⟩:=F4.out;obtain ⟨yb,yo,y',yx,yc,rfl,hyb,hye,y0,y1,y2,y3,hyr⟩:=(HU.out.below B4.out).at hk;have hyy:y'=y:=Option.some.inj (hye.symm.trans HY.out);subst hyy;clear hye hyr;have hk0:(0:Int)≤(k:Int):=by omega
     have hk1:(k:Int)<(U.length:Int):=by omega
     have A5:=aA (A4.out.setCell (p:=⟨w3.heap.size+1,1,none⟩) (Nat.le_of_eq HS3.out) (.int .i64 4));have B5:=aA (aB B3.out A5.out);have X5:=aA (X3.out.below A5.out);have k1:=K4.out 1;have g0:((W3.alloc (.cells #[.string (str p),.int .i64 2,.int .i64 0,.slice none 0 0] 87)).setCell ⟨w3.heap.size+1,1,none⟩ (.int .i64 4)).cell? ⟨w3.heap.size+1,0,none⟩=some (.string (str p)):=by rw[aD (by simp)];exact f0
     have g1:((W3.alloc (.cells #[.string (str p),.int .i64 2,.int .i64 0,.slice none 0 0] 87)).setCell ⟨w3.heap.size+1,1,none⟩ (.int .i64 4)).cell? ⟨w3.heap.size+1,1,none⟩=some (.int .i64 4):=bK f1;have g2:((W3.alloc (.cells #[.string (str p),.int .i64 2,.int .i64 0,.slice none 0 0] 87)).setCell ⟨w3.heap.size+1,1,none⟩ (.int .i64 4)).cell? ⟨w3.heap.size+1,2,none⟩=some (.int .i64 0):=by rw[aD (by simp)];exact f2
     have g3:((W3.alloc (.cells #[.string (str p),.int .i64 2,.int .i64 0,.slice none 0 0] 87)).setCell ⟨w3.heap.size+1,1,none⟩ (.int .i64 4)).cell? ⟨w3.heap.size+1,3,none⟩=some (.slice none 0 0):=by rw[aD (by simp)];exact f3
     go_wp2_with fail
     clear f0 f1 f2 f3 g0 g1 g2 g3 k1 y0 y1 y2 y3;generalize (W3.alloc (.cells #[.string (str p),.int .i64 2,.int .i64 0,.slice none 0 0] 87)).setCell ⟨w3.heap.size+1,1,none⟩ (.int .i64 4)=W5 at *;have HFL:=aA (jT _ uc U.length U _ uc U.length U ⟨p,4,0,[]⟩ none 0 0 W5 (HU.out.below B5.out) rfl (by omega) HUs.out (HU.out.below B5.out) rfl (by omega) HUs.out HP.out rfl (fun hz=>absurd rfl hz) hpl (by simp) rep V HV.out)
     refine HFL.out.mono ?_;rintro r w9 ⟨av9,cv9,rfl,hG9,hb9⟩;have G9:=aA hG9;have B9:=aA (aB B5.out hb9);have hl9:=X5.out.lt;obtain ⟨⟨t0,t1,t2⟩,t3,t4,t5⟩:=X5.out.below hb9;clear hG9 hb9;go_wp2_with fail
     exact bodyPost_ret (v:=.agg #[.int .i64 0,.int .i64 rep,.slice av9 V.length cv9]) (by simp[results,Tryz.results251,go_sem,t0,t1,t2]) rfl ⟨rep,V,HCP.out,eP.of hl9 (Nat.le_refl _) rfl G9.out B9.out⟩
    ·have hdf:kB U p=⟨p,2,0,[]⟩:=by simp[kB,za8 hat hy,hy3]
     have hy3b:(y.kind==3)=false:=by simpa using hy3
     clear hat hy hy3;obtain ⟨rep,V,hV⟩:=lL U U (kB U p);have HCP:=aA (MkS.fill HC.out hV);rw[hdf]at hV;have HV:=aA hV;clear hV hdf HC;go_enter Tryz.func251,Tryz.ntmps251;go_wp2_with fail
     refine HA.out.mono ?_;rintro r w1 ⟨av,cv,rfl,hr1,hb1⟩;have X1:=aA (X0.out.below hb1);have B1:=aA (aB B0.out hb1);have R1:=aA hr1;have hlt:=X1.out.lt;clear hr1 hb1 HA X0 B0;have HHM:=aA (iB av cv _ _ p w1 R1.out rfl H4.out HRR.out HP.out hpl);rw[hh]at HHM;clear hh;go_wp2_with fail
     refine HHM.out.mono ?_;rintro r w2 ⟨rfl,hb2⟩;have X2:=aA (X1.out.below hb2);have B2:=aA (aB B1.out hb2);have R2:=aA (R1.out.below hb2);clear hb2 HHM X1 B1 R1;have HLK:=aA (jN av cv _ _ p w2 R2.out rfl H4.out HRR.out HP.out hpl ha);clear ha;go_wp2_with fail
     refine HLK.out.mono ?_;rintro r w3 ⟨rfl,hb3⟩;have A3:=aA (aC w3 (.cells #[.string ⟨#[]⟩,.int .i64 0,.int .i64 0,.slice none 0 0] 87));have B3:=aA (aB B2.out (aB hb3 A3.out));have X3:=aA (X2.out.below (aB hb3 A3.out));have R3:=aA (R2.out.below (aB hb3 A3.out));obtain ⟨f0,f1,f2,f3⟩:=cP.new w3 (.string ⟨#[]⟩) (.int .i64 0) (.int .i64 0) (.slice none 0 0) 87;clear hb3 A3 HLK X2 B2 R2;go_wp2_with fail
     clear f0 f1 f2 f3;generalize hW3:w3.alloc (.cells #[.string ⟨#[]⟩,.int .i64 0,.int .i64 0,.slice none 0 0] 87)=W3 at *;have HS3:=aA (show W3.heap.size=w3.heap.size+1 by rw[←hW3];simp)
     clear hW3;have A4:=aA (aC W3 (.cells #[.string (str p),.int .i64 2,.int .i64 0,.slice none 0 0] 87));have B4:=aA (aB B3.out A4.out);have X4:=aA (X3.out.below A4.out);have HAT:=aA (gU u uc U.length U p _ (HU.out.below B4.out) rfl (by omega))
     have F4:=aA (cP.new W3 (.string (str p)) (.int .i64 2) (.int .i64 0) (.slice none 0 0) 87);rw[HS3.out]at F4;have K4:Hid (∀ i,(W3.alloc (.cells #[.string (str p),.int .i64 2,.int .i64 0,.slice none 0 0] 87)).frozen? ⟨w3.heap.size+1,i,none⟩=false):=aA (fun i=>by rw[←HS3.out];simp)
     have hlt3:=B3.out.size;refine HAT.out.mono ?_;rintro r w4 ⟨rfl,rfl⟩;rw[HAT0.out];simp only[cD];clear HAT HAT0;obtain ⟨f0,f1,f2,f3⟩:=F4.out;obtain ⟨yb,yo,y',yx,yc,rfl,hyb,hye,y0,y1,y2,y3,hyr⟩:=(HU.out.below B4.out).at hk;have hyy:y'=y:=Option.some.inj (hye.symm.trans HY.out);subst hyy;clear hye hyr;have hk0:(0:Int)≤(k:Int):=by omega
     have hk1:(k:Int)<(U.length:Int):=by omega
     go_wp2_with fail
     clear y0 y1 y2 y3;clear f0 f1 f2 f3;generalize W3.alloc (.cells #[.string (str p),.int .i64 2,.int .i64 0,.slice none 0 0] 87)=W4 at *;have HFL:=aA (jT _ uc U.length U _ uc U.length U ⟨p,2,0,[]⟩ none 0 0 W4 (HU.out.below B4.out) rfl (by omega) HUs.out (HU.out.below B4.out) rfl (by omega) HUs.out HP.out rfl (fun hz=>absurd rfl hz) hpl (by simp) rep V HV.out)
     refine HFL.out.mono ?_;rintro r w9 ⟨av9,cv9,rfl,hG9,hb9⟩;have G9:=aA hG9;have B9:=aA (aB B4.out hb9);have hl9:=X4.out.lt;obtain ⟨⟨t0,t1,t2⟩,t3,t4,t5⟩:=X4.out.below hb9;clear hG9 hb9;go_wp2_with fail
     exact bodyPost_ret (v:=.agg #[.int .i64 0,.int .i64 rep,.slice av9 V.length cv9]) (by simp[results,Tryz.results251,go_sem,t0,t1,t2]) rfl ⟨rep,V,HCP.out,eP.of hl9 (Nat.le_refl _) rfl G9.out B9.out⟩
  | some e =>
   have HC:=aA (show mkS (aT al) p=7 by simp[mkS,hh,ha])
   go_enter Tryz.func251,Tryz.ntmps251;go_wp2_with fail
   refine HA.out.mono ?_;rintro r w1 ⟨av,cv,rfl,hr1,hb1⟩;have X1:=aA (X0.out.below hb1);have B1:=aA (aB B0.out hb1);have R1:=aA hr1;have hlt:=X1.out.lt;clear hr1 hb1 HA X0 B0;have HHM:=aA (iB av cv _ _ p w1 R1.out rfl H4.out HRR.out HP.out hpl);rw[hh]at HHM;clear hh;go_wp2_with fail
   refine HHM.out.mono ?_;rintro r w2 ⟨rfl,hb2⟩;have X2:=aA (X1.out.below hb2);have B2:=aA (aB B1.out hb2);have R2:=aA (R1.out.below hb2);clear hb2 HHM X1 B1 R1;have HLK:=aA (fL av cv _ _ p w2 R2.out rfl H4.out HRR.out HP.out hpl e ha);clear ha;go_wp2_with fail
   refine HLK.out.mono ?_;rintro r w3 ⟨x,xc,rfl,-,hb3⟩;have A3:=aA (aC w3 (.cells #[.string (str e.path),.int .i64 e.kind,.int .i64 e.size,.slice x e.chunks.length xc] 87));have B3:=aA (aB B2.out (aB hb3 A3.out));have X3:=aA (X2.out.below (aB hb3 A3.out));have R3:=aA (R2.out.below (aB hb3 A3.out));obtain ⟨f0,f1,f2,f3⟩:=cP.new w3 (.string (str e.path)) (.int .i64 e.kind) (.int .i64 e.size) (.slice x e.chunks.length xc) 87;clear hb3 A3 HLK X2 B2 R2;go_wp2_with fail
   clear f0 f1 f2 f3;generalize w3.alloc (.cells #[.string (str e.path),.int .i64 e.kind,.int .i64 e.size,.slice x e.chunks.length xc] 87)=W3 at *;refine (HST.out 7 W3 B3.out).mono ?_;rintro r w9 ⟨av9,cv9,rfl,hG9,hb9⟩;have G9:=aA hG9;have B9:=aA (aB B3.out hb9);have hl9:=X3.out.lt;obtain ⟨⟨t0,t1,t2⟩,t3,t4,t5⟩:=X3.out.below hb9;clear hG9 hb9;go_wp2_with fail
   exact bodyPost_ret (v:=.agg #[.int .i64 0,.int .i64 7,.slice av9 U.length cv9]) (by simp[results,Tryz.results251,go_sem,t0,t1,t2]) rfl ⟨7,U,MkS.stay HC.out (by decide),eP.of hl9 (Nat.le_refl _) rfl G9.out B9.out⟩
 ·have HC:=aA (show mkS (aT al) p=eA (aT al) p by simp[mkS,hh])
  have HH0:=aA hh;obtain ⟨F,hF⟩:∃ F,F=eA (aT al) p:=⟨_,rfl⟩;rw[←hF]at HC HH0;have HFE:=aA hF;have hz2:(F != 0)=true:=by simp;exact HH0.out
  clear hh hF;go_enter Tryz.func251,Tryz.ntmps251;go_wp2_with fail
  refine HA.out.mono ?_;rintro r w1 ⟨av,cv,rfl,hr1,hb1⟩;have X1:=aA (X0.out.below hb1);have B1:=aA (aB B0.out hb1);have R1:=aA hr1;have hlt:=X1.out.lt;clear hr1 hb1 HA X0 B0;have HHM:=aA (iB av cv _ _ p w1 R1.out rfl H4.out HRR.out HP.out hpl);rw[←HFE.out]at HHM;go_wp2_with fail
  refine HHM.out.mono ?_;rintro r w2 ⟨rfl,hb2⟩;have X2:=aA (X1.out.below hb2);have B2:=aA (aB B1.out hb2);have R2:=aA (R1.out.below hb2);clear hb2 HHM X1 B1 R1;go_wp2_with fail
  refine (HST.out F w2 B2.out).mono ?_;rintro r w9 ⟨av9,cv9,rfl,hG9,hb9⟩;have G9:=aA hG9;have B9:=aA (aB B2.out hb9);have hl9:=X2.out.lt;obtain ⟨⟨t0,t1,t2⟩,t3,t4,t5⟩:=X2.out.below hb9;clear hG9 hb9;go_wp2_with fail
  exact bodyPost_ret (v:=.agg #[.int .i64 0,.int .i64 F,.slice av9 U.length cv9]) (by simp[results,Tryz.results251,go_sem,t0,t1,t2]) rfl ⟨F,U,MkS.stay HC.out HH0.out,eP.of hl9 (Nat.le_refl _) rfl G9.out B9.out⟩
def rmS (T:List En) (p:Bs):Int:=match aL T p with | none=>4 | some e=>if e.kind=2 then (if 0<(fN T p).length then 1 else 0) else 0
structure RmS (ls:List (List En)) (T U:List En) (p:Bs) (rep:Int) (V:List En):Prop where
 no:rmS T p≠0→rep=rmS T p∧V=U
 gone:rmS T p=0→aL (aT (ls ++ [bF U p true])) p=none→rep=0∧V=bF U p true
 white:rmS T p=0→aL (aT (ls ++ [bF U p true])) p≠none→nN U (bF U p true) ⟨p,3,0,[]⟩ rep V
theorem RmS.stay {ls:List (List En)} {T U:List En} {p:Bs} {q:Int} (h:rmS T p=q) (hq:q≠0):RmS ls T U p q U:=⟨fun _=>⟨h.symm,rfl⟩,fun h2=>absurd (h.symm.trans h2) hq,fun h2=>absurd (h.symm.trans h2) hq⟩
theorem wY {U:List En} {p:Bs} (h:bD U) (hp:aG p=0):bD (bF U p true):=by
 have h1:=zya h hp;have h2:zva U p=bF U p true:=zf5 (fun x hx=>bO (h.ent x hx)) hp
 rwa [h2]at h1
theorem zg4 (a:Option Addr) (c n:Nat) (ls:List (List En)) (u:Option Addr) (uc m:Nat) (U:List En) (p:Bs) (w:World) (h:RdL w a ls) (hn:n=ls.length) (hU:RdE w u U) (hm:m=U.length) (h4:(ls ++ [U]).length≤4) (hR:∀ es∈ls ++ [U],bD es) (hp:aG p=0) (hpl:p.length≤1048576) :
  Calls Tryz.prog 252 #[.slice a n c,.slice u m uc,.string (str p)] w fun r w'=>∃ rep V,RmS ls (aT (ls ++ [U])) U p rep V∧eP 0 rep V w r w':=by
 subst hn;subst hm;have hRU:bD U:=hR U (by simp)
 have hl4:ls.length≤4:=by rw[List.length_append]at h4;omega
 have hUl:=hRU.len;have HUs:=aA (cS hRU);have HP:=aA hp;have X0:=aA (dE.new w (.int .i64 0) (.int .i64 0) (.slice none 0 0) 267);have B0:=aA (aC w (.cells #[.int .i64 0,.int .i64 0,.slice none 0 0] 267));have HA:=aA (jO a c ls.length ls u uc U.length U _ (h.below B0.out) rfl (by omega) (hU.below B0.out) rfl)
 have HU:=aA hU;have HST:=aA (fun (q:Int) v (hv:Below w.heap.size w v)=>nI u uc U.length U q v (HU.out.below hv) rfl (by omega) HUs.out)
 have HRR:=aA hR;have H4:=aA h4;have HRD:=aA h;have hRr:=wY hRU hp;have HRS:=aA (cS hRr);have hrl:=hRr.len;have H42:=aA (show (ls ++ [bF U p true]).length≤4 by rw[List.length_append]at h4 ⊢;simpa using h4)
 have HR2:=aA (show ∀ es∈ls ++ [bF U p true],bD es from fun es he=>by
  rcases List.mem_append.1 he with he | he
  ·exact hR es (List.mem_append_left _ he)
  ·simp at he;subst he;exact hRr)
 have HWO:=aA (fun v (hv:Below w.heap.size w v)=>zm2 u uc U.length U p true v (hU.below hv) rfl (by omega) HUs.out hpl)
 clear hRr;clear h hU hR hRU hp h4;obtain ⟨al,hal⟩:∃ al,al=ls ++ [U]:=⟨_,rfl⟩;rw[←hal]at HA HRR H4 ⊢;have HALL:=aA hal;clear hal;cases ha:aL (aT al) p with
 | none =>
  have HC:=aA (show rmS (aT al) p=4 by simp[rmS,ha])
  go_enter Tryz.func252,Tryz.ntmps252;go_wp2_with fail
  refine HA.out.mono ?_;rintro r w1 ⟨av,cv,rfl,hr1,hb1⟩;have X1:=aA (X0.out.below hb1);have B1:=aA (aB B0.out hb1);have R1:=aA hr1;have hlt:=X1.out.lt;clear hr1 hb1 HA X0 B0;have X2:=X1;have B2:=B1;have R2:=R1;clear X1 B1 R1;have HLK:=aA (jN av cv _ _ p w1 R2.out rfl H4.out HRR.out HP.out hpl ha);clear ha;go_wp2_with fail
  refine HLK.out.mono ?_;rintro r w3 ⟨rfl,hb3⟩;have A3:=aA (aC w3 (.cells #[.string ⟨#[]⟩,.int .i64 0,.int .i64 0,.slice none 0 0] 87));have B3:=aA (aB B2.out (aB hb3 A3.out));have X3:=aA (X2.out.below (aB hb3 A3.out));have R3:=aA (R2.out.below (aB hb3 A3.out));obtain ⟨f0,f1,f2,f3⟩:=cP.new w3 (.string ⟨#[]⟩) (.int .i64 0) (.int .i64 0) (.slice none 0 0) 87;clear hb3 A3 HLK X2 B2 R2;go_wp2_with fail
  clear f0 f1 f2 f3;generalize w3.alloc (.cells #[.string ⟨#[]⟩,.int .i64 0,.int .i64 0,.slice none 0 0] 87)=W3 at *;refine (HST.out 4 W3 B3.out).mono ?_;rintro r w9 ⟨av9,cv9,rfl,hG9,hb9⟩;have G9:=aA hG9;have B9:=aA (aB B3.out hb9);have hl9:=X3.out.lt;obtain ⟨⟨t0,t1,t2⟩,t3,t4,t5⟩:=X3.out.below hb9;clear hG9 hb9;go_wp2_with fail
  exact bodyPost_ret (v:=.agg #[.int .i64 0,.int .i64 4,.slice av9 U.length cv9]) (by simp[results,Tryz.results252,go_sem,t0,t1,t2]) rfl ⟨4,U,RmS.stay HC.out (by decide),eP.of hl9 (Nat.le_refl _) rfl G9.out B9.out⟩
 | some e =>
  by_cases hk:e.kind=2
  ·have hk2:(e.kind==2)=true:=by simpa using hk
   by_cases hn:0<(fN (aT al) p).length
   ·have HC:=aA (show rmS (aT al) p=1 by simp only[rmS,ha];rw[if_pos hk,if_pos hn])
    have hn2:(0:Int)<((fN (aT al) p).length:Int):=by omega
    clear hk hn;go_enter Tryz.func252,Tryz.ntmps252;go_wp2_with fail
    refine HA.out.mono ?_;rintro r w1 ⟨av,cv,rfl,hr1,hb1⟩;have X1:=aA (X0.out.below hb1);have B1:=aA (aB B0.out hb1);have R1:=aA hr1;have hlt:=X1.out.lt;clear hr1 hb1 HA X0 B0;have X2:=X1;have B2:=B1;have R2:=R1;clear X1 B1 R1;have HLK:=aA (fL av cv _ _ p w1 R2.out rfl H4.out HRR.out HP.out hpl e ha);clear ha;go_wp2_with fail
    refine HLK.out.mono ?_;rintro r w3 ⟨x,xc,rfl,-,hb3⟩;have A3:=aA (aC w3 (.cells #[.string (str e.path),.int .i64 e.kind,.int .i64 e.size,.slice x e.chunks.length xc] 87));have B3:=aA (aB B2.out (aB hb3 A3.out));have X3:=aA (X2.out.below (aB hb3 A3.out));have R3:=aA (R2.out.below (aB hb3 A3.out));obtain ⟨f0,f1,f2,f3⟩:=cP.new w3 (.string (str e.path)) (.int .i64 e.kind) (.int .i64 e.size) (.slice x e.chunks.length xc) 87;clear hb3 A3 HLK X2 B2 R2;go_wp2_with fail
    clear f0 f1 f2 f3;generalize w3.alloc (.cells #[.string (str e.path),.int .i64 e.kind,.int .i64 e.size,.slice x e.chunks.length xc] 87)=W3 at *;have HNM:=aA (qW av cv _ _ p W3 R3.out rfl H4.out HRR.out (.inr HP.out) hpl);refine HNM.out.mono ?_;rintro r w4 ⟨nv,nc,rfl,-,hb4⟩;have X4:=aA (X3.out.below hb4);have B4:=aA (aB B3.out hb4);clear hb4 HNM X3 B3 R3;generalize (fN (aT al) p).length=NL at *;go_wp2_with fail
    refine (HST.out 1 w4 B4.out).mono ?_;rintro r w9 ⟨av9,cv9,rfl,hG9,hb9⟩;have G9:=aA hG9;have B9:=aA (aB B4.out hb9);have hl9:=X4.out.lt;obtain ⟨⟨t0,t1,t2⟩,t3,t4,t5⟩:=X4.out.below hb9;clear hG9 hb9;go_wp2_with fail
    exact bodyPost_ret (v:=.agg #[.int .i64 0,.int .i64 1,.slice av9 U.length cv9]) (by simp[results,Tryz.results252,go_sem,t0,t1,t2]) rfl ⟨1,U,RmS.stay HC.out (by decide),eP.of hl9 (Nat.le_refl _) rfl G9.out B9.out⟩
   ·have HC:=aA (show rmS (aT al) p=0 by simp only[rmS,ha];rw[if_pos hk,if_neg hn])
    have hn2:¬ (0:Int)<((fN (aT al) p).length:Int):=by omega
    clear hk hn;cases hs2:aL (aT (ls ++ [bF U p true])) p with
    | none =>
     have HCP0:Hid (RmS ls (aT al) U p 0 (bF U p true)):=aA ⟨fun h=>absurd HC.out h,fun _ _=>⟨rfl,rfl⟩,fun _ h=>absurd hs2 h⟩
     have HE2:=aA hs2;clear hs2;obtain ⟨RU,hRU⟩:∃ RU,RU=bF U p true:=⟨_,rfl⟩;have HCP:Hid (RmS ls (aT al) U p 0 RU):=aA (by rw[hRU];exact HCP0.out)
     clear HCP0;rw[←hRU]at HRS hrl H42 HR2 HWO HE2;clear hRU;obtain ⟨al2,hal2⟩:∃ al2,al2=ls ++ [RU]:=⟨_,rfl⟩;rw[←hal2]at H42 HR2 HE2;have HAL2:=aA hal2;clear hal2;go_enter Tryz.func252,Tryz.ntmps252;go_wp2_with fail
     refine HA.out.mono ?_;rintro r w1 ⟨av,cv,rfl,hr1,hb1⟩;have X1:=aA (X0.out.below hb1);have B1:=aA (aB B0.out hb1);have R1:=aA hr1;have hlt:=X1.out.lt;clear hr1 hb1 HA X0 B0;have X2:=X1;have B2:=B1;have R2:=R1;clear X1 B1 R1;have HLK:=aA (fL av cv _ _ p w1 R2.out rfl H4.out HRR.out HP.out hpl e ha);clear ha;go_wp2_with fail
     refine HLK.out.mono ?_;rintro r w3 ⟨x,xc,rfl,-,hb3⟩;have A3:=aA (aC w3 (.cells #[.string (str e.path),.int .i64 e.kind,.int .i64 e.size,.slice x e.chunks.length xc] 87));have B3:=aA (aB B2.out (aB hb3 A3.out));have X3:=aA (X2.out.below (aB hb3 A3.out));have R3:=aA (R2.out.below (aB hb3 A3.out));obtain ⟨f0,f1,f2,f3⟩:=cP.new w3 (.string (str e.path)) (.int .i64 e.kind) (.int .i64 e.size) (.slice x e.chunks.length xc) 87;clear hb3 A3 HLK X2 B2 R2;go_wp2_with fail
     clear f0 f1 f2 f3;generalize w3.alloc (.cells #[.string (str e.path),.int .i64 e.kind,.int .i64 e.size,.slice x e.chunks.length xc] 87)=W3 at *;have HNM:=aA (qW av cv _ _ p W3 R3.out rfl H4.out HRR.out (.inr HP.out) hpl);refine HNM.out.mono ?_;rintro r w4 ⟨nv,nc,rfl,-,hb4⟩;have X4:=aA (X3.out.below hb4);have B4:=aA (aB B3.out hb4);clear hb4 HNM X3 B3 R3;generalize (fN (aT al) p).length=NL at *;go_wp2_with fail
     have hxW:=X4.out.lt;refine (HWO.out w4 B4.out).mono ?_;rintro r w6 ⟨g6,c6,rfl,hG6,hb6⟩;have X6:=aA (X4.out.below hb6);have B6:=aA (aB B4.out hb6);have G6:=aA (GW.of hG6);have HA6:=aA (jO a c ls.length ls (some ⟨g6,0,none⟩) c6 RU.length RU w6 (HRD.out.below B6.out) rfl (by omega) hG6.rd rfl)
     rw[←HAL2.out]at HA6;clear hG6 hb6 HWO;go_wp2_with fail
     refine HA6.out.mono ?_;rintro r w7 ⟨av7,cv7,rfl,hr7,hb7⟩;have X7:=aA (X6.out.below hb7);have B7:=aA (aB B6.out hb7);have G7:=aA (G6.out.below hb7);have HL7:=aA (jN av7 cv7 al2.length al2 p w7 hr7 rfl H42.out HR2.out HP.out hpl HE2.out);clear hr7 hb7 HA6 X6 B6 G6;go_wp2_with fail
     refine HL7.out.mono ?_;rintro r w8 ⟨rfl,hb8⟩;have A8:=aA (aB hb8 (aC w8 (.cells #[.string ⟨#[]⟩,.int .i64 0,.int .i64 0,.slice none 0 0] 87)));have B8:=aA (aB B7.out A8.out);have G8:=aA (G7.out.below A8.out);obtain ⟨⟨t0,t1,t2⟩,t3,t4,t5⟩:=X7.out.below A8.out;clear hb8 A8 HL7 B7 G7;go_wp2_with fail
     exact bodyPost_ret (v:=.agg #[.int .i64 0,.int .i64 0,.slice (some ⟨g6,0,none⟩) RU.length c6]) (by simp[results,Tryz.results252,go_sem,t0,t1,t2]) rfl ⟨0,RU,HCP.out,eP.of (b:=w.heap.size) hxW (Nat.le_refl _) rfl G8.out B8.out⟩
    | some e2 =>
     obtain ⟨rep,V,hV⟩:=lL U (bF U p true) ⟨p,3,0,[]⟩;have HCP:Hid (RmS ls (aT al) U p rep V):=aA ⟨fun h=>absurd HC.out h,fun _ h=>absurd (hs2.symm.trans h) (by simp),fun _ _=>hV⟩
     have HE2:=aA hs2;have HV:=aA hV;clear hV hs2;obtain ⟨RU,hRU⟩:∃ RU,RU=bF U p true:=⟨_,rfl⟩;rw[←hRU]at HRS hrl H42 HR2 HWO HE2 HV;clear hRU;obtain ⟨al2,hal2⟩:∃ al2,al2=ls ++ [RU]:=⟨_,rfl⟩;rw[←hal2]at H42 HR2 HE2;have HAL2:=aA hal2;clear hal2;go_enter Tryz.func252,Tryz.ntmps252;go_wp2_with fail
     refine HA.out.mono ?_;rintro r w1 ⟨av,cv,rfl,hr1,hb1⟩;have X1:=aA (X0.out.below hb1);have B1:=aA (aB B0.out hb1);have R1:=aA hr1;have hlt:=X1.out.lt;clear hr1 hb1 HA X0 B0;have X2:=X1;have B2:=B1;have R2:=R1;clear X1 B1 R1;have HLK:=aA (fL av cv _ _ p w1 R2.out rfl H4.out HRR.out HP.out hpl e ha);clear ha;go_wp2_with fail
     refine HLK.out.mono ?_;rintro r w3 ⟨x,xc,rfl,-,hb3⟩;have A3:=aA (aC w3 (.cells #[.string (str e.path),.int .i64 e.kind,.int .i64 e.size,.slice x e.chunks.length xc] 87));have B3:=aA (aB B2.out (aB hb3 A3.out));have X3:=aA (X2.out.below (aB hb3 A3.out));have R3:=aA (R2.out.below (aB hb3 A3.out));obtain ⟨f0,f1,f2,f3⟩:=cP.new w3 (.string (str e.path)) (.int .i64 e.kind) (.int .i64 e.size) (.slice x e.chunks.length xc) 87;clear hb3 A3 HLK X2 B2 R2;go_wp2_with fail
     clear f0 f1 f2 f3;generalize w3.alloc (.cells #[.string (str e.path),.int .i64 e.kind,.int .i64 e.size,.slice x e.chunks.length xc] 87)=W3 at *;have HNM:=aA (qW av cv _ _ p W3 R3.out rfl H4.out HRR.out (.inr HP.out) hpl);refine HNM.out.mono ?_;rintro r w4 ⟨nv,nc,rfl,-,hb4⟩;have X4:=aA (X3.out.below hb4);have B4:=aA (aB B3.out hb4);clear hb4 HNM X3 B3 R3;generalize (fN (aT al) p).length=NL at *;go_wp2_with fail
     have hxW:=X4.out.lt;refine (HWO.out w4 B4.out).mono ?_;rintro r w6 ⟨g6,c6,rfl,hG6,hb6⟩;have X6:=aA (X4.out.below hb6);have B6:=aA (aB B4.out hb6);have G6:=aA (GW.of hG6);have HA6:=aA (jO a c ls.length ls (some ⟨g6,0,none⟩) c6 RU.length RU w6 (HRD.out.below B6.out) rfl (by omega) hG6.rd rfl)
     rw[←HAL2.out]at HA6;clear hG6 hb6 HWO;go_wp2_with fail
     refine HA6.out.mono ?_;rintro r w7 ⟨av7,cv7,rfl,hr7,hb7⟩;have X7:=aA (X6.out.below hb7);have B7:=aA (aB B6.out hb7);have G7:=aA (G6.out.below hb7);have HL7:=aA (fL av7 cv7 al2.length al2 p w7 hr7 rfl H42.out HR2.out HP.out hpl e2 HE2.out);clear hr7 hb7 HA6 X6 B6 G6;go_wp2_with fail
     refine HL7.out.mono ?_;rintro r w8 ⟨x8,xc8,rfl,-,hb8⟩;have A8:=aA (aB hb8 (aC w8 (.cells #[.string (str e2.path),.int .i64 e2.kind,.int .i64 e2.size,.slice x8 e2.chunks.length xc8] 87)));have X8:=aA (X7.out.below A8.out);have B8:=aA (aB B7.out A8.out);have G8:=aA (G7.out.below A8.out);clear hb8 A8 HL7 X7 B7 G7;go_wp2_with fail
     generalize w8.alloc (.cells #[.string (str e2.path),.int .i64 e2.kind,.int .i64 e2.size,.slice x8 e2.chunks.length xc8] 87)=W8 at *;have HFL:=aA (jT u uc U.length U (some ⟨g6,0,none⟩) c6 RU.length RU ⟨p,3,0,[]⟩ none 0 0 W8 (HU.out.below B8.out) rfl (by omega) HUs.out G8.out.rd rfl (by omega) HRS.out HP.out rfl (fun hz=>absurd rfl hz) hpl (by simp) rep V HV.out)
     refine HFL.out.mono ?_;rintro r w9 ⟨av9,cv9,rfl,hG9,hb9⟩;have G9:=aA hG9;have B9:=aA (aB B8.out hb9);have hl9:=X8.out.lt;obtain ⟨⟨t0,t1,t2⟩,t3,t4,t5⟩:=X8.out.below hb9;clear hG9 hb9;go_wp2_with fail
     exact bodyPost_ret (v:=.agg #[.int .i64 0,.int .i64 rep,.slice av9 V.length cv9]) (by simp[results,Tryz.results252,go_sem,t0,t1,t2]) rfl ⟨rep,V,HCP.out,eP.of hl9 (Nat.le_refl _) rfl G9.out B9.out⟩
  ·have HC:=aA (show rmS (aT al) p=0 by simp only[rmS,ha];rw[if_neg hk])
   have hk2:(e.kind==2)=false:=by simpa using hk
   clear hk;cases hs2:aL (aT (ls ++ [bF U p true])) p with
   | none =>
    have HCP0:Hid (RmS ls (aT al) U p 0 (bF U p true)):=aA ⟨fun h=>absurd HC.out h,fun _ _=>⟨rfl,rfl⟩,fun _ h=>absurd hs2 h⟩
    have HE2:=aA hs2;clear hs2;obtain ⟨RU,hRU⟩:∃ RU,RU=bF U p true:=⟨_,rfl⟩;have HCP:Hid (RmS ls (aT al) U p 0 RU):=aA (by rw[hRU];exact HCP0.out)
    clear HCP0;rw[←hRU]at HRS hrl H42 HR2 HWO HE2;clear hRU;obtain ⟨al2,hal2⟩:∃ al2,al2=ls ++ [RU]:=⟨_,rfl⟩;rw[←hal2]at H42 HR2 HE2;have HAL2:=aA hal2;clear hal2;go_enter Tryz.func252,Tryz.ntmps252;go_wp2_with fail
    refine HA.out.mono ?_;rintro r w1 ⟨av,cv,rfl,hr1,hb1⟩;have X1:=aA (X0.out.below hb1);have B1:=aA (aB B0.out hb1);have R1:=aA hr1;have hlt:=X1.out.lt;clear hr1 hb1 HA X0 B0;have X2:=X1;have B2:=B1;have R2:=R1;clear X1 B1 R1;have HLK:=aA (fL av cv _ _ p w1 R2.out rfl H4.out HRR.out HP.out hpl e ha);clear ha;go_wp2_with fail
    refine HLK.out.mono ?_;rintro r w3 ⟨x,xc,rfl,-,hb3⟩;have A3:=aA (aC w3 (.cells #[.string (str e.path),.int .i64 e.kind,.int .i64 e.size,.slice x e.chunks.length xc] 87));have B3:=aA (aB B2.out (aB hb3 A3.out));have X3:=aA (X2.out.below (aB hb3 A3.out));have R3:=aA (R2.out.below (aB hb3 A3.out));obtain ⟨f0,f1,f2,f3⟩:=cP.new w3 (.string (str e.path)) (.int .i64 e.kind) (.int .i64 e.size) (.slice x e.chunks.length xc) 87;clear hb3 A3 HLK X2 B2 R2;go_wp2_with fail
    clear f0 f1 f2 f3;generalize w3.alloc (.cells #[.string (str e.path),.int .i64 e.kind,.int .i64 e.size,.slice x e.chunks.length xc] 87)=W3 at *;have hxW:=X3.out.lt;refine (HWO.out W3 B3.out).mono ?_;rintro r w6 ⟨g6,c6,rfl,hG6,hb6⟩;have X6:=aA (X3.out.below hb6);have B6:=aA (aB B3.out hb6);have G6:=aA (GW.of hG6);have HA6:=aA (jO a c ls.length ls (some ⟨g6,0,none⟩) c6 RU.length RU w6 (HRD.out.below B6.out) rfl (by omega) hG6.rd rfl)
    rw[←HAL2.out]at HA6;clear hG6 hb6 HWO;go_wp2_with fail
    refine HA6.out.mono ?_;rintro r w7 ⟨av7,cv7,rfl,hr7,hb7⟩;have X7:=aA (X6.out.below hb7);have B7:=aA (aB B6.out hb7);have G7:=aA (G6.out.below hb7);have HL7:=aA (jN av7 cv7 al2.length al2 p w7 hr7 rfl H42.out HR2.out HP.out hpl HE2.out);clear hr7 hb7 HA6 X6 B6 G6;go_wp2_with fail
    refine HL7.out.mono ?_;rintro r w8 ⟨rfl,hb8⟩;have A8:=aA (aB hb8 (aC w8 (.cells #[.string ⟨#[]⟩,.int .i64 0,.int .i64 0,.slice none 0 0] 87)));have B8:=aA (aB B7.out A8.out);have G8:=aA (G7.out.below A8.out);obtain ⟨⟨t0,t1,t2⟩,t3,t4,t5⟩:=X7.out.below A8.out;clear hb8 A8 HL7 B7 G7;go_wp2_with fail
    exact bodyPost_ret (v:=.agg #[.int .i64 0,.int .i64 0,.slice (some ⟨g6,0,none⟩) RU.length c6]) (by simp[results,Tryz.results252,go_sem,t0,t1,t2]) rfl ⟨0,RU,HCP.out,eP.of (b:=w.heap.size) hxW (Nat.le_refl _) rfl G8.out B8.out⟩
   | some e2 =>
    obtain ⟨rep,V,hV⟩:=lL U (bF U p true) ⟨p,3,0,[]⟩;have HCP:Hid (RmS ls (aT al) U p rep V):=aA ⟨fun h=>absurd HC.out h,fun _ h=>absurd (hs2.symm.trans h) (by simp),fun _ _=>hV⟩
    have HE2:=aA hs2;have HV:=aA hV;clear hV hs2;obtain ⟨RU,hRU⟩:∃ RU,RU=bF U p true:=⟨_,rfl⟩;rw[←hRU]at HRS hrl H42 HR2 HWO HE2 HV;clear hRU;obtain ⟨al2,hal2⟩:∃ al2,al2=ls ++ [RU]:=⟨_,rfl⟩;rw[←hal2]at H42 HR2 HE2;have HAL2:=aA hal2;clear hal2;go_enter Tryz.func252,Tryz.ntmps252;go_wp2_with fail
    refine HA.out.mono ?_;rintro r w1 ⟨av,cv,rfl,hr1,hb1⟩;have X1:=aA (X0.out.below hb1);have B1:=aA (aB B0.out hb1);have R1:=aA hr1;have hlt:=X1.out.lt;clear hr1 hb1 HA X0 B0;have X2:=X1;have B2:=B1;have R2:=R1;clear X1 B1 R1;have HLK:=aA (fL av cv _ _ p w1 R2.out rfl H4.out HRR.out HP.out hpl e ha);clear ha;go_wp2_with fail
    refine HLK.out.mono ?_;rintro r w3 ⟨x,xc,rfl,-,hb3⟩;have A3:=aA (aC w3 (.cells #[.string (str e.path),.int .i64 e.kind,.int .i64 e.size,.slice x e.chunks.length xc] 87));have B3:=aA (aB B2.out (aB hb3 A3.out));have X3:=aA (X2.out.below (aB hb3 A3.out));have R3:=aA (R2.out.below (aB hb3 A3.out));obtain ⟨f0,f1,f2,f3⟩:=cP.new w3 (.string (str e.path)) (.int .i64 e.kind) (.int .i64 e.size) (.slice x e.chunks.length xc) 87;clear hb3 A3 HLK X2 B2 R2;go_wp2_with fail
    clear f0 f1 f2 f3;generalize w3.alloc (.cells #[.string (str e.path),.int .i64 e.kind,.int .i64 e.size,.slice x e.chunks.length xc] 87)=W3 at *;have hxW:=X3.out.lt;refine (HWO.out W3 B3.out).mono ?_;rintro r w6 ⟨g6,c6,rfl,hG6,hb6⟩;have X6:=aA (X3.out.below hb6);have B6:=aA (aB B3.out hb6);have G6:=aA (GW.of hG6);have HA6:=aA (jO a c ls.length ls (some ⟨g6,0,none⟩) c6 RU.length RU w6 (HRD.out.below B6.out) rfl (by omega) hG6.rd rfl)
    rw[←HAL2.out]at HA6;clear hG6 hb6 HWO;go_wp2_with fail
    refine HA6.out.mono ?_;rintro r w7 ⟨av7,cv7,rfl,hr7,hb7⟩;have X7:=aA (X6.out.below hb7);have B7:=aA (aB B6.out hb7);have G7:=aA (G6.out.below hb7);have HL7:=aA (fL av7 cv7 al2.length al2 p w7 hr7 rfl H42.out HR2.out HP.out hpl e2 HE2.out);clear hr7 hb7 HA6 X6 B6 G6;go_wp2_with fail
    refine HL7.out.mono ?_;rintro r w8 ⟨x8,xc8,rfl,-,hb8⟩;have A8:=aA (aB hb8 (aC w8 (.cells #[.string (str e2.path),.int .i64 e2.kind,.int .i64 e2.size,.slice x8 e2.chunks.length xc8] 87)));have X8:=aA (X7.out.below A8.out);have B8:=aA (aB B7.out A8.out);have G8:=aA (G7.out.below A8.out);clear hb8 A8 HL7 X7 B7 G7;go_wp2_with fail
    generalize w8.alloc (.cells #[.string (str e2.path),.int .i64 e2.kind,.int .i64 e2.size,.slice x8 e2.chunks.length xc8] 87)=W8 at *;have HFL:=aA (jT u uc U.length U (some ⟨g6,0,none⟩) c6 RU.length RU ⟨p,3,0,[]⟩ none 0 0 W8 (HU.out.below B8.out) rfl (by omega) HUs.out G8.out.rd rfl (by omega) HRS.out HP.out rfl (fun hz=>absurd rfl hz) hpl (by simp) rep V HV.out)
    refine HFL.out.mono ?_;rintro r w9 ⟨av9,cv9,rfl,hG9,hb9⟩;have G9:=aA hG9;have B9:=aA (aB B8.out hb9);have hl9:=X8.out.lt;obtain ⟨⟨t0,t1,t2⟩,t3,t4,t5⟩:=X8.out.below hb9;clear hG9 hb9;go_wp2_with fail
    exact bodyPost_ret (v:=.agg #[.int .i64 0,.int .i64 rep,.slice av9 V.length cv9]) (by simp[results,Tryz.results252,go_sem,t0,t1,t2]) rfl ⟨rep,V,HCP.out,eP.of hl9 (Nat.le_refl _) rfl G9.out B9.out⟩
structure gN (A:Int) (P:Int→List En→Prop) (q rep:Int) (V:List En):Prop where
 bad:A≠0→q=A∧rep=0∧V=[]
 good:A=0→q=0∧P rep V
theorem gN.no {A:Int} {P:Int→List En→Prop} (h:A≠0):gN A P A 0 []:=⟨fun _=>⟨rfl,rfl,rfl⟩,fun h2=>absurd h2 h⟩
theorem gN.yes {A:Int} {P:Int→List En→Prop} {rep:Int} {V:List En} (h:A=0) (hP:P rep V):gN A P 0 rep V:=⟨fun h2=>absurd h h2,fun _=>⟨rfl,hP⟩⟩
theorem yC (a:Option Addr) (c n:Nat) (ls:List (List En)) (u:Option Addr) (uc m:Nat) (U:List En) (p:Bs) (w:World) (h:RdL w a ls) (hn:n=ls.length) (hl:ls.length≤1000000) (hU:RdE w u U) (hm:m=U.length) (hs:mE (ls ++ [U])) (hg:∀ es∈ls ++ [U],bY es=aQ es) (hpl:p.length≤1048576) :
  Calls Tryz.prog 223 #[.slice a n c,.slice u m uc,.string (str p)] w fun r w'=>∃ q rep V,gN (gH (ls ++ [U]) p) (MkS (aT (ls ++ [U])) U p) q rep V∧eP q rep V w r w':=by
 subst hn;subst hm;have X0:=aA (dE.new w (.int .i64 0) (.int .i64 0) (.slice none 0 0) 267);have B0:=aA (aC w (.cells #[.int .i64 0,.int .i64 0,.slice none 0 0] 267));have HAS:=aA (qX a c ls.length ls u uc U.length U p _ (h.below B0.out) rfl hl (hU.below B0.out) rfl hs hg hpl);have HU:=aA hU;have HRD:=aA h;clear h hU hs hg;obtain ⟨al,hal⟩:∃ al,al=ls ++ [U]:=⟨_,rfl⟩;obtain ⟨PP,hPP⟩:∃ PP:Int→List En→Prop,PP=MkS (aT (ls ++ [U])) U p:=⟨_,rfl⟩;rw[←hPP];rw[←hal]at HAS ⊢;have HALL:=aA hal;have HPP:=aA hPP;clear hal hPP;by_cases hz:gH al p=0
 ·obtain ⟨h4,hRs,hp⟩:=rM hz
  have HC:=aA hz;rw[HALL.out]at h4 hRs;have HPT:=aA (fun v (hv:Below w.heap.size w v)=>zha a c ls.length ls u uc U.length U p v (HRD.out.below hv) rfl (HU.out.below hv) rfl h4 hRs hp hpl)
  rw[hz]at HAS;clear hz hRs hp h4;go_enter Tryz.func223,Tryz.ntmps223;go_wp2_with fail
  refine HAS.out.mono ?_;rintro r w2 ⟨rfl,hb2⟩;have X2:=aA (X0.out.below hb2);have B2:=aA (aB B0.out hb2);have hl2:=X2.out.lt;clear hb2 X0 B0 HAS;go_wp2_with fail
  refine (HPT.out w2 B2.out).mono ?_;rintro r w3 ⟨rep,V,hV,av3,cv3,rfl,hG3,hb3⟩;have HV:=aA (gN.yes (P:=PP) HC.out (by rw[HPP.out];exact hV))
  have G3:=aA hG3;have B3:=aA (aB B2.out hb3);obtain ⟨⟨t0,t1,t2⟩,t3,t4,t5⟩:=X2.out.below hb3;clear hV hG3 hb3 HPT;go_wp2_with fail
  exact bodyPost_ret (v:=.agg #[.int .i64 0,.int .i64 rep,.slice av3 V.length cv3]) (by simp[results,Tryz.results223,go_sem,t0,t1,t2]) rfl ⟨0,rep,V,HV.out,eP.of hl2 (Nat.le_refl _) rfl G3.out B3.out⟩
 ·have HZ:=aA (gN.no (P:=PP) hz)
  generalize gH al p=F at *;have hz2:(F != 0)=true:=by simp;exact hz
  clear hz;go_enter Tryz.func223,Tryz.ntmps223;go_wp2_with fail
  refine HAS.out.mono ?_;rintro r w2 ⟨rfl,hb2⟩;have B2:=aA (aB B0.out hb2);obtain ⟨⟨t0,t1,t2⟩,t3,t4,t5⟩:=X0.out.below hb2;clear hb2;go_wp2_with fail
  exact bodyPost_ret (v:=.agg #[.int .i64 F,.int .i64 0,.slice none 0 0]) (by simp[results,Tryz.results223,go_sem,t0,t1,t2]) rfl ⟨F,0,[],HZ.out,eP.of (b:=w.heap.size) (Nat.lt_succ_self _) (Nat.le_refl _) rfl (GW.nil _ _) B2.out⟩
theorem vB (a:Option Addr) (c n:Nat) (ls:List (List En)) (u:Option Addr) (uc m:Nat) (U:List En) (p:Bs) (w:World) (h:RdL w a ls) (hn:n=ls.length) (hl:ls.length≤1000000) (hU:RdE w u U) (hm:m=U.length) (hs:mE (ls ++ [U])) (hg:∀ es∈ls ++ [U],bY es=aQ es) (hpl:p.length≤1048576) :
  Calls Tryz.prog 224 #[.slice a n c,.slice u m uc,.string (str p)] w fun r w'=>∃ q rep V,gN (gH (ls ++ [U]) p) (RmS ls (aT (ls ++ [U])) U p) q rep V∧eP q rep V w r w':=by
 subst hn;subst hm;have X0:=aA (dE.new w (.int .i64 0) (.int .i64 0) (.slice none 0 0) 267);have B0:=aA (aC w (.cells #[.int .i64 0,.int .i64 0,.slice none 0 0] 267));have HAS:=aA (qX a c ls.length ls u uc U.length U p _ (h.below B0.out) rfl hl (hU.below B0.out) rfl hs hg hpl);have HU:=aA hU;have HRD:=aA h;clear h hU hs hg;obtain ⟨al,hal⟩:∃ al,al=ls ++ [U]:=⟨_,rfl⟩;obtain ⟨PP,hPP⟩:∃ PP:Int→List En→Prop,PP=RmS ls (aT (ls ++ [U])) U p:=⟨_,rfl⟩;rw[←hPP];rw[←hal]at HAS ⊢;have HALL:=aA hal;have HPP:=aA hPP;clear hal hPP;by_cases hz:gH al p=0
 ·obtain ⟨h4,hRs,hp⟩:=rM hz
  have HC:=aA hz;rw[HALL.out]at h4 hRs;have HPT:=aA (fun v (hv:Below w.heap.size w v)=>zg4 a c ls.length ls u uc U.length U p v (HRD.out.below hv) rfl (HU.out.below hv) rfl h4 hRs hp hpl)
  rw[hz]at HAS;clear hz hRs hp h4;go_enter Tryz.func224,Tryz.ntmps224;go_wp2_with fail
  refine HAS.out.mono ?_;rintro r w2 ⟨rfl,hb2⟩;have X2:=aA (X0.out.below hb2);have B2:=aA (aB B0.out hb2);have hl2:=X2.out.lt;clear hb2 X0 B0 HAS;go_wp2_with fail
  refine (HPT.out w2 B2.out).mono ?_;rintro r w3 ⟨rep,V,hV,av3,cv3,rfl,hG3,hb3⟩;have HV:=aA (gN.yes (P:=PP) HC.out (by rw[HPP.out];exact hV))
  have G3:=aA hG3;have B3:=aA (aB B2.out hb3);obtain ⟨⟨t0,t1,t2⟩,t3,t4,t5⟩:=X2.out.below hb3;clear hV hG3 hb3 HPT;go_wp2_with fail
  exact bodyPost_ret (v:=.agg #[.int .i64 0,.int .i64 rep,.slice av3 V.length cv3]) (by simp[results,Tryz.results224,go_sem,t0,t1,t2]) rfl ⟨0,rep,V,HV.out,eP.of hl2 (Nat.le_refl _) rfl G3.out B3.out⟩
 ·have HZ:=aA (gN.no (P:=PP) hz)
  generalize gH al p=F at *;have hz2:(F != 0)=true:=by simp;exact hz
  clear hz;go_enter Tryz.func224,Tryz.ntmps224;go_wp2_with fail
  refine HAS.out.mono ?_;rintro r w2 ⟨rfl,hb2⟩;have B2:=aA (aB B0.out hb2);obtain ⟨⟨t0,t1,t2⟩,t3,t4,t5⟩:=X0.out.below hb2;clear hb2;go_wp2_with fail
  exact bodyPost_ret (v:=.agg #[.int .i64 F,.int .i64 0,.slice none 0 0]) (by simp[results,Tryz.results224,go_sem,t0,t1,t2]) rfl ⟨F,0,[],HZ.out,eP.of (b:=w.heap.size) (Nat.lt_succ_self _) (Nat.le_refl _) rfl (GW.nil _ _) B2.out⟩
def kQ (ls:List (List En)) (p:Bs) (zs:List Int):Int:=if gH ls p=0 then (if 24<zs.length then 2 else 0) else gH ls p
theorem wD (a:Option Addr) (c n:Nat) (ls:List (List En)) (u:Option Addr) (uc m:Nat) (U:List En) (p:Bs) (zs:List Int) (d:Option Addr) (dn dc:Nat) (w:World) (h:RdL w a ls) (hn:n=ls.length) (hl:ls.length≤1000000) (hU:RdE w u U) (hm:m=U.length) (hs:mE (ls ++ [U])) (hg:∀ es∈ls ++ [U],bY es=aQ es) (hpl:p.length≤1048576) (hd:aZ .u8 w d zs) (hdn:dn=zs.length) (hu8:U8 zs) (hdc:zs.length≤dc) (hdl:zs.length≤1048576) :
  Calls Tryz.prog 222 #[.slice a n c,.slice u m uc,.string (str p),.slice d dn dc] w fun r w'=>∃ q rep V,gN (kQ (ls ++ [U]) p zs) (WrS (aT (ls ++ [U])) U p (dT p zs)) q rep V∧eP q rep V w r w':=by
 subst hn;subst hm;have X0:=aA (dE.new w (.int .i64 0) (.int .i64 0) (.slice none 0 0) 267);have B0:=aA (aC w (.cells #[.int .i64 0,.int .i64 0,.slice none 0 0] 267));have HAS:=aA (qX a c ls.length ls u uc U.length U p _ (h.below B0.out) rfl hl (hU.below B0.out) rfl hs hg hpl);have HU:=aA hU;have HRD:=aA h;subst hdn;have HD:=aA hd;have HU8:=aA hu8;clear hd hu8;clear h hU hs hg;obtain ⟨al,hal⟩:∃ al,al=ls ++ [U]:=⟨_,rfl⟩;obtain ⟨PP,hPP⟩:∃ PP:Int→List En→Prop,PP=WrS (aT (ls ++ [U])) U p (dT p zs):=⟨_,rfl⟩;rw[←hPP];rw[←hal]at HAS ⊢;have HALL:=aA hal;have HPP:=aA hPP
 clear hal hPP;by_cases hz:gH al p=0
 ·obtain ⟨h4,hRs,hp⟩:=rM hz
  have HC:=aA hz;rw[HALL.out]at h4 hRs;rw[hz]at HAS;by_cases hbig:24<zs.length
  ·have HZ:=aA (gN.no (P:=PP) (A:=kQ al p zs) (by rw[kQ,if_pos hz,if_pos hbig];decide))
   rw[show kQ al p zs=2 by rw[kQ,if_pos hz,if_pos hbig]]at HZ ⊢
   have hbi:(24:Int)<(zs.length:Int):=by omega
   clear hz hRs hp h4 hbig;go_enter Tryz.func222,Tryz.ntmps222;go_wp2_with fail
   refine HAS.out.mono ?_;rintro r w2 ⟨rfl,hb2⟩;have B2:=aA (aB B0.out hb2);obtain ⟨⟨t0,t1,t2⟩,t3,t4,t5⟩:=X0.out.below hb2;clear hb2;go_wp2_with fail
   exact bodyPost_ret (v:=.agg #[.int .i64 2,.int .i64 0,.slice none 0 0]) (by simp[results,Tryz.results222,go_sem,t0,t1,t2]) rfl ⟨2,0,[],HZ.out,eP.of (b:=w.heap.size) (Nat.lt_succ_self _) (Nat.le_refl _) rfl (GW.nil _ _) B2.out⟩
  ·have HPT:=aA (fun v (hv:Below w.heap.size w v)=>zz6 a c ls.length ls u uc U.length U p zs d dc v (HRD.out.below hv) rfl (HU.out.below hv) rfl h4 hRs hp hpl (HD.out.below hv) HU8.out hdc (by omega))
   have HC0:=aA (show kQ al p zs=0 by rw[kQ,if_pos hz,if_neg hbig])
   have hbi:¬ (24:Int)<(zs.length:Int):=by omega
   clear hz hRs hp h4 hbig;go_enter Tryz.func222,Tryz.ntmps222;go_wp2_with fail
   refine HAS.out.mono ?_;rintro r w2 ⟨rfl,hb2⟩;have X2:=aA (X0.out.below hb2);have B2:=aA (aB B0.out hb2);have hl2:=X2.out.lt;clear hb2 X0 B0 HAS;go_wp2_with fail
   refine (HPT.out w2 B2.out).mono ?_;rintro r w3 ⟨rep,V,hV,av3,cv3,rfl,hG3,hb3⟩;have HV:=aA (gN.yes (P:=PP) HC0.out (by rw[HPP.out];exact hV))
   have G3:=aA hG3;have B3:=aA (aB B2.out hb3);obtain ⟨⟨t0,t1,t2⟩,t3,t4,t5⟩:=X2.out.below hb3;clear hV hG3 hb3 HPT;go_wp2_with fail
   exact bodyPost_ret (v:=.agg #[.int .i64 0,.int .i64 rep,.slice av3 V.length cv3]) (by simp[results,Tryz.results222,go_sem,t0,t1,t2]) rfl ⟨0,rep,V,HV.out,eP.of hl2 (Nat.le_refl _) rfl G3.out B3.out⟩
 ·rw[show kQ al p zs=gH al p by rw[kQ,if_neg hz]]
  have HZ:=aA (gN.no (P:=PP) hz);generalize gH al p=F at *;have hz2:(F != 0)=true:=by simp;exact hz
  clear hz;go_enter Tryz.func222,Tryz.ntmps222;go_wp2_with fail
  refine HAS.out.mono ?_;rintro r w2 ⟨rfl,hb2⟩;have B2:=aA (aB B0.out hb2);obtain ⟨⟨t0,t1,t2⟩,t3,t4,t5⟩:=X0.out.below hb2;clear hb2;go_wp2_with fail
  exact bodyPost_ret (v:=.agg #[.int .i64 F,.int .i64 0,.slice none 0 0]) (by simp[results,Tryz.results222,go_sem,t0,t1,t2]) rfl ⟨F,0,[],HZ.out,eP.of (b:=w.heap.size) (Nat.lt_succ_self _) (Nat.le_refl _) rfl (GW.nil _ _) B2.out⟩
end Go.Proofs.YtgaeikgoknoamaaGreat
