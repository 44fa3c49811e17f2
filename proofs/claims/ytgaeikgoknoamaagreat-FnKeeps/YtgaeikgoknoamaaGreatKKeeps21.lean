/-
  Texts put together: MntJ MntK MntL.
-/
import Derived.Test.YtgaeikgoknoamaaGreatKKeeps20
import Derived.Test.YtgaeikgoknoamaaGreatKKeeps6
import Derived.Test.YtgaeikgoknoamaaGreatKKeeps5
import Derived.Test.YtgaeikgoknoamaaGreatKKeeps17
import Derived.Test.YtgaeikgoknoamaaGreatKKeeps19
set_option linter.unusedVariables false
set_option maxHeartbeats 6400000
set_option maxRecDepth 100000
namespace Go.Proofs.YtgaeikgoknoamaaGreat
open Go.RowKit Go.Maps
attribute [local go_sem ↓] Go.wp_at_zero Go.wp_at_succ
def oS (O U:List En) (e:En) (rep:Int) (V:List En):Prop:=(12<(gQ U e).length→rep=2∧V=O)∧(¬ 12<(gQ U e).length→rep=0∧V=gQ U e)
theorem mK (O U:List En) (e:En):∃ rep V,oS O U e rep V:=by
 by_cases h:12<(gQ U e).length
 ·exact ⟨2,O,fun _=>⟨rfl,rfl⟩,fun h2=>absurd h h2⟩
 ·exact ⟨0,gQ U e,fun h2=>absurd h2 h,fun _=>⟨rfl,rfl⟩⟩
def wrS (T:List En) (p:Bs):Int:=if eH T p=0 then (match aK T p with | some e=>if e.kind=2 then 9 else 0 | none=>0) else eH T p
structure WrS (T U:List En) (p:Bs) (e:En) (rep:Int) (V:List En):Prop where
 no:wrS T p≠0→rep=wrS T p∧V=U
 yes:wrS T p=0→oS U U e rep V
theorem WrS.stay {T U:List En} {p:Bs} {e:En} {q:Int} (h:wrS T p=q) (hq:q≠0):WrS T U p e q U:=⟨fun _=>⟨h.symm,rfl⟩,fun h2=>absurd (h.symm.trans h2) hq⟩
theorem WrS.fill {T U:List En} {p:Bs} {e:En} {rep:Int} {V:List En} (h:wrS T p=0) (hf:oS U U e rep V):WrS T U p e rep V:=⟨fun h2=>absurd h h2,fun _=>hf⟩
def mkS (T:List En) (p:Bs):Int:=if eH T p=0 then (if (aK T p).isSome then 7 else 0) else eH T p
def kQ (U:List En) (p:Bs):En:=⟨p,(match aK U p with | some x=>if x.kind=3 then 4 else 2 | none=>2),0,[]⟩
structure MkS (T U:List En) (p:Bs) (rep:Int) (V:List En):Prop where
 no:mkS T p≠0→rep=mkS T p∧V=U
 yes:mkS T p=0→oS U U (kQ U p) rep V
theorem MkS.stay {T U:List En} {p:Bs} {q:Int} (h:mkS T p=q) (hq:q≠0):MkS T U p q U:=⟨fun _=>⟨h.symm,rfl⟩,fun h2=>absurd (h.symm.trans h2) hq⟩
theorem MkS.fill {T U:List En} {p:Bs} {rep:Int} {V:List En} (h:mkS T p=0) (hf:oS U U (kQ U p) rep V):MkS T U p rep V:=⟨fun h2=>absurd h h2,fun _=>hf⟩
theorem zz8 (a:Option Addr) (c n:Nat) (ls:List (List En)) (u:Option Addr) (uc m:Nat) (U:List En) (p:Bs) (zs:List Int) (d:Option Addr) (dc:Nat) (w:World) (h:RdL w a ls) (hn:n=ls.length) (hU:RdE w u U) (hm:m=U.length) (h4:(ls ++ [U]).length≤4) (hR:∀ es∈ls ++ [U],aV es) (hp:aF p=0) (hpl:p.length≤1048576) (hd:aO .u8 w d zs) (hu8:U8 zs) (hdc:zs.length≤dc) (hdl:zs.length≤24) :
  Calls Tryz.prog 250 #[.slice a n c,.slice u m uc,.string (str p),.slice d zs.length dc] w fun r w'=>∃ rep V,WrS (aY (ls ++ [U])) U p (bV p zs) rep V∧eT 0 rep V w r w':=by
 subst hn;subst hm;have hRU:aV U:=hR U (by simp)
 have hl4:ls.length≤4:=by rw[List.length_append]at h4;omega
 have hUl:=hRU.len;have HUs:=aA (cN hRU);have HP:=aA hp;have X0:=aA (fB.new w (.int .i64 0) (.int .i64 0) (.slice none 0 0) 267);have B0:=aA (aC w (.cells #[.int .i64 0,.int .i64 0,.slice none 0 0] 267));have HA:=aA (jW a c ls.length ls u uc U.length U _ (h.below B0.out) rfl (by omega) (hU.below B0.out) rfl)
 have HU:=aA hU;have HST:=aA (fun (q:Int) v (hv:Below w.heap.size w v)=>oM u uc U.length U q v (HU.out.below hv) rfl (by omega) HUs.out)
 have HRR:=aA hR;have H4:=aA h4;have HD:=aA hd;have HU8:=aA hu8;clear hd hu8;clear h hU hR hRU hp h4;obtain ⟨al,hal⟩:∃ al,al=ls ++ [U]:=⟨_,rfl⟩;rw[←hal]at HA HRR H4 ⊢;have HALL:=aA hal;clear hal;by_cases hh:eH (aY al) p=0
 ·cases ha:aK (aY al) p with
  | none =>
   have HC:=aA (show wrS (aY al) p=0 by simp[wrS,hh,ha])
   have HFI:=aA (fun v (hv:Below w.heap.size w v)=>qA p d dc zs v (HD.out.below hv) HU8.out hdc hdl)
   obtain ⟨rep,V,hV⟩:=mK U U (bV p zs);have HV:=aA hV;clear hV;go_enter Tryz.func250,Tryz.ntmps250;go_wp2_with fail
   refine HA.out.mono ?_;rintro r w1 ⟨av,cv,rfl,hr1,hb1⟩;have X1:=aA (X0.out.below hb1);have B1:=aA (aB B0.out hb1);have R1:=aA hr1;have hlt:=X1.out.lt;clear hr1 hb1 HA X0 B0;have HHM:=aA (iO av cv _ _ p w1 R1.out rfl H4.out HRR.out HP.out hpl);rw[hh]at HHM;clear hh;go_wp2_with fail
   refine HHM.out.mono ?_;rintro r w2 ⟨rfl,hb2⟩;have X2:=aA (X1.out.below hb2);have B2:=aA (aB B1.out hb2);have R2:=aA (R1.out.below hb2);clear hb2 HHM X1 B1 R1;have HLK:=aA (jV av cv _ _ p w2 R2.out rfl H4.out HRR.out HP.out hpl ha);clear ha;go_wp2_with fail
   refine HLK.out.mono ?_;rintro r w3 ⟨rfl,hb3⟩;have A3:=aA (aC w3 (.cells #[.string ⟨#[]⟩,.int .i64 0,.int .i64 0,.slice none 0 0] 87));have B3:=aA (aB B2.out (aB hb3 A3.out));have X3:=aA (X2.out.below (aB hb3 A3.out));have R3:=aA (R2.out.below (aB hb3 A3.out));obtain ⟨f0,f1,f2,f3⟩:=dI.new w3 (.string ⟨#[]⟩) (.int .i64 0) (.int .i64 0) (.slice none 0 0) 87;clear hb3 A3 HLK X2 B2 R2;go_wp2_with fail
   clear f0 f1 f2 f3;generalize w3.alloc (.cells #[.string ⟨#[]⟩,.int .i64 0,.int .i64 0,.slice none 0 0] 87)=W3 at *;refine (HFI.out W3 B3.out).mono ?_;rintro r w4 ⟨yv,yc,rfl,hO4,hb4⟩;have B4:=aA (aB B3.out hb4);have X4:=aA (X3.out.below hb4);have HFL:=aA (kH u uc U.length U u uc U.length U (bV p zs) yv (cut zs).length yc w4 (HU.out.below B4.out) rfl (by omega) HUs.out (HU.out.below B4.out) rfl (by omega) HUs.out HP.out (kD zs).symm (cM hO4 (kD zs).symm) hpl (by show (kP zs (cut zs).length).length≤1048576;rw[kD,gP];omega) rep V HV.out)
   rw[show (bV p zs).path=p from rfl,show (bV p zs).kind=1 from rfl,show (bV p zs).size=zs.length from rfl]at HFL
   clear hO4 hb4 X3 B3;go_wp2_with fail
   refine HFL.out.mono ?_;rintro r w9 ⟨av9,cv9,rfl,hG9,hb9⟩;have G9:=aA hG9;have B9:=aA (aB B4.out hb9);have hl9:=X4.out.lt;obtain ⟨⟨t0,t1,t2⟩,t3,t4,t5⟩:=X4.out.below hb9;clear hG9 hb9;go_wp2_with fail
   exact bodyPost_ret (v:=.agg #[.int .i64 0,.int .i64 rep,.slice av9 V.length cv9]) (by simp[results,Tryz.results250,go_sem,t0,t1,t2]) rfl ⟨rep,V,WrS.fill HC.out HV.out,eT.of hl9 (Nat.le_refl _) rfl G9.out B9.out⟩
  | some e =>
   by_cases hk:e.kind=2
   ·have HC:=aA (show wrS (aY al) p=9 by simp[wrS,hh,ha,hk])
    have hk2:(e.kind==2)=true:=by simpa using hk
    clear hk;go_enter Tryz.func250,Tryz.ntmps250;go_wp2_with fail
    refine HA.out.mono ?_;rintro r w1 ⟨av,cv,rfl,hr1,hb1⟩;have X1:=aA (X0.out.below hb1);have B1:=aA (aB B0.out hb1);have R1:=aA hr1;have hlt:=X1.out.lt;clear hr1 hb1 HA X0 B0;have HHM:=aA (iO av cv _ _ p w1 R1.out rfl H4.out HRR.out HP.out hpl);rw[hh]at HHM;clear hh;go_wp2_with fail
    refine HHM.out.mono ?_;rintro r w2 ⟨rfl,hb2⟩;have X2:=aA (X1.out.below hb2);have B2:=aA (aB B1.out hb2);have R2:=aA (R1.out.below hb2);clear hb2 HHM X1 B1 R1;have HLK:=aA (fY av cv _ _ p w2 R2.out rfl H4.out HRR.out HP.out hpl e ha);clear ha;go_wp2_with fail
    refine HLK.out.mono ?_;rintro r w3 ⟨x,xc,rfl,-,hb3⟩;have A3:=aA (aC w3 (.cells #[.string (str e.path),.int .i64 e.kind,.int .i64 e.size,.slice x e.chunks.length xc] 87));have B3:=aA (aB B2.out (aB hb3 A3.out));have X3:=aA (X2.out.below (aB hb3 A3.out));have R3:=aA (R2.out.below (aB hb3 A3.out));obtain ⟨f0,f1,f2,f3⟩:=dI.new w3 (.string (str e.path)) (.int .i64 e.kind) (.int .i64 e.size) (.slice x e.chunks.length xc) 87;clear hb3 A3 HLK X2 B2 R2;go_wp2_with fail
    clear f0 f1 f2 f3;generalize w3.alloc (.cells #[.string (str e.path),.int .i64 e.kind,.int .i64 e.size,.slice x e.chunks.length xc] 87)=W3 at *;refine (HST.out 9 W3 B3.out).mono ?_;rintro r w9 ⟨av9,cv9,rfl,hG9,hb9⟩;have G9:=aA hG9;have B9:=aA (aB B3.out hb9);have hl9:=X3.out.lt;obtain ⟨⟨t0,t1,t2⟩,t3,t4,t5⟩:=X3.out.below hb9;clear hG9 hb9;go_wp2_with fail
    exact bodyPost_ret (v:=.agg #[.int .i64 0,.int .i64 9,.slice av9 U.length cv9]) (by simp[results,Tryz.results250,go_sem,t0,t1,t2]) rfl ⟨9,U,WrS.stay HC.out (by decide),eT.of hl9 (Nat.le_refl _) rfl G9.out B9.out⟩
   ·have HC:=aA (show wrS (aY al) p=0 by simp[wrS,hh,ha,hk])
    have hk2:(e.kind==2)=false:=by simpa using hk
    clear hk;have HFI:=aA (fun v (hv:Below w.heap.size w v)=>qA p d dc zs v (HD.out.below hv) HU8.out hdc hdl)
    obtain ⟨rep,V,hV⟩:=mK U U (bV p zs);have HV:=aA hV;clear hV;go_enter Tryz.func250,Tryz.ntmps250;go_wp2_with fail
    refine HA.out.mono ?_;rintro r w1 ⟨av,cv,rfl,hr1,hb1⟩;have X1:=aA (X0.out.below hb1);have B1:=aA (aB B0.out hb1);have R1:=aA hr1;have hlt:=X1.out.lt;clear hr1 hb1 HA X0 B0;have HHM:=aA (iO av cv _ _ p w1 R1.out rfl H4.out HRR.out HP.out hpl);rw[hh]at HHM;clear hh;go_wp2_with fail
    refine HHM.out.mono ?_;rintro r w2 ⟨rfl,hb2⟩;have X2:=aA (X1.out.below hb2);have B2:=aA (aB B1.out hb2);have R2:=aA (R1.out.below hb2);clear hb2 HHM X1 B1 R1;have HLK:=aA (fY av cv _ _ p w2 R2.out rfl H4.out HRR.out HP.out hpl e ha);clear ha;go_wp2_with fail
    refine HLK.out.mono ?_;rintro r w3 ⟨x,xc,rfl,-,hb3⟩;have A3:=aA (aC w3 (.cells #[.string (str e.path),.int .i64 e.kind,.int .i64 e.size,.slice x e.chunks.length xc] 87));have B3:=aA (aB B2.out (aB hb3 A3.out));have X3:=aA (X2.out.below (aB hb3 A3.out));have R3:=aA (R2.out.below (aB hb3 A3.out));obtain ⟨f0,f1,f2,f3⟩:=dI.new w3 (.string (str e.path)) (.int .i64 e.kind) (.int .i64 e.size) (.slice x e.chunks.length xc) 87;clear hb3 A3 HLK X2 B2 R2;go_wp2_with fail
    clear f0 f1 f2 f3;generalize w3.alloc (.cells #[.string (str e.path),.int .i64 e.kind,.int .i64 e.size,.slice x e.chunks.length xc] 87)=W3 at *;refine (HFI.out W3 B3.out).mono ?_;rintro r w4 ⟨yv,yc,rfl,hO4,hb4⟩;have B4:=aA (aB B3.out hb4);have X4:=aA (X3.out.below hb4);have HFL:=aA (kH u uc U.length U u uc U.length U (bV p zs) yv (cut zs).length yc w4 (HU.out.below B4.out) rfl (by omega) HUs.out (HU.out.below B4.out) rfl (by omega) HUs.out HP.out (kD zs).symm (cM hO4 (kD zs).symm) hpl (by show (kP zs (cut zs).length).length≤1048576;rw[kD,gP];omega) rep V HV.out)
    rw[show (bV p zs).path=p from rfl,show (bV p zs).kind=1 from rfl,show (bV p zs).size=zs.length from rfl]at HFL
    clear hO4 hb4 X3 B3;go_wp2_with fail
    refine HFL.out.mono ?_;rintro r w9 ⟨av9,cv9,rfl,hG9,hb9⟩;have G9:=aA hG9;have B9:=aA (aB B4.out hb9);have hl9:=X4.out.lt;obtain ⟨⟨t0,t1,t2⟩,t3,t4,t5⟩:=X4.out.below hb9;clear hG9 hb9;go_wp2_with fail
    exact bodyPost_ret (v:=.agg #[.int .i64 0,.int .i64 rep,.slice av9 V.length cv9]) (by simp[results,Tryz.results250,go_sem,t0,t1,t2]) rfl ⟨rep,V,WrS.fill HC.out HV.out,eT.of hl9 (Nat.le_refl _) rfl G9.out B9.out⟩
 ·have HC:=aA (show wrS (aY al) p=eH (aY al) p by simp[wrS,hh])
  have HH0:=aA hh;obtain ⟨F,hF⟩:∃ F,F=eH (aY al) p:=⟨_,rfl⟩;rw[←hF]at HC HH0;have HFE:=aA hF;have hz2:(F != 0)=true:=by simp;exact HH0.out
  clear hh hF;go_enter Tryz.func250,Tryz.ntmps250;go_wp2_with fail
  refine HA.out.mono ?_;rintro r w1 ⟨av,cv,rfl,hr1,hb1⟩;have X1:=aA (X0.out.below hb1);have B1:=aA (aB B0.out hb1);have R1:=aA hr1;have hlt:=X1.out.lt;clear hr1 hb1 HA X0 B0;have HHM:=aA (iO av cv _ _ p w1 R1.out rfl H4.out HRR.out HP.out hpl);rw[←HFE.out]at HHM;go_wp2_with fail
  refine HHM.out.mono ?_;rintro r w2 ⟨rfl,hb2⟩;have X2:=aA (X1.out.below hb2);have B2:=aA (aB B1.out hb2);have R2:=aA (R1.out.below hb2);clear hb2 HHM X1 B1 R1;go_wp2_with fail
  refine (HST.out F w2 B2.out).mono ?_;rintro r w9 ⟨av9,cv9,rfl,hG9,hb9⟩;have G9:=aA hG9;have B9:=aA (aB B2.out hb9);have hl9:=X2.out.lt;obtain ⟨⟨t0,t1,t2⟩,t3,t4,t5⟩:=X2.out.below hb9;clear hG9 hb9;go_wp2_with fail
  exact bodyPost_ret (v:=.agg #[.int .i64 0,.int .i64 F,.slice av9 U.length cv9]) (by simp[results,Tryz.results250,go_sem,t0,t1,t2]) rfl ⟨F,U,WrS.stay HC.out HH0.out,eT.of hl9 (Nat.le_refl _) rfl G9.out B9.out⟩
theorem zmc (a:Option Addr) (c n:Nat) (ls:List (List En)) (u:Option Addr) (uc m:Nat) (U:List En) (p:Bs) (w:World) (h:RdL w a ls) (hn:n=ls.length) (hU:RdE w u U) (hm:m=U.length) (h4:(ls ++ [U]).length≤4) (hR:∀ es∈ls ++ [U],aV es) (hp:aF p=0) (hpl:p.length≤1048576) :
  Calls Tryz.prog 251 #[.slice a n c,.slice u m uc,.string (str p)] w fun r w'=>∃ rep V,MkS (aY (ls ++ [U])) U p rep V∧eT 0 rep V w r w':=by
 subst hn;subst hm;have hRU:aV U:=hR U (by simp)
 have hl4:ls.length≤4:=by rw[List.length_append]at h4;omega
 have hUl:=hRU.len;have HUs:=aA (cN hRU);have HP:=aA hp;have X0:=aA (fB.new w (.int .i64 0) (.int .i64 0) (.slice none 0 0) 267);have B0:=aA (aC w (.cells #[.int .i64 0,.int .i64 0,.slice none 0 0] 267));have HA:=aA (jW a c ls.length ls u uc U.length U _ (h.below B0.out) rfl (by omega) (hU.below B0.out) rfl)
 have HU:=aA hU;have HST:=aA (fun (q:Int) v (hv:Below w.heap.size w v)=>oM u uc U.length U q v (HU.out.below hv) rfl (by omega) HUs.out)
 have HRR:=aA hR;have H4:=aA h4;clear h hU hR hRU hp h4;obtain ⟨al,hal⟩:∃ al,al=ls ++ [U]:=⟨_,rfl⟩;rw[←hal]at HA HRR H4 ⊢;have HALL:=aA hal;clear hal;by_cases hh:eH (aY al) p=0
 ·cases ha:aK (aY al) p with
  | none =>
   have HC:=aA (show mkS (aY al) p=0 by simp[mkS,hh,ha])
   cases hat:atE U p with
   | none =>
    have HAT0:=aA hat;have hdf:kQ U p=⟨p,2,0,[]⟩:=by simp[kQ,gV hat]
    clear hat;obtain ⟨rep,V,hV⟩:=mK U U (kQ U p);have HCP:=aA (MkS.fill HC.out hV);rw[hdf]at hV;have HV:=aA hV;clear hV hdf HC;go_enter Tryz.func251,Tryz.ntmps251;go_wp2_with fail
    refine HA.out.mono ?_;rintro r w1 ⟨av,cv,rfl,hr1,hb1⟩;have X1:=aA (X0.out.below hb1);have B1:=aA (aB B0.out hb1);have R1:=aA hr1;have hlt:=X1.out.lt;clear hr1 hb1 HA X0 B0;have HHM:=aA (iO av cv _ _ p w1 R1.out rfl H4.out HRR.out HP.out hpl);rw[hh]at HHM;clear hh;go_wp2_with fail
    refine HHM.out.mono ?_;rintro r w2 ⟨rfl,hb2⟩;have X2:=aA (X1.out.below hb2);have B2:=aA (aB B1.out hb2);have R2:=aA (R1.out.below hb2);clear hb2 HHM X1 B1 R1;have HLK:=aA (jV av cv _ _ p w2 R2.out rfl H4.out HRR.out HP.out hpl ha);clear ha;go_wp2_with fail
    refine HLK.out.mono ?_;rintro r w3 ⟨rfl,hb3⟩;have A3:=aA (aC w3 (.cells #[.string ⟨#[]⟩,.int .i64 0,.int .i64 0,.slice none 0 0] 87));have B3:=aA (aB B2.out (aB hb3 A3.out));have X3:=aA (X2.out.below (aB hb3 A3.out));have R3:=aA (R2.out.below (aB hb3 A3.out));obtain ⟨f0,f1,f2,f3⟩:=dI.new w3 (.string ⟨#[]⟩) (.int .i64 0) (.int .i64 0) (.slice none 0 0) 87;clear hb3 A3 HLK X2 B2 R2;go_wp2_with fail
    clear f0 f1 f2 f3;generalize hW3:w3.alloc (.cells #[.string ⟨#[]⟩,.int .i64 0,.int .i64 0,.slice none 0 0] 87)=W3 at *;have HS3:=aA (show W3.heap.size=w3.heap.size+1 by rw[←hW3];simp)
    clear hW3;have A4:=aA (aC W3 (.cells #[.string (str p),.int .i64 2,.int .i64 0,.slice none 0 0] 87));have B4:=aA (aB B3.out A4.out);have X4:=aA (X3.out.below A4.out);have HAT:=aA (iI u uc U.length U p _ (HU.out.below B4.out) rfl (by omega))
    have F4:=aA (dI.new W3 (.string (str p)) (.int .i64 2) (.int .i64 0) (.slice none 0 0) 87);rw[HS3.out]at F4;have K4:Hid (∀ i,(W3.alloc (.cells #[.string (str p),.int .i64 2,.int .i64 0,.slice none 0 0] 87)).frozen? ⟨w3.heap.size+1,i,none⟩=false):=aA (fun i=>by rw[←HS3.out];simp)
    have hlt3:=B3.out.size;refine HAT.out.mono ?_;rintro r w4 ⟨rfl,rfl⟩;rw[HAT0.out];simp only[cR];clear HAT HAT0;obtain ⟨f0,f1,f2,f3⟩:=F4.out;go_wp2_with fail
    clear f0 f1 f2 f3;generalize W3.alloc (.cells #[.string (str p),.int .i64 2,.int .i64 0,.slice none 0 0] 87)=W4 at *;have HFL:=aA (kH u uc U.length U u uc U.length U ⟨p,2,0,[]⟩ none 0 0 W4 (HU.out.below B4.out) rfl (by omega) HUs.out (HU.out.below B4.out) rfl (by omega) HUs.out HP.out rfl (fun hz=>absurd rfl hz) hpl (by simp) rep V HV.out)
    refine HFL.out.mono ?_;rintro r w9 ⟨av9,cv9,rfl,hG9,hb9⟩;have G9:=aA hG9;have B9:=aA (aB B4.out hb9);have hl9:=X4.out.lt;obtain ⟨⟨t0,t1,t2⟩,t3,t4,t5⟩:=X4.out.below hb9;clear hG9 hb9;go_wp2_with fail
    exact bodyPost_ret (v:=.agg #[.int .i64 0,.int .i64 rep,.slice av9 V.length cv9]) (by simp[results,Tryz.results251,go_sem,t0,t1,t2]) rfl ⟨rep,V,HCP.out,eT.of hl9 (Nat.le_refl _) rfl G9.out B9.out⟩
   | some k =>
    have hk:=oT hat;obtain ⟨y,hy⟩:∃ y,U[k]?=some y:=⟨U[k],List.getElem?_eq_getElem hk⟩;have HAT0:=aA hat;have HY:=aA hy;by_cases hy3:y.kind=3
    ·have hdf:kQ U p=⟨p,4,0,[]⟩:=by simp[kQ,zfa hat hy,hy3]
     have hy3b:(y.kind==3)=true:=by simpa using hy3
     clear hat hy hy3;obtain ⟨rep,V,hV⟩:=mK U U (kQ U p);have HCP:=aA (MkS.fill HC.out hV);rw[hdf]at hV;have HV:=aA hV;clear hV hdf HC;go_enter Tryz.func251,Tryz.ntmps251;go_wp2_with fail
     refine HA.out.mono ?_;rintro r w1 ⟨av,cv,rfl,hr1,hb1⟩;have X1:=aA (X0.out.below hb1);have B1:=aA (aB B0.out hb1);have R1:=aA hr1;have hlt:=X1.out.lt;clear hr1 hb1 HA X0 B0;have HHM:=aA (iO av cv _ _ p w1 R1.out rfl H4.out HRR.out HP.out hpl);rw[hh]at HHM;clear hh;go_wp2_with fail
     refine HHM.out.mono ?_;rintro r w2 ⟨rfl,hb2⟩;have X2:=aA (X1.out.below hb2);have B2:=aA (aB B1.out hb2);have R2:=aA (R1.out.below hb2);clear hb2 HHM X1 B1 R1;have HLK:=aA (jV av cv _ _ p w2 R2.out rfl H4.out HRR.out HP.out hpl ha);clear ha;go_wp2_with fail
     refine HLK.out.mono ?_;rintro r w3 ⟨rfl,hb3⟩;have A3:=aA (aC w3 (.cells #[.string ⟨#[]⟩,.int .i64 0,.int .i64 0,.slice none 0 0] 87));have B3:=aA (aB B2.out (aB hb3 A3.out));have X3:=aA (X2.out.below (aB hb3 A3.out));have R3:=aA (R2.out.below (aB hb3 A3.out));obtain ⟨f0,f1,f2,f3⟩:=dI.new w3 (.string ⟨#[]⟩) (.int .i64 0) (.int .i64 0) (.slice none 0 0) 87;clear hb3 A3 HLK X2 B2 R2;go_wp2_with fail
     clear f0 f1 f2 f3;generalize hW3:w3.alloc (.cells #[.string ⟨#[]⟩,.int .i64 0,.int .i64 0,.slice none 0 0] 87)=W3 at *;have HS3:=aA (show W3.heap.size=w3.heap.size+1 by rw[←hW3];simp)
     clear hW3;have A4:=aA (aC W3 (.cells #[.string (str p),.int .i64 2,.int .i64 0,.slice none 0 0] 87));have B4:=aA (aB B3.out A4.out);have X4:=aA (X3.out.below A4.out);have HAT:=aA (iI u uc U.length U p _ (HU.out.below B4.out) rfl (by omega))
     have F4:=aA (dI.new W3 (.string (str p)) (.int .i64 2) (.int .i64 0) (.slice none 0 0) 87);rw[HS3.out]at F4;have K4:Hid (∀ i,(W3.alloc (.cells #[.string (str p),.int .i64 2,.int .i64 0,.slice none 0 0] 87)).frozen? ⟨w3.heap.size+1,i,none⟩=false):=aA (fun i=>by rw[←HS3.out];simp)
     have hlt3:=B3.out.size;refine HAT.out.mono ?_;rintro r w4 ⟨rfl,rfl⟩;rw[HAT0.out];simp only[cR];clear HAT HAT0;obtain ⟨f0,f1,f2,f3⟩:=F4.out;obtain ⟨yb,yo,y',yx,yc,rfl,hyb,hye,y0,y1,y2,y3,hyr⟩:=(HU.out.below B4.out).at hk;have hyy:y'=y:=Option.some.inj (hye.symm.trans HY.out);subst hyy;clear hye hyr;have hk0:(0:Int)≤(k:Int):=by omega
     have hk1:(k:Int)<(U.length:Int):=by omega
     have A5:=aA (A4.out.setCell (p:=⟨w3.heap.size+1,1,none⟩) (Nat.le_of_eq HS3.out) (.int .i64 4));have B5:=aA (aB B3.out A5.out);have X5:=aA (X3.out.below A5.out);have k1:=K4.out 1;have g0:((W3.alloc (.cells #[.string (str p),.int .i64 2,.int .i64 0,.slice none 0 0] 87)).setCell ⟨w3.heap.size+1,1,none⟩ (.int .i64 4)).cell? ⟨w3.heap.size+1,0,none⟩=some (.string (str p)):=by rw[aR (by simp)];exact f0
     have g1:((W3.alloc (.cells #[.string (str p),.int .i64 2,.int .i64 0,.slice none 0 0] 87)).setCell ⟨w3.heap.size+1,1,none⟩ (.int .i64 4)).cell? ⟨w3.heap.size+1,1,none⟩=some (.int .i64 4):=dS f1;have g2:((W3.alloc (.cells #[.string (str p),.int .i64 2,.int .i64 0,.slice none 0 0] 87)).setCell ⟨w3.heap.size+1,1,none⟩ (.int .i64 4)).cell? ⟨w3.heap.size+1,2,none⟩=some (.int .i64 0):=by rw[aR (by simp)];exact f2
     have g3:((W3.alloc (.cells #[.string (str p),.int .i64 2,.int .i64 0,.slice none 0 0] 87)).setCell ⟨w3.heap.size+1,1,none⟩ (.int .i64 4)).cell? ⟨w3.heap.size+1,3,none⟩=some (.slice none 0 0):=by rw[aR (by simp)];exact f3
     go_wp2_with fail
     clear f0 f1 f2 f3 g0 g1 g2 g3 k1 y0 y1 y2 y3;generalize (W3.alloc (.cells #[.string (str p),.int .i64 2,.int .i64 0,.slice none 0 0] 87)).setCell ⟨w3.heap.size+1,1,none⟩ (.int .i64 4)=W5 at *;have HFL:=aA (kH _ uc U.length U _ uc U.length U ⟨p,4,0,[]⟩ none 0 0 W5 (HU.out.below B5.out) rfl (by omega) HUs.out (HU.out.below B5.out) rfl (by omega) HUs.out HP.out rfl (fun hz=>absurd rfl hz) hpl (by simp) rep V HV.out)
     refine HFL.out.mono ?_;rintro r w9 ⟨av9,cv9,rfl,hG9,hb9⟩;have G9:=aA hG9;have B9:=aA (aB B5.out hb9);have hl9:=X5.out.lt;obtain ⟨⟨t0,t1,t2⟩,t3,t4,t5⟩:=X5.out.below hb9;clear hG9 hb9;go_wp2_with fail
     exact bodyPost_ret (v:=.agg #[.int .i64 0,.int .i64 rep,.slice av9 V.length cv9]) (by simp[results,Tryz.results251,go_sem,t0,t1,t2]) rfl ⟨rep,V,HCP.out,eT.of hl9 (Nat.le_refl _) rfl G9.out B9.out⟩
    ·have hdf:kQ U p=⟨p,2,0,[]⟩:=by simp[kQ,zfa hat hy,hy3]
     have hy3b:(y.kind==3)=false:=by simpa using hy3
     clear hat hy hy3;obtain ⟨rep,V,hV⟩:=mK U U (kQ U p);have HCP:=aA (MkS.fill HC.out hV);rw[hdf]at hV;have HV:=aA hV;clear hV hdf HC;go_enter Tryz.func251,Tryz.ntmps251;go_wp2_with fail
     refine HA.out.mono ?_;rintro r w1 ⟨av,cv,rfl,hr1,hb1⟩;have X1:=aA (X0.out.below hb1);have B1:=aA (aB B0.out hb1);have R1:=aA hr1;have hlt:=X1.out.lt;clear hr1 hb1 HA X0 B0;have HHM:=aA (iO av cv _ _ p w1 R1.out rfl H4.out HRR.out HP.out hpl);rw[hh]at HHM;clear hh;go_wp2_with fail
     refine HHM.out.mono ?_;rintro r w2 ⟨rfl,hb2⟩;have X2:=aA (X1.out.below hb2);have B2:=aA (aB B1.out hb2);have R2:=aA (R1.out.below hb2);clear hb2 HHM X1 B1 R1;have HLK:=aA (jV av cv _ _ p w2 R2.out rfl H4.out HRR.out HP.out hpl ha);clear ha;go_wp2_with fail
     refine HLK.out.mono ?_;rintro r w3 ⟨rfl,hb3⟩;have A3:=aA (aC w3 (.cells #[.string ⟨#[]⟩,.int .i64 0,.int .i64 0,.slice none 0 0] 87));have B3:=aA (aB B2.out (aB hb3 A3.out));have X3:=aA (X2.out.below (aB hb3 A3.out));have R3:=aA (R2.out.below (aB hb3 A3.out));obtain ⟨f0,f1,f2,f3⟩:=dI.new w3 (.string ⟨#[]⟩) (.int .i64 0) (.int .i64 0) (.slice none 0 0) 87;clear hb3 A3 HLK X2 B2 R2;go_wp2_with fail
     clear f0 f1 f2 f3;generalize hW3:w3.alloc (.cells #[.string ⟨#[]⟩,.int .i64 0,.int .i64 0,.slice none 0 0] 87)=W3 at *;have HS3:=aA (show W3.heap.size=w3.heap.size+1 by rw[←hW3];simp)
     clear hW3;have A4:=aA (aC W3 (.cells #[.string (str p),.int .i64 2,.int .i64 0,.slice none 0 0] 87));have B4:=aA (aB B3.out A4.out);have X4:=aA (X3.out.below A4.out);have HAT:=aA (iI u uc U.length U p _ (HU.out.below B4.out) rfl (by omega))
     have F4:=aA (dI.new W3 (.string (str p)) (.int .i64 2) (.int .i64 0) (.slice none 0 0) 87);rw[HS3.out]at F4;have K4:Hid (∀ i,(W3.alloc (.cells #[.string (str p),.int .i64 2,.int .i64 0,.slice none 0 0] 87)).frozen? ⟨w3.heap.size+1,i,none⟩=false):=aA (fun i=>by rw[←HS3.out];simp)
     have hlt3:=B3.out.size;refine HAT.out.mono ?_;rintro r w4 ⟨rfl,rfl⟩;rw[HAT0.out];simp only[cR];clear HAT HAT0;obtain ⟨f0,f1,f2,f3⟩:=F4.out;obtain ⟨yb,yo,y',yx,yc,rfl,hyb,hye,y0,y1,y2,y3,hyr⟩:=(HU.out.below B4.out).at hk;have hyy:y'=y:=Option.some.inj (hye.symm.trans HY.out);subst hyy;clear hye hyr;have hk0:(0:Int)≤(k:Int):=by omega
     have hk1:(k:Int)<(U.length:Int):=by omega
     go_wp2_with fail
     clear y0 y1 y2 y3;clear f0 f1 f2 f3;generalize W3.alloc (.cells #[.string (str p),.int .i64 2,.int .i64 0,.slice none 0 0] 87)=W4 at *;have HFL:=aA (kH _ uc U.length U _ uc U.length U ⟨p,2,0,[]⟩ none 0 0 W4 (HU.out.below B4.out) rfl (by omega) HUs.out (HU.out.below B4.out) rfl (by omega) HUs.out HP.out rfl (fun hz=>absurd rfl hz) hpl (by simp) rep V HV.out)
     refine HFL.out.mono ?_;rintro r w9 ⟨av9,cv9,rfl,hG9,hb9⟩;have G9:=aA hG9;have B9:=aA (aB B4.out hb9);have hl9:=X4.out.lt;obtain ⟨⟨t0,t1,t2⟩,t3,t4,t5⟩:=X4.out.below hb9;clear hG9 hb9;go_wp2_with fail
     exact bodyPost_ret (v:=.agg #[.int .i64 0,.int .i64 rep,.slice av9 V.length cv9]) (by simp[results,Tryz.results251,go_sem,t0,t1,t2]) rfl ⟨rep,V,HCP.out,eT.of hl9 (Nat.le_refl _) rfl G9.out B9.out⟩
  | some e =>
   have HC:=aA (show mkS (aY al) p=7 by simp[mkS,hh,ha])
   go_enter Tryz.func251,Tryz.ntmps251;go_wp2_with fail
   refine HA.out.mono ?_;rintro r w1 ⟨av,cv,rfl,hr1,hb1⟩;have X1:=aA (X0.out.below hb1);have B1:=aA (aB B0.out hb1);have R1:=aA hr1;have hlt:=X1.out.lt;clear hr1 hb1 HA X0 B0;have HHM:=aA (iO av cv _ _ p w1 R1.out rfl H4.out HRR.out HP.out hpl);rw[hh]at HHM;clear hh;go_wp2_with fail
   refine HHM.out.mono ?_;rintro r w2 ⟨rfl,hb2⟩;have X2:=aA (X1.out.below hb2);have B2:=aA (aB B1.out hb2);have R2:=aA (R1.out.below hb2);clear hb2 HHM X1 B1 R1;have HLK:=aA (fY av cv _ _ p w2 R2.out rfl H4.out HRR.out HP.out hpl e ha);clear ha;go_wp2_with fail
   refine HLK.out.mono ?_;rintro r w3 ⟨x,xc,rfl,-,hb3⟩;have A3:=aA (aC w3 (.cells #[.string (str e.path),.int .i64 e.kind,.int .i64 e.size,.slice x e.chunks.length xc] 87));have B3:=aA (aB B2.out (aB hb3 A3.out));have X3:=aA (X2.out.below (aB hb3 A3.out));have R3:=aA (R2.out.below (aB hb3 A3.out));obtain ⟨f0,f1,f2,f3⟩:=dI.new w3 (.string (str e.path)) (.int .i64 e.kind) (.int .i64 e.size) (.slice x e.chunks.length xc) 87;clear hb3 A3 HLK X2 B2 R2;go_wp2_with fail
   clear f0 f1 f2 f3;generalize w3.alloc (.cells #[.string (str e.path),.int .i64 e.kind,.int .i64 e.size,.slice x e.chunks.length xc] 87)=W3 at *;refine (HST.out 7 W3 B3.out).mono ?_;rintro r w9 ⟨av9,cv9,rfl,hG9,hb9⟩;have G9:=aA hG9;have B9:=aA (aB B3.out hb9);have hl9:=X3.out.lt;obtain ⟨⟨t0,t1,t2⟩,t3,t4,t5⟩:=X3.out.below hb9;clear hG9 hb9;go_wp2_with fail
   exact bodyPost_ret (v:=.agg #[.int .i64 0,.int .i64 7,.slice av9 U.length cv9]) (by simp[results,Tryz.results251,go_sem,t0,t1,t2]) rfl ⟨7,U,MkS.stay HC.out (by decide),eT.of hl9 (Nat.le_refl _) rfl G9.out B9.out⟩
 ·have HC:=aA (show mkS (aY al) p=eH (aY al) p by simp[mkS,hh])
  have HH0:=aA hh;obtain ⟨F,hF⟩:∃ F,F=eH (aY al) p:=⟨_,rfl⟩;rw[←hF]at HC HH0;have HFE:=aA hF;have hz2:(F != 0)=true:=by simp;exact HH0.out
  clear hh hF;go_enter Tryz.func251,Tryz.ntmps251;go_wp2_with fail
  refine HA.out.mono ?_;rintro r w1 ⟨av,cv,rfl,hr1,hb1⟩;have X1:=aA (X0.out.below hb1);have B1:=aA (aB B0.out hb1);have R1:=aA hr1;have hlt:=X1.out.lt;clear hr1 hb1 HA X0 B0;have HHM:=aA (iO av cv _ _ p w1 R1.out rfl H4.out HRR.out HP.out hpl);rw[←HFE.out]at HHM;go_wp2_with fail
  refine HHM.out.mono ?_;rintro r w2 ⟨rfl,hb2⟩;have X2:=aA (X1.out.below hb2);have B2:=aA (aB B1.out hb2);have R2:=aA (R1.out.below hb2);clear hb2 HHM X1 B1 R1;go_wp2_with fail
  refine (HST.out F w2 B2.out).mono ?_;rintro r w9 ⟨av9,cv9,rfl,hG9,hb9⟩;have G9:=aA hG9;have B9:=aA (aB B2.out hb9);have hl9:=X2.out.lt;obtain ⟨⟨t0,t1,t2⟩,t3,t4,t5⟩:=X2.out.below hb9;clear hG9 hb9;go_wp2_with fail
  exact bodyPost_ret (v:=.agg #[.int .i64 0,.int .i64 F,.slice av9 U.length cv9]) (by simp[results,Tryz.results251,go_sem,t0,t1,t2]) rfl ⟨F,U,MkS.stay HC.out HH0.out,eT.of hl9 (Nat.le_refl _) rfl G9.out B9.out⟩
def rmS (T:List En) (p:Bs):Int:=match aK T p with | none=>4 | some e=>if e.kind=2 then (if 0<(fZ T p).length then 1 else 0) else 0
structure RmS (ls:List (List En)) (T U:List En) (p:Bs) (rep:Int) (V:List En):Prop where
 no:rmS T p≠0→rep=rmS T p∧V=U
 gone:rmS T p=0→aK (aY (ls ++ [bO U p true])) p=none→rep=0∧V=bO U p true
 white:rmS T p=0→aK (aY (ls ++ [bO U p true])) p≠none→oS U (bO U p true) ⟨p,3,0,[]⟩ rep V
theorem RmS.stay {ls:List (List En)} {T U:List En} {p:Bs} {q:Int} (h:rmS T p=q) (hq:q≠0):RmS ls T U p q U:=⟨fun _=>⟨h.symm,rfl⟩,fun h2=>absurd (h.symm.trans h2) hq,fun h2=>absurd (h.symm.trans h2) hq⟩
theorem yR {U:List En} {p:Bs} (h:aV U) (hp:aF p=0):aV (bO U p true):=by
 have h1:=zad h hp;have h2:zyc U p=bO U p true:=zli (fun x hx=>bQ (h.ent x hx)) hp
 rwa [h2]at h1
theorem zf6 (a:Option Addr) (c n:Nat) (ls:List (List En)) (u:Option Addr) (uc m:Nat) (U:List En) (p:Bs) (w:World) (h:RdL w a ls) (hn:n=ls.length) (hU:RdE w u U) (hm:m=U.length) (h4:(ls ++ [U]).length≤4) (hR:∀ es∈ls ++ [U],aV es) (hp:aF p=0) (hpl:p.length≤1048576) :
  Calls Tryz.prog 252 #[.slice a n c,.slice u m uc,.string (str p)] w fun r w'=>∃ rep V,RmS ls (aY (ls ++ [U])) U p rep V∧eT 0 rep V w r w':=by
 subst hn;subst hm;have hRU:aV U:=hR U (by simp)
 have hl4:ls.length≤4:=by rw[List.length_append]at h4;omega
 have hUl:=hRU.len;have HUs:=aA (cN hRU);have HP:=aA hp;have X0:=aA (fB.new w (.int .i64 0) (.int .i64 0) (.slice none 0 0) 267);have B0:=aA (aC w (.cells #[.int .i64 0,.int .i64 0,.slice none 0 0] 267));have HA:=aA (jW a c ls.length ls u uc U.length U _ (h.below B0.out) rfl (by omega) (hU.below B0.out) rfl)
 have HU:=aA hU;have HST:=aA (fun (q:Int) v (hv:Below w.heap.size w v)=>oM u uc U.length U q v (HU.out.below hv) rfl (by omega) HUs.out)
 have HRR:=aA hR;have H4:=aA h4;have HRD:=aA h;have hRr:=yR hRU hp;have HRS:=aA (cN hRr);have hrl:=hRr.len;have H42:=aA (show (ls ++ [bO U p true]).length≤4 by rw[List.length_append]at h4 ⊢;simpa using h4)
 have HR2:=aA (show ∀ es∈ls ++ [bO U p true],aV es from fun es he=>by
  rcases List.mem_append.1 he with he | he
  ·exact hR es (List.mem_append_left _ he)
  ·simp at he;subst he;exact hRr)
 have HWO:=aA (fun v (hv:Below w.heap.size w v)=>zm4 u uc U.length U p true v (hU.below hv) rfl (by omega) HUs.out hpl)
 clear hRr;clear h hU hR hRU hp h4;obtain ⟨al,hal⟩:∃ al,al=ls ++ [U]:=⟨_,rfl⟩;rw[←hal]at HA HRR H4 ⊢;have HALL:=aA hal;clear hal;cases ha:aK (aY al) p with
 | none =>
  have HC:=aA (show rmS (aY al) p=4 by simp[rmS,ha])
  go_enter Tryz.func252,Tryz.ntmps252;go_wp2_with fail
  refine HA.out.mono ?_;rintro r w1 ⟨av,cv,rfl,hr1,hb1⟩;have X1:=aA (X0.out.below hb1);have B1:=aA (aB B0.out hb1);have R1:=aA hr1;have hlt:=X1.out.lt;clear hr1 hb1 HA X0 B0;have X2:=X1;have B2:=B1;have R2:=R1;clear X1 B1 R1;have HLK:=aA (jV av cv _ _ p w1 R2.out rfl H4.out HRR.out HP.out hpl ha);clear ha;go_wp2_with fail
  refine HLK.out.mono ?_;rintro r w3 ⟨rfl,hb3⟩;have A3:=aA (aC w3 (.cells #[.string ⟨#[]⟩,.int .i64 0,.int .i64 0,.slice none 0 0] 87));have B3:=aA (aB B2.out (aB hb3 A3.out));have X3:=aA (X2.out.below (aB hb3 A3.out));have R3:=aA (R2.out.below (aB hb3 A3.out));obtain ⟨f0,f1,f2,f3⟩:=dI.new w3 (.string ⟨#[]⟩) (.int .i64 0) (.int .i64 0) (.slice none 0 0) 87;clear hb3 A3 HLK X2 B2 R2;go_wp2_with fail
  clear f0 f1 f2 f3;generalize w3.alloc (.cells #[.string ⟨#[]⟩,.int .i64 0,.int .i64 0,.slice none 0 0] 87)=W3 at *;refine (HST.out 4 W3 B3.out).mono ?_;rintro r w9 ⟨av9,cv9,rfl,hG9,hb9⟩;have G9:=aA hG9;have B9:=aA (aB B3.out hb9);have hl9:=X3.out.lt;obtain ⟨⟨t0,t1,t2⟩,t3,t4,t5⟩:=X3.out.below hb9;clear hG9 hb9;go_wp2_with fail
  exact bodyPost_ret (v:=.agg #[.int .i64 0,.int .i64 4,.slice av9 U.length cv9]) (by simp[results,Tryz.results252,go_sem,t0,t1,t2]) rfl ⟨4,U,RmS.stay HC.out (by decide),eT.of hl9 (Nat.le_refl _) rfl G9.out B9.out⟩
 | some e =>
  by_cases hk:e.kind=2
  ·have hk2:(e.kind==2)=true:=by simpa using hk
   by_cases hn:0<(fZ (aY al) p).length
   ·have HC:=aA (show rmS (aY al) p=1 by simp only[rmS,ha];rw[if_pos hk,if_pos hn])
    have hn2:(0:Int)<((fZ (aY al) p).length:Int):=by omega
    clear hk hn;go_enter Tryz.func252,Tryz.ntmps252;go_wp2_with fail
    refine HA.out.mono ?_;rintro r w1 ⟨av,cv,rfl,hr1,hb1⟩;have X1:=aA (X0.out.below hb1);have B1:=aA (aB B0.out hb1);have R1:=aA hr1;have hlt:=X1.out.lt;clear hr1 hb1 HA X0 B0;have X2:=X1;have B2:=B1;have R2:=R1;clear X1 B1 R1;have HLK:=aA (fY av cv _ _ p w1 R2.out rfl H4.out HRR.out HP.out hpl e ha);clear ha;go_wp2_with fail
    refine HLK.out.mono ?_;rintro r w3 ⟨x,xc,rfl,-,hb3⟩;have A3:=aA (aC w3 (.cells #[.string (str e.path),.int .i64 e.kind,.int .i64 e.size,.slice x e.chunks.length xc] 87));have B3:=aA (aB B2.out (aB hb3 A3.out));have X3:=aA (X2.out.below (aB hb3 A3.out));have R3:=aA (R2.out.below (aB hb3 A3.out));obtain ⟨f0,f1,f2,f3⟩:=dI.new w3 (.string (str e.path)) (.int .i64 e.kind) (.int .i64 e.size) (.slice x e.chunks.length xc) 87;clear hb3 A3 HLK X2 B2 R2;go_wp2_with fail
    clear f0 f1 f2 f3;generalize w3.alloc (.cells #[.string (str e.path),.int .i64 e.kind,.int .i64 e.size,.slice x e.chunks.length xc] 87)=W3 at *;have HNM:=aA (sJ av cv _ _ p W3 R3.out rfl H4.out HRR.out (.inr HP.out) hpl);refine HNM.out.mono ?_;rintro r w4 ⟨nv,nc,rfl,-,hb4⟩;have X4:=aA (X3.out.below hb4);have B4:=aA (aB B3.out hb4);clear hb4 HNM X3 B3 R3;generalize (fZ (aY al) p).length=NL at *;go_wp2_with fail
    refine (HST.out 1 w4 B4.out).mono ?_;rintro r w9 ⟨av9,cv9,rfl,hG9,hb9⟩;have G9:=aA hG9;have B9:=aA (aB B4.out hb9);have hl9:=X4.out.lt;obtain ⟨⟨t0,t1,t2⟩,t3,t4,t5⟩:=X4.out.below hb9;clear hG9 hb9;go_wp2_with fail
    exact bodyPost_ret (v:=.agg #[.int .i64 0,.int .i64 1,.slice av9 U.length cv9]) (by simp[results,Tryz.results252,go_sem,t0,t1,t2]) rfl ⟨1,U,RmS.stay HC.out (by decide),eT.of hl9 (Nat.le_refl _) rfl G9.out B9.out⟩
   ·have HC:=aA (show rmS (aY al) p=0 by simp only[rmS,ha];rw[if_pos hk,if_neg hn])
    have hn2:¬ (0:Int)<((fZ (aY al) p).length:Int):=by omega
    clear hk hn;cases hs2:aK (aY (ls ++ [bO U p true])) p with
    | none =>
     have HCP0:Hid (RmS ls (aY al) U p 0 (bO U p true)):=aA ⟨fun h=>absurd HC.out h,fun _ _=>⟨rfl,rfl⟩,fun _ h=>absurd hs2 h⟩
     have HE2:=aA hs2;clear hs2;obtain ⟨RU,hRU⟩:∃ RU,RU=bO U p true:=⟨_,rfl⟩;have HCP:Hid (RmS ls (aY al) U p 0 RU):=aA (by rw[hRU];exact HCP0.out)
     clear HCP0;rw[←hRU]at HRS hrl H42 HR2 HWO HE2;clear hRU;obtain ⟨al2,hal2⟩:∃ al2,al2=ls ++ [RU]:=⟨_,rfl⟩;rw[←hal2]at H42 HR2 HE2;have HAL2:=aA hal2;clear hal2;go_enter Tryz.func252,Tryz.ntmps252;go_wp2_with fail
     refine HA.out.mono ?_;rintro r w1 ⟨av,cv,rfl,hr1,hb1⟩;have X1:=aA (X0.out.below hb1);have B1:=aA (aB B0.out hb1);have R1:=aA hr1;have hlt:=X1.out.lt;clear hr1 hb1 HA X0 B0;have X2:=X1;have B2:=B1;have R2:=R1;clear X1 B1 R1;have HLK:=aA (fY av cv _ _ p w1 R2.out rfl H4.out HRR.out HP.out hpl e ha);clear ha;go_wp2_with fail
     refine HLK.out.mono ?_;rintro r w3 ⟨x,xc,rfl,-,hb3⟩;have A3:=aA (aC w3 (.cells #[.string (str e.path),.int .i64 e.kind,.int .i64 e.size,.slice x e.chunks.length xc] 87));have B3:=aA (aB B2.out (aB hb3 A3.out));have X3:=aA (X2.out.below (aB hb3 A3.out));have R3:=aA (R2.out.below (aB hb3 A3.out));obtain ⟨f0,f1,f2,f3⟩:=dI.new w3 (.string (str e.path)) (.int .i64 e.kind) (.int .i64 e.size) (.slice x e.chunks.length xc) 87;clear hb3 A3 HLK X2 B2 R2;go_wp2_with fail
     clear f0 f1 f2 f3;generalize w3.alloc (.cells #[.string (str e.path),.int .i64 e.kind,.int .i64 e.size,.slice x e.chunks.length xc] 87)=W3 at *;have HNM:=aA (sJ av cv _ _ p W3 R3.out rfl H4.out HRR.out (.inr HP.out) hpl);refine HNM.out.mono ?_;rintro r w4 ⟨nv,nc,rfl,-,hb4⟩;have X4:=aA (X3.out.below hb4);have B4:=aA (aB B3.out hb4);clear hb4 HNM X3 B3 R3;generalize (fZ (aY al) p).length=NL at *;go_wp2_with fail
     have hxW:=X4.out.lt;refine (HWO.out w4 B4.out).mono ?_;rintro r w6 ⟨g6,c6,rfl,hG6,hb6⟩;have X6:=aA (X4.out.below hb6);have B6:=aA (aB B4.out hb6);have G6:=aA (GW.of hG6);have HA6:=aA (jW a c ls.length ls (some ⟨g6,0,none⟩) c6 RU.length RU w6 (HRD.out.below B6.out) rfl (by omega) hG6.rd rfl)
     rw[←HAL2.out]at HA6;clear hG6 hb6 HWO;go_wp2_with fail
     refine HA6.out.mono ?_;rintro r w7 ⟨av7,cv7,rfl,hr7,hb7⟩;have X7:=aA (X6.out.below hb7);have B7:=aA (aB B6.out hb7);have G7:=aA (G6.out.below hb7);have HL7:=aA (jV av7 cv7 al2.length al2 p w7 hr7 rfl H42.out HR2.out HP.out hpl HE2.out);clear hr7 hb7 HA6 X6 B6 G6;go_wp2_with fail
     refine HL7.out.mono ?_;rintro r w8 ⟨rfl,hb8⟩;have A8:=aA (aB hb8 (aC w8 (.cells #[.string ⟨#[]⟩,.int .i64 0,.int .i64 0,.slice none 0 0] 87)));have B8:=aA (aB B7.out A8.out);have G8:=aA (G7.out.below A8.out);obtain ⟨⟨t0,t1,t2⟩,t3,t4,t5⟩:=X7.out.below A8.out;clear hb8 A8 HL7 B7 G7;go_wp2_with fail
     exact bodyPost_ret (v:=.agg #[.int .i64 0,.int .i64 0,.slice (some ⟨g6,0,none⟩) RU.length c6]) (by simp[results,Tryz.results252,go_sem,t0,t1,t2]) rfl ⟨0,RU,HCP.out,eT.of (b:=w.heap.size) hxW (Nat.le_refl _) rfl G8.out B8.out⟩
    | some e2 =>
     obtain ⟨rep,V,hV⟩:=mK U (bO U p true) ⟨p,3,0,[]⟩;have HCP:Hid (RmS ls (aY al) U p rep V):=aA ⟨fun h=>absurd HC.out h,fun _ h=>absurd (hs2.symm.trans h) (by simp),fun _ _=>hV⟩
     have HE2:=aA hs2;have HV:=aA hV;clear hV hs2;obtain ⟨RU,hRU⟩:∃ RU,RU=bO U p true:=⟨_,rfl⟩;rw[←hRU]at HRS hrl H42 HR2 HWO HE2 HV;clear hRU;obtain ⟨al2,hal2⟩:∃ al2,al2=ls ++ [RU]:=⟨_,rfl⟩;rw[←hal2]at H42 HR2 HE2;have HAL2:=aA hal2;clear hal2;go_enter Tryz.func252,Tryz.ntmps252;go_wp2_with fail
     refine HA.out.mono ?_;rintro r w1 ⟨av,cv,rfl,hr1,hb1⟩;have X1:=aA (X0.out.below hb1);have B1:=aA (aB B0.out hb1);have R1:=aA hr1;have hlt:=X1.out.lt;clear hr1 hb1 HA X0 B0;have X2:=X1;have B2:=B1;have R2:=R1;clear X1 B1 R1;have HLK:=aA (fY av cv _ _ p w1 R2.out rfl H4.out HRR.out HP.out hpl e ha);clear ha;go_wp2_with fail
     refine HLK.out.mono ?_;rintro r w3 ⟨x,xc,rfl,-,hb3⟩;have A3:=aA (aC w3 (.cells #[.string (str e.path),.int .i64 e.kind,.int .i64 e.size,.slice x e.chunks.length xc] 87));have B3:=aA (aB B2.out (aB hb3 A3.out));have X3:=aA (X2.out.below (aB hb3 A3.out));have R3:=aA (R2.out.below (aB hb3 A3.out));obtain ⟨f0,f1,f2,f3⟩:=dI.new w3 (.string (str e.path)) (.int .i64 e.kind) (.int .i64 e.size) (.slice x e.chunks.length xc) 87;clear hb3 A3 HLK X2 B2 R2;go_wp2_with fail
     clear f0 f1 f2 f3;generalize w3.alloc (.cells #[.string (str e.path),.int .i64 e.kind,.int .i64 e.size,.slice x e.chunks.length xc] 87)=W3 at *;have HNM:=aA (sJ av cv _ _ p W3 R3.out rfl H4.out HRR.out (.inr HP.out) hpl);refine HNM.out.mono ?_;rintro r w4 ⟨nv,nc,rfl,-,hb4⟩;have X4:=aA (X3.out.below hb4);have B4:=aA (aB B3.out hb4);clear hb4 HNM X3 B3 R3;generalize (fZ (aY al) p).length=NL at *;go_wp2_with fail
     have hxW:=X4.out.lt;refine (HWO.out w4 B4.out).mono ?_;rintro r w6 ⟨g6,c6,rfl,hG6,hb6⟩;have X6:=aA (X4.out.below hb6);have B6:=aA (aB B4.out hb6);have G6:=aA (GW.of hG6);have HA6:=aA (jW a c ls.length ls (some ⟨g6,0,none⟩) c6 RU.length RU w6 (HRD.out.below B6.out) rfl (by omega) hG6.rd rfl)
     rw[←HAL2.out]at HA6;clear hG6 hb6 HWO;go_wp2_with fail
     refine HA6.out.mono ?_;rintro r w7 ⟨av7,cv7,rfl,hr7,hb7⟩;have X7:=aA (X6.out.below hb7);have B7:=aA (aB B6.out hb7);have G7:=aA (G6.out.below hb7);have HL7:=aA (fY av7 cv7 al2.length al2 p w7 hr7 rfl H42.out HR2.out HP.out hpl e2 HE2.out);clear hr7 hb7 HA6 X6 B6 G6;go_wp2_with fail
     refine HL7.out.mono ?_;rintro r w8 ⟨x8,xc8,rfl,-,hb8⟩;have A8:=aA (aB hb8 (aC w8 (.cells #[.string (str e2.path),.int .i64 e2.kind,.int .i64 e2.size,.slice x8 e2.chunks.length xc8] 87)));have X8:=aA (X7.out.below A8.out);have B8:=aA (aB B7.out A8.out);have G8:=aA (G7.out.below A8.out);clear hb8 A8 HL7 X7 B7 G7;go_wp2_with fail
     generalize w8.alloc (.cells #[.string (str e2.path),.int .i64 e2.kind,.int .i64 e2.size,.slice x8 e2.chunks.length xc8] 87)=W8 at *;have HFL:=aA (kH u uc U.length U (some ⟨g6,0,none⟩) c6 RU.length RU ⟨p,3,0,[]⟩ none 0 0 W8 (HU.out.below B8.out) rfl (by omega) HUs.out G8.out.rd rfl (by omega) HRS.out HP.out rfl (fun hz=>absurd rfl hz) hpl (by simp) rep V HV.out)
     refine HFL.out.mono ?_;rintro r w9 ⟨av9,cv9,rfl,hG9,hb9⟩;have G9:=aA hG9;have B9:=aA (aB B8.out hb9);have hl9:=X8.out.lt;obtain ⟨⟨t0,t1,t2⟩,t3,t4,t5⟩:=X8.out.below hb9;clear hG9 hb9;go_wp2_with fail
     exact bodyPost_ret (v:=.agg #[.int .i64 0,.int .i64 rep,.slice av9 V.length cv9]) (by simp[results,Tryz.results252,go_sem,t0,t1,t2]) rfl ⟨rep,V,HCP.out,eT.of hl9 (Nat.le_refl _) rfl G9.out B9.out⟩
  ·have HC:=aA (show rmS (aY al) p=0 by simp only[rmS,ha];rw[if_neg hk])
   have hk2:(e.kind==2)=false:=by simpa using hk
   clear hk;cases hs2:aK (aY (ls ++ [bO U p true])) p with
   | none =>
    have HCP0:Hid (RmS ls (aY al) U p 0 (bO U p true)):=aA ⟨fun h=>absurd HC.out h,fun _ _=>⟨rfl,rfl⟩,fun _ h=>absurd hs2 h⟩
    have HE2:=aA hs2;clear hs2;obtain ⟨RU,hRU⟩:∃ RU,RU=bO U p true:=⟨_,rfl⟩;have HCP:Hid (RmS ls (aY al) U p 0 RU):=aA (by rw[hRU];exact HCP0.out)
    clear HCP0;rw[←hRU]at HRS hrl H42 HR2 HWO HE2;clear hRU;obtain ⟨al2,hal2⟩:∃ al2,al2=ls ++ [RU]:=⟨_,rfl⟩;rw[←hal2]at H42 HR2 HE2;have HAL2:=aA hal2;clear hal2;go_enter Tryz.func252,Tryz.ntmps252;go_wp2_with fail
    refine HA.out.mono ?_;rintro r w1 ⟨av,cv,rfl,hr1,hb1⟩;have X1:=aA (X0.out.below hb1);have B1:=aA (aB B0.out hb1);have R1:=aA hr1;have hlt:=X1.out.lt;clear hr1 hb1 HA X0 B0;have X2:=X1;have B2:=B1;have R2:=R1;clear X1 B1 R1;have HLK:=aA (fY av cv _ _ p w1 R2.out rfl H4.out HRR.out HP.out hpl e ha);clear ha;go_wp2_with fail
    refine HLK.out.mono ?_;rintro r w3 ⟨x,xc,rfl,-,hb3⟩;have A3:=aA (aC w3 (.cells #[.string (str e.path),.int .i64 e.kind,.int .i64 e.size,.slice x e.chunks.length xc] 87));have B3:=aA (aB B2.out (aB hb3 A3.out));have X3:=aA (X2.out.below (aB hb3 A3.out));have R3:=aA (R2.out.below (aB hb3 A3.out));obtain ⟨f0,f1,f2,f3⟩:=dI.new w3 (.string (str e.path)) (.int .i64 e.kind) (.int .i64 e.size) (.slice x e.chunks.length xc) 87;clear hb3 A3 HLK X2 B2 R2;go_wp2_with fail
    clear f0 f1 f2 f3;generalize w3.alloc (.cells #[.string (str e.path),.int .i64 e.kind,.int .i64 e.size,.slice x e.chunks.length xc] 87)=W3 at *;have hxW:=X3.out.lt;refine (HWO.out W3 B3.out).mono ?_;rintro r w6 ⟨g6,c6,rfl,hG6,hb6⟩;have X6:=aA (X3.out.below hb6);have B6:=aA (aB B3.out hb6);have G6:=aA (GW.of hG6);have HA6:=aA (jW a c ls.length ls (some ⟨g6,0,none⟩) c6 RU.length RU w6 (HRD.out.below B6.out) rfl (by omega) hG6.rd rfl)
    rw[←HAL2.out]at HA6;clear hG6 hb6 HWO;go_wp2_with fail
    refine HA6.out.mono ?_;rintro r w7 ⟨av7,cv7,rfl,hr7,hb7⟩;have X7:=aA (X6.out.below hb7);have B7:=aA (aB B6.out hb7);have G7:=aA (G6.out.below hb7);have HL7:=aA (jV av7 cv7 al2.length al2 p w7 hr7 rfl H42.out HR2.out HP.out hpl HE2.out);clear hr7 hb7 HA6 X6 B6 G6;go_wp2_with fail
    refine HL7.out.mono ?_;rintro r w8 ⟨rfl,hb8⟩;have A8:=aA (aB hb8 (aC w8 (.cells #[.string ⟨#[]⟩,.int .i64 0,.int .i64 0,.slice none 0 0] 87)));have B8:=aA (aB B7.out A8.out);have G8:=aA (G7.out.below A8.out);obtain ⟨⟨t0,t1,t2⟩,t3,t4,t5⟩:=X7.out.below A8.out;clear hb8 A8 HL7 B7 G7;go_wp2_with fail
    exact bodyPost_ret (v:=.agg #[.int .i64 0,.int .i64 0,.slice (some ⟨g6,0,none⟩) RU.length c6]) (by simp[results,Tryz.results252,go_sem,t0,t1,t2]) rfl ⟨0,RU,HCP.out,eT.of (b:=w.heap.size) hxW (Nat.le_refl _) rfl G8.out B8.out⟩
   | some e2 =>
    obtain ⟨rep,V,hV⟩:=mK U (bO U p true) ⟨p,3,0,[]⟩;have HCP:Hid (RmS ls (aY al) U p rep V):=aA ⟨fun h=>absurd HC.out h,fun _ h=>absurd (hs2.symm.trans h) (by simp),fun _ _=>hV⟩
    have HE2:=aA hs2;have HV:=aA hV;clear hV hs2;obtain ⟨RU,hRU⟩:∃ RU,RU=bO U p true:=⟨_,rfl⟩;rw[←hRU]at HRS hrl H42 HR2 HWO HE2 HV;clear hRU;obtain ⟨al2,hal2⟩:∃ al2,al2=ls ++ [RU]:=⟨_,rfl⟩;rw[←hal2]at H42 HR2 HE2;have HAL2:=aA hal2;clear hal2;go_enter Tryz.func252,Tryz.ntmps252;go_wp2_with fail
    refine HA.out.mono ?_;rintro r w1 ⟨av,cv,rfl,hr1,hb1⟩;have X1:=aA (X0.out.below hb1);have B1:=aA (aB B0.out hb1);have R1:=aA hr1;have hlt:=X1.out.lt;clear hr1 hb1 HA X0 B0;have X2:=X1;have B2:=B1;have R2:=R1;clear X1 B1 R1;have HLK:=aA (fY av cv _ _ p w1 R2.out rfl H4.out HRR.out HP.out hpl e ha);clear ha;go_wp2_with fail
    refine HLK.out.mono ?_;rintro r w3 ⟨x,xc,rfl,-,hb3⟩;have A3:=aA (aC w3 (.cells #[.string (str e.path),.int .i64 e.kind,.int .i64 e.size,.slice x e.chunks.length xc] 87));have B3:=aA (aB B2.out (aB hb3 A3.out));have X3:=aA (X2.out.below (aB hb3 A3.out));have R3:=aA (R2.out.below (aB hb3 A3.out));obtain ⟨f0,f1,f2,f3⟩:=dI.new w3 (.string (str e.path)) (.int .i64 e.kind) (.int .i64 e.size) (.slice x e.chunks.length xc) 87;clear hb3 A3 HLK X2 B2 R2;go_wp2_with fail
    clear f0 f1 f2 f3;generalize w3.alloc (.cells #[.string (str e.path),.int .i64 e.kind,.int .i64 e.size,.slice x e.chunks.length xc] 87)=W3 at *;have hxW:=X3.out.lt;refine (HWO.out W3 B3.out).mono ?_;rintro r w6 ⟨g6,c6,rfl,hG6,hb6⟩;have X6:=aA (X3.out.below hb6);have B6:=aA (aB B3.out hb6);have G6:=aA (GW.of hG6);have HA6:=aA (jW a c ls.length ls (some ⟨g6,0,none⟩) c6 RU.length RU w6 (HRD.out.below B6.out) rfl (by omega) hG6.rd rfl)
    rw[←HAL2.out]at HA6;clear hG6 hb6 HWO;go_wp2_with fail
    refine HA6.out.mono ?_;rintro r w7 ⟨av7,cv7,rfl,hr7,hb7⟩;have X7:=aA (X6.out.below hb7);have B7:=aA (aB B6.out hb7);have G7:=aA (G6.out.below hb7);have HL7:=aA (fY av7 cv7 al2.length al2 p w7 hr7 rfl H42.out HR2.out HP.out hpl e2 HE2.out);clear hr7 hb7 HA6 X6 B6 G6;go_wp2_with fail
    refine HL7.out.mono ?_;rintro r w8 ⟨x8,xc8,rfl,-,hb8⟩;have A8:=aA (aB hb8 (aC w8 (.cells #[.string (str e2.path),.int .i64 e2.kind,.int .i64 e2.size,.slice x8 e2.chunks.length xc8] 87)));have X8:=aA (X7.out.below A8.out);have B8:=aA (aB B7.out A8.out);have G8:=aA (G7.out.below A8.out);clear hb8 A8 HL7 X7 B7 G7;go_wp2_with fail
    generalize w8.alloc (.cells #[.string (str e2.path),.int .i64 e2.kind,.int .i64 e2.size,.slice x8 e2.chunks.length xc8] 87)=W8 at *;have HFL:=aA (kH u uc U.length U (some ⟨g6,0,none⟩) c6 RU.length RU ⟨p,3,0,[]⟩ none 0 0 W8 (HU.out.below B8.out) rfl (by omega) HUs.out G8.out.rd rfl (by omega) HRS.out HP.out rfl (fun hz=>absurd rfl hz) hpl (by simp) rep V HV.out)
    refine HFL.out.mono ?_;rintro r w9 ⟨av9,cv9,rfl,hG9,hb9⟩;have G9:=aA hG9;have B9:=aA (aB B8.out hb9);have hl9:=X8.out.lt;obtain ⟨⟨t0,t1,t2⟩,t3,t4,t5⟩:=X8.out.below hb9;clear hG9 hb9;go_wp2_with fail
    exact bodyPost_ret (v:=.agg #[.int .i64 0,.int .i64 rep,.slice av9 V.length cv9]) (by simp[results,Tryz.results252,go_sem,t0,t1,t2]) rfl ⟨rep,V,HCP.out,eT.of hl9 (Nat.le_refl _) rfl G9.out B9.out⟩
end Go.Proofs.YtgaeikgoknoamaaGreat
