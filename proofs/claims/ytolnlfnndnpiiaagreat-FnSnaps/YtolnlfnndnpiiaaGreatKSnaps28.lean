/-
  Texts put together: MntL MntE MntM SnqL.
-/
import Derived.Test.YtolnlfnndnpiiaaGreatKSnaps27
import Derived.Test.YtolnlfnndnpiiaaGreatKSnaps26
import Derived.Test.YtolnlfnndnpiiaaGreatKSnaps23
import Derived.Test.YtolnlfnndnpiiaaGreatKSnaps21
set_option linter.unusedVariables false
set_option maxHeartbeats 6400000
set_option maxRecDepth 100000
namespace Go.Proofs.YtolnlfnndnpiiaaGreat
open Go.RowKit Go.Maps
attribute [local go_sem ↓] Go.wp_at_zero Go.wp_at_succ
def rmS (T:List En) (p:Bs):Int:=match aG T p with | none=>4 | some e=>if e.kind=2 then (if 0<(eK T p).length then 1 else 0) else 0
structure RmS (ls:List (List En)) (T U:List En) (p:Bs) (rep:Int) (V:List En):Prop where
 no:rmS T p≠0→rep=rmS T p∧V=U
 gone:rmS T p=0→aG (aJ (ls ++ [bB U p true])) p=none→rep=0∧V=bB U p true
 white:rmS T p=0→aG (aJ (ls ++ [bB U p true])) p≠none→jP U (bB U p true) ⟨p,3,0,[]⟩ rep V
theorem RmS.stay {ls:List (List En)} {T U:List En} {p:Bs} {q:Int} (h:rmS T p=q) (hq:q≠0):RmS ls T U p q U:=⟨fun _=>⟨h.symm,rfl⟩,fun h2=>absurd (h.symm.trans h2) hq,fun h2=>absurd (h.symm.trans h2) hq⟩
theorem tJ {U:List En} {p:Bs} (h:aU U) (hp:aF p=0):aU (bB U p true):=by
 have h1:=zve h hp;have h2:fA U p=bB U p true:=za1 (fun x hx=>bM (h.ent x hx)) hp
 rwa [h2]at h1
theorem zw7 (a:Option Addr) (c n:Nat) (ls:List (List En)) (u:Option Addr) (uc m:Nat) (U:List En) (p:Bs) (w:World) (h:RdL w a ls) (hn:n=ls.length) (hU:RdE w u U) (hm:m=U.length) (h4:(ls ++ [U]).length≤4) (hR:∀ es∈ls ++ [U],aU es) (hp:aF p=0) (hpl:p.length≤1048576) :
  Calls Tryz.prog 123 #[.slice a n c,.slice u m uc,.string (str p)] w fun r w'=>∃ rep V,RmS ls (aJ (ls ++ [U])) U p rep V∧cY 0 rep V w r w':=by
 subst hn;subst hm;have hRU:aU U:=hR U (by simp)
 have hl4:ls.length≤4:=by rw[List.length_append]at h4;omega
 have hUl:=hRU.len;have HUs:=aA (cG hRU);have HP:=aA hp;have X0:=aA (cC.new w (.int .i64 0) (.int .i64 0) (.slice none 0 0) 64);have B0:=aA (aC w (.cells #[.int .i64 0,.int .i64 0,.slice none 0 0] 64));have HA:=aA (kT a c ls.length ls u uc U.length U _ (h.below B0.out) rfl (by omega) (hU.below B0.out) rfl)
 have HU:=aA hU;have HST:=aA (fun (q:Int) v (hv:Below w.heap.size w v)=>pI u uc U.length U q v (HU.out.below hv) rfl (by omega) HUs.out)
 have HRR:=aA hR;have H4:=aA h4;have HRD:=aA h;have hRr:=tJ hRU hp;have HRS:=aA (cG hRr);have hrl:=hRr.len;have H42:=aA (show (ls ++ [bB U p true]).length≤4 by rw[List.length_append]at h4 ⊢;simpa using h4)
 have HR2:=aA (show ∀ es∈ls ++ [bB U p true],aU es from fun es he=>by
  rcases List.mem_append.1 he with he | he
  ·exact hR es (List.mem_append_left _ he)
  ·simp at he;subst he;exact hRr)
 have HWO:=aA (fun v (hv:Below w.heap.size w v)=>zw5 u uc U.length U p true v (hU.below hv) rfl (by omega) HUs.out hpl)
 clear hRr;clear h hU hR hRU hp h4;obtain ⟨al,hal⟩:∃ al,al=ls ++ [U]:=⟨_,rfl⟩;rw[←hal]at HA HRR H4 ⊢;have HALL:=aA hal;clear hal;cases ha:aG (aJ al) p with
 | none =>
  have HC:=aA (show rmS (aJ al) p=4 by simp[rmS,ha])
  go_enter Tryz.func123,Tryz.ntmps123;go_wp2_with fail
  refine HA.out.mono ?_;rintro r w1 ⟨av,cv,rfl,hr1,hb1⟩;have X1:=aA (X0.out.below hb1);have B1:=aA (aB B0.out hb1);have R1:=aA hr1;have hlt:=X1.out.lt;clear hr1 hb1 HA X0 B0;have X2:=X1;have B2:=B1;have R2:=R1;clear X1 B1 R1;have HLK:=aA (kS av cv _ _ p w1 R2.out rfl H4.out HRR.out HP.out hpl ha);clear ha;go_wp2_with fail
  refine HLK.out.mono ?_;rintro r w3 ⟨rfl,hb3⟩;have A3:=aA (aC w3 (.cells #[.string ⟨#[]⟩,.int .i64 0,.int .i64 0,.slice none 0 0] 50));have B3:=aA (aB B2.out (aB hb3 A3.out));have X3:=aA (X2.out.below (aB hb3 A3.out));have R3:=aA (R2.out.below (aB hb3 A3.out));obtain ⟨f0,f1,f2,f3⟩:=cI.new w3 (.string ⟨#[]⟩) (.int .i64 0) (.int .i64 0) (.slice none 0 0) 50;clear hb3 A3 HLK X2 B2 R2;go_wp2_with fail
  clear f0 f1 f2 f3;generalize w3.alloc (.cells #[.string ⟨#[]⟩,.int .i64 0,.int .i64 0,.slice none 0 0] 50)=W3 at *;refine (HST.out 4 W3 B3.out).mono ?_;rintro r w9 ⟨av9,cv9,rfl,hG9,hb9⟩;have G9:=aA hG9;have B9:=aA (aB B3.out hb9);have hl9:=X3.out.lt;obtain ⟨⟨t0,t1,t2⟩,t3,t4,t5⟩:=X3.out.below hb9;clear hG9 hb9;go_wp2_with fail
  exact bodyPost_ret (v:=.agg #[.int .i64 0,.int .i64 4,.slice av9 U.length cv9]) (by simp[results,Tryz.results123,go_sem,t0,t1,t2]) rfl ⟨4,U,RmS.stay HC.out (by decide),cY.of hl9 (Nat.le_refl _) rfl G9.out B9.out⟩
 | some e =>
  by_cases hk:e.kind=2
  ·have hk2:(e.kind==2)=true:=by simpa using hk
   by_cases hn:0<(eK (aJ al) p).length
   ·have HC:=aA (show rmS (aJ al) p=1 by simp only[rmS,ha];rw[if_pos hk,if_pos hn])
    have hn2:(0:Int)<((eK (aJ al) p).length:Int):=by omega
    clear hk hn;go_enter Tryz.func123,Tryz.ntmps123;go_wp2_with fail
    refine HA.out.mono ?_;rintro r w1 ⟨av,cv,rfl,hr1,hb1⟩;have X1:=aA (X0.out.below hb1);have B1:=aA (aB B0.out hb1);have R1:=aA hr1;have hlt:=X1.out.lt;clear hr1 hb1 HA X0 B0;have X2:=X1;have B2:=B1;have R2:=R1;clear X1 B1 R1;have HLK:=aA (gM av cv _ _ p w1 R2.out rfl H4.out HRR.out HP.out hpl e ha);clear ha;go_wp2_with fail
    refine HLK.out.mono ?_;rintro r w3 ⟨x,xc,rfl,-,hb3⟩;have A3:=aA (aC w3 (.cells #[.string (str e.path),.int .i64 e.kind,.int .i64 e.size,.slice x e.chunks.length xc] 50));have B3:=aA (aB B2.out (aB hb3 A3.out));have X3:=aA (X2.out.below (aB hb3 A3.out));have R3:=aA (R2.out.below (aB hb3 A3.out));obtain ⟨f0,f1,f2,f3⟩:=cI.new w3 (.string (str e.path)) (.int .i64 e.kind) (.int .i64 e.size) (.slice x e.chunks.length xc) 50;clear hb3 A3 HLK X2 B2 R2;go_wp2_with fail
    clear f0 f1 f2 f3;generalize w3.alloc (.cells #[.string (str e.path),.int .i64 e.kind,.int .i64 e.size,.slice x e.chunks.length xc] 50)=W3 at *;have HNM:=aA (tF av cv _ _ p W3 R3.out rfl H4.out HRR.out (.inr HP.out) hpl);refine HNM.out.mono ?_;rintro r w4 ⟨nv,nc,rfl,-,hb4⟩;have X4:=aA (X3.out.below hb4);have B4:=aA (aB B3.out hb4);clear hb4 HNM X3 B3 R3;generalize (eK (aJ al) p).length=NL at *;go_wp2_with fail
    refine (HST.out 1 w4 B4.out).mono ?_;rintro r w9 ⟨av9,cv9,rfl,hG9,hb9⟩;have G9:=aA hG9;have B9:=aA (aB B4.out hb9);have hl9:=X4.out.lt;obtain ⟨⟨t0,t1,t2⟩,t3,t4,t5⟩:=X4.out.below hb9;clear hG9 hb9;go_wp2_with fail
    exact bodyPost_ret (v:=.agg #[.int .i64 0,.int .i64 1,.slice av9 U.length cv9]) (by simp[results,Tryz.results123,go_sem,t0,t1,t2]) rfl ⟨1,U,RmS.stay HC.out (by decide),cY.of hl9 (Nat.le_refl _) rfl G9.out B9.out⟩
   ·have HC:=aA (show rmS (aJ al) p=0 by simp only[rmS,ha];rw[if_pos hk,if_neg hn])
    have hn2:¬ (0:Int)<((eK (aJ al) p).length:Int):=by omega
    clear hk hn;cases hs2:aG (aJ (ls ++ [bB U p true])) p with
    | none =>
     have HCP0:Hid (RmS ls (aJ al) U p 0 (bB U p true)):=aA ⟨fun h=>absurd HC.out h,fun _ _=>⟨rfl,rfl⟩,fun _ h=>absurd hs2 h⟩
     have HE2:=aA hs2;clear hs2;obtain ⟨RU,hRU⟩:∃ RU,RU=bB U p true:=⟨_,rfl⟩;have HCP:Hid (RmS ls (aJ al) U p 0 RU):=aA (by rw[hRU];exact HCP0.out)
     clear HCP0;rw[←hRU]at HRS hrl H42 HR2 HWO HE2;clear hRU;obtain ⟨al2,hal2⟩:∃ al2,al2=ls ++ [RU]:=⟨_,rfl⟩;rw[←hal2]at H42 HR2 HE2;have HAL2:=aA hal2;clear hal2;go_enter Tryz.func123,Tryz.ntmps123;go_wp2_with fail
     refine HA.out.mono ?_;rintro r w1 ⟨av,cv,rfl,hr1,hb1⟩;have X1:=aA (X0.out.below hb1);have B1:=aA (aB B0.out hb1);have R1:=aA hr1;have hlt:=X1.out.lt;clear hr1 hb1 HA X0 B0;have X2:=X1;have B2:=B1;have R2:=R1;clear X1 B1 R1;have HLK:=aA (gM av cv _ _ p w1 R2.out rfl H4.out HRR.out HP.out hpl e ha);clear ha;go_wp2_with fail
     refine HLK.out.mono ?_;rintro r w3 ⟨x,xc,rfl,-,hb3⟩;have A3:=aA (aC w3 (.cells #[.string (str e.path),.int .i64 e.kind,.int .i64 e.size,.slice x e.chunks.length xc] 50));have B3:=aA (aB B2.out (aB hb3 A3.out));have X3:=aA (X2.out.below (aB hb3 A3.out));have R3:=aA (R2.out.below (aB hb3 A3.out));obtain ⟨f0,f1,f2,f3⟩:=cI.new w3 (.string (str e.path)) (.int .i64 e.kind) (.int .i64 e.size) (.slice x e.chunks.length xc) 50;clear hb3 A3 HLK X2 B2 R2;go_wp2_with fail
     clear f0 f1 f2 f3;generalize w3.alloc (.cells #[.string (str e.path),.int .i64 e.kind,.int .i64 e.size,.slice x e.chunks.length xc] 50)=W3 at *;have HNM:=aA (tF av cv _ _ p W3 R3.out rfl H4.out HRR.out (.inr HP.out) hpl);refine HNM.out.mono ?_;rintro r w4 ⟨nv,nc,rfl,-,hb4⟩;have X4:=aA (X3.out.below hb4);have B4:=aA (aB B3.out hb4);clear hb4 HNM X3 B3 R3;generalize (eK (aJ al) p).length=NL at *;go_wp2_with fail
     have hxW:=X4.out.lt;refine (HWO.out w4 B4.out).mono ?_;rintro r w6 ⟨g6,c6,rfl,hG6,hb6⟩;have X6:=aA (X4.out.below hb6);have B6:=aA (aB B4.out hb6);have G6:=aA (GW.of hG6);have HA6:=aA (kT a c ls.length ls (some ⟨g6,0,none⟩) c6 RU.length RU w6 (HRD.out.below B6.out) rfl (by omega) hG6.rd rfl)
     rw[←HAL2.out]at HA6;clear hG6 hb6 HWO;go_wp2_with fail
     refine HA6.out.mono ?_;rintro r w7 ⟨av7,cv7,rfl,hr7,hb7⟩;have X7:=aA (X6.out.below hb7);have B7:=aA (aB B6.out hb7);have G7:=aA (G6.out.below hb7);have HL7:=aA (kS av7 cv7 al2.length al2 p w7 hr7 rfl H42.out HR2.out HP.out hpl HE2.out);clear hr7 hb7 HA6 X6 B6 G6;go_wp2_with fail
     refine HL7.out.mono ?_;rintro r w8 ⟨rfl,hb8⟩;have A8:=aA (aB hb8 (aC w8 (.cells #[.string ⟨#[]⟩,.int .i64 0,.int .i64 0,.slice none 0 0] 50)));have B8:=aA (aB B7.out A8.out);have G8:=aA (G7.out.below A8.out);obtain ⟨⟨t0,t1,t2⟩,t3,t4,t5⟩:=X7.out.below A8.out;clear hb8 A8 HL7 B7 G7;go_wp2_with fail
     exact bodyPost_ret (v:=.agg #[.int .i64 0,.int .i64 0,.slice (some ⟨g6,0,none⟩) RU.length c6]) (by simp[results,Tryz.results123,go_sem,t0,t1,t2]) rfl ⟨0,RU,HCP.out,cY.of (b:=w.heap.size) hxW (Nat.le_refl _) rfl G8.out B8.out⟩
    | some e2 =>
     obtain ⟨rep,V,hV⟩:=nA U (bB U p true) ⟨p,3,0,[]⟩;have HCP:Hid (RmS ls (aJ al) U p rep V):=aA ⟨fun h=>absurd HC.out h,fun _ h=>absurd (hs2.symm.trans h) (by simp),fun _ _=>hV⟩
     have HE2:=aA hs2;have HV:=aA hV;clear hV hs2;obtain ⟨RU,hRU⟩:∃ RU,RU=bB U p true:=⟨_,rfl⟩;rw[←hRU]at HRS hrl H42 HR2 HWO HE2 HV;clear hRU;obtain ⟨al2,hal2⟩:∃ al2,al2=ls ++ [RU]:=⟨_,rfl⟩;rw[←hal2]at H42 HR2 HE2;have HAL2:=aA hal2;clear hal2;go_enter Tryz.func123,Tryz.ntmps123;go_wp2_with fail
     refine HA.out.mono ?_;rintro r w1 ⟨av,cv,rfl,hr1,hb1⟩;have X1:=aA (X0.out.below hb1);have B1:=aA (aB B0.out hb1);have R1:=aA hr1;have hlt:=X1.out.lt;clear hr1 hb1 HA X0 B0;have X2:=X1;have B2:=B1;have R2:=R1;clear X1 B1 R1;have HLK:=aA (gM av cv _ _ p w1 R2.out rfl H4.out HRR.out HP.out hpl e ha);clear ha;go_wp2_with fail
     refine HLK.out.mono ?_;rintro r w3 ⟨x,xc,rfl,-,hb3⟩;have A3:=aA (aC w3 (.cells #[.string (str e.path),.int .i64 e.kind,.int .i64 e.size,.slice x e.chunks.length xc] 50));have B3:=aA (aB B2.out (aB hb3 A3.out));have X3:=aA (X2.out.below (aB hb3 A3.out));have R3:=aA (R2.out.below (aB hb3 A3.out));obtain ⟨f0,f1,f2,f3⟩:=cI.new w3 (.string (str e.path)) (.int .i64 e.kind) (.int .i64 e.size) (.slice x e.chunks.length xc) 50;clear hb3 A3 HLK X2 B2 R2;go_wp2_with fail
     clear f0 f1 f2 f3;generalize w3.alloc (.cells #[.string (str e.path),.int .i64 e.kind,.int .i64 e.size,.slice x e.chunks.length xc] 50)=W3 at *;have HNM:=aA (tF av cv _ _ p W3 R3.out rfl H4.out HRR.out (.inr HP.out) hpl);refine HNM.out.mono ?_;rintro r w4 ⟨nv,nc,rfl,-,hb4⟩;have X4:=aA (X3.out.below hb4);have B4:=aA (aB B3.out hb4);clear hb4 HNM X3 B3 R3;generalize (eK (aJ al) p).length=NL at *;go_wp2_with fail
     have hxW:=X4.out.lt;refine (HWO.out w4 B4.out).mono ?_;rintro r w6 ⟨g6,c6,rfl,hG6,hb6⟩;have X6:=aA (X4.out.below hb6);have B6:=aA (aB B4.out hb6);have G6:=aA (GW.of hG6);have HA6:=aA (kT a c ls.length ls (some ⟨g6,0,none⟩) c6 RU.length RU w6 (HRD.out.below B6.out) rfl (by omega) hG6.rd rfl)
     rw[←HAL2.out]at HA6;clear hG6 hb6 HWO;go_wp2_with fail
     refine HA6.out.mono ?_;rintro r w7 ⟨av7,cv7,rfl,hr7,hb7⟩;have X7:=aA (X6.out.below hb7);have B7:=aA (aB B6.out hb7);have G7:=aA (G6.out.below hb7);have HL7:=aA (gM av7 cv7 al2.length al2 p w7 hr7 rfl H42.out HR2.out HP.out hpl e2 HE2.out);clear hr7 hb7 HA6 X6 B6 G6;go_wp2_with fail
     refine HL7.out.mono ?_;rintro r w8 ⟨x8,xc8,rfl,-,hb8⟩;have A8:=aA (aB hb8 (aC w8 (.cells #[.string (str e2.path),.int .i64 e2.kind,.int .i64 e2.size,.slice x8 e2.chunks.length xc8] 50)));have X8:=aA (X7.out.below A8.out);have B8:=aA (aB B7.out A8.out);have G8:=aA (G7.out.below A8.out);clear hb8 A8 HL7 X7 B7 G7;go_wp2_with fail
     generalize w8.alloc (.cells #[.string (str e2.path),.int .i64 e2.kind,.int .i64 e2.size,.slice x8 e2.chunks.length xc8] 50)=W8 at *;have HFL:=aA (kX u uc U.length U (some ⟨g6,0,none⟩) c6 RU.length RU ⟨p,3,0,[]⟩ none 0 0 W8 (HU.out.below B8.out) rfl (by omega) HUs.out G8.out.rd rfl (by omega) HRS.out HP.out rfl (fun hz=>absurd rfl hz) hpl (by simp) rep V HV.out)
     refine HFL.out.mono ?_;rintro r w9 ⟨av9,cv9,rfl,hG9,hb9⟩;have G9:=aA hG9;have B9:=aA (aB B8.out hb9);have hl9:=X8.out.lt;obtain ⟨⟨t0,t1,t2⟩,t3,t4,t5⟩:=X8.out.below hb9;clear hG9 hb9;go_wp2_with fail
     exact bodyPost_ret (v:=.agg #[.int .i64 0,.int .i64 rep,.slice av9 V.length cv9]) (by simp[results,Tryz.results123,go_sem,t0,t1,t2]) rfl ⟨rep,V,HCP.out,cY.of hl9 (Nat.le_refl _) rfl G9.out B9.out⟩
  ·have HC:=aA (show rmS (aJ al) p=0 by simp only[rmS,ha];rw[if_neg hk])
   have hk2:(e.kind==2)=false:=by simpa using hk
   clear hk;cases hs2:aG (aJ (ls ++ [bB U p true])) p with
   | none =>
    have HCP0:Hid (RmS ls (aJ al) U p 0 (bB U p true)):=aA ⟨fun h=>absurd HC.out h,fun _ _=>⟨rfl,rfl⟩,fun _ h=>absurd hs2 h⟩
    have HE2:=aA hs2;clear hs2;obtain ⟨RU,hRU⟩:∃ RU,RU=bB U p true:=⟨_,rfl⟩;have HCP:Hid (RmS ls (aJ al) U p 0 RU):=aA (by rw[hRU];exact HCP0.out)
    clear HCP0;rw[←hRU]at HRS hrl H42 HR2 HWO HE2;clear hRU;obtain ⟨al2,hal2⟩:∃ al2,al2=ls ++ [RU]:=⟨_,rfl⟩;rw[←hal2]at H42 HR2 HE2;have HAL2:=aA hal2;clear hal2;go_enter Tryz.func123,Tryz.ntmps123;go_wp2_with fail
    refine HA.out.mono ?_;rintro r w1 ⟨av,cv,rfl,hr1,hb1⟩;have X1:=aA (X0.out.below hb1);have B1:=aA (aB B0.out hb1);have R1:=aA hr1;have hlt:=X1.out.lt;clear hr1 hb1 HA X0 B0;have X2:=X1;have B2:=B1;have R2:=R1;clear X1 B1 R1;have HLK:=aA (gM av cv _ _ p w1 R2.out rfl H4.out HRR.out HP.out hpl e ha);clear ha;go_wp2_with fail
    refine HLK.out.mono ?_;rintro r w3 ⟨x,xc,rfl,-,hb3⟩;have A3:=aA (aC w3 (.cells #[.string (str e.path),.int .i64 e.kind,.int .i64 e.size,.slice x e.chunks.length xc] 50));have B3:=aA (aB B2.out (aB hb3 A3.out));have X3:=aA (X2.out.below (aB hb3 A3.out));have R3:=aA (R2.out.below (aB hb3 A3.out));obtain ⟨f0,f1,f2,f3⟩:=cI.new w3 (.string (str e.path)) (.int .i64 e.kind) (.int .i64 e.size) (.slice x e.chunks.length xc) 50;clear hb3 A3 HLK X2 B2 R2;go_wp2_with fail
    clear f0 f1 f2 f3;generalize w3.alloc (.cells #[.string (str e.path),.int .i64 e.kind,.int .i64 e.size,.slice x e.chunks.length xc] 50)=W3 at *;have hxW:=X3.out.lt;refine (HWO.out W3 B3.out).mono ?_;rintro r w6 ⟨g6,c6,rfl,hG6,hb6⟩;have X6:=aA (X3.out.below hb6);have B6:=aA (aB B3.out hb6);have G6:=aA (GW.of hG6);have HA6:=aA (kT a c ls.length ls (some ⟨g6,0,none⟩) c6 RU.length RU w6 (HRD.out.below B6.out) rfl (by omega) hG6.rd rfl)
    rw[←HAL2.out]at HA6;clear hG6 hb6 HWO;go_wp2_with fail
    refine HA6.out.mono ?_;rintro r w7 ⟨av7,cv7,rfl,hr7,hb7⟩;have X7:=aA (X6.out.below hb7);have B7:=aA (aB B6.out hb7);have G7:=aA (G6.out.below hb7);have HL7:=aA (kS av7 cv7 al2.length al2 p w7 hr7 rfl H42.out HR2.out HP.out hpl HE2.out);clear hr7 hb7 HA6 X6 B6 G6;go_wp2_with fail
    refine HL7.out.mono ?_;rintro r w8 ⟨rfl,hb8⟩;have A8:=aA (aB hb8 (aC w8 (.cells #[.string ⟨#[]⟩,.int .i64 0,.int .i64 0,.slice none 0 0] 50)));have B8:=aA (aB B7.out A8.out);have G8:=aA (G7.out.below A8.out);obtain ⟨⟨t0,t1,t2⟩,t3,t4,t5⟩:=X7.out.below A8.out;clear hb8 A8 HL7 B7 G7;go_wp2_with fail
    exact bodyPost_ret (v:=.agg #[.int .i64 0,.int .i64 0,.slice (some ⟨g6,0,none⟩) RU.length c6]) (by simp[results,Tryz.results123,go_sem,t0,t1,t2]) rfl ⟨0,RU,HCP.out,cY.of (b:=w.heap.size) hxW (Nat.le_refl _) rfl G8.out B8.out⟩
   | some e2 =>
    obtain ⟨rep,V,hV⟩:=nA U (bB U p true) ⟨p,3,0,[]⟩;have HCP:Hid (RmS ls (aJ al) U p rep V):=aA ⟨fun h=>absurd HC.out h,fun _ h=>absurd (hs2.symm.trans h) (by simp),fun _ _=>hV⟩
    have HE2:=aA hs2;have HV:=aA hV;clear hV hs2;obtain ⟨RU,hRU⟩:∃ RU,RU=bB U p true:=⟨_,rfl⟩;rw[←hRU]at HRS hrl H42 HR2 HWO HE2 HV;clear hRU;obtain ⟨al2,hal2⟩:∃ al2,al2=ls ++ [RU]:=⟨_,rfl⟩;rw[←hal2]at H42 HR2 HE2;have HAL2:=aA hal2;clear hal2;go_enter Tryz.func123,Tryz.ntmps123;go_wp2_with fail
    refine HA.out.mono ?_;rintro r w1 ⟨av,cv,rfl,hr1,hb1⟩;have X1:=aA (X0.out.below hb1);have B1:=aA (aB B0.out hb1);have R1:=aA hr1;have hlt:=X1.out.lt;clear hr1 hb1 HA X0 B0;have X2:=X1;have B2:=B1;have R2:=R1;clear X1 B1 R1;have HLK:=aA (gM av cv _ _ p w1 R2.out rfl H4.out HRR.out HP.out hpl e ha);clear ha;go_wp2_with fail
    refine HLK.out.mono ?_;rintro r w3 ⟨x,xc,rfl,-,hb3⟩;have A3:=aA (aC w3 (.cells #[.string (str e.path),.int .i64 e.kind,.int .i64 e.size,.slice x e.chunks.length xc] 50));have B3:=aA (aB B2.out (aB hb3 A3.out));have X3:=aA (X2.out.below (aB hb3 A3.out));have R3:=aA (R2.out.below (aB hb3 A3.out));obtain ⟨f0,f1,f2,f3⟩:=cI.new w3 (.string (str e.path)) (.int .i64 e.kind) (.int .i64 e.size) (.slice x e.chunks.length xc) 50;clear hb3 A3 HLK X2 B2 R2;go_wp2_with fail
    clear f0 f1 f2 f3;generalize w3.alloc (.cells #[.string (str e.path),.int .i64 e.kind,.int .i64 e.size,.slice x e.chunks.length xc] 50)=W3 at *;have hxW:=X3.out.lt;refine (HWO.out W3 B3.out).mono ?_;rintro r w6 ⟨g6,c6,rfl,hG6,hb6⟩;have X6:=aA (X3.out.below hb6);have B6:=aA (aB B3.out hb6);have G6:=aA (GW.of hG6);have HA6:=aA (kT a c ls.length ls (some ⟨g6,0,none⟩) c6 RU.length RU w6 (HRD.out.below B6.out) rfl (by omega) hG6.rd rfl)
    rw[←HAL2.out]at HA6;clear hG6 hb6 HWO;go_wp2_with fail
    refine HA6.out.mono ?_;rintro r w7 ⟨av7,cv7,rfl,hr7,hb7⟩;have X7:=aA (X6.out.below hb7);have B7:=aA (aB B6.out hb7);have G7:=aA (G6.out.below hb7);have HL7:=aA (gM av7 cv7 al2.length al2 p w7 hr7 rfl H42.out HR2.out HP.out hpl e2 HE2.out);clear hr7 hb7 HA6 X6 B6 G6;go_wp2_with fail
    refine HL7.out.mono ?_;rintro r w8 ⟨x8,xc8,rfl,-,hb8⟩;have A8:=aA (aB hb8 (aC w8 (.cells #[.string (str e2.path),.int .i64 e2.kind,.int .i64 e2.size,.slice x8 e2.chunks.length xc8] 50)));have X8:=aA (X7.out.below A8.out);have B8:=aA (aB B7.out A8.out);have G8:=aA (G7.out.below A8.out);clear hb8 A8 HL7 X7 B7 G7;go_wp2_with fail
    generalize w8.alloc (.cells #[.string (str e2.path),.int .i64 e2.kind,.int .i64 e2.size,.slice x8 e2.chunks.length xc8] 50)=W8 at *;have HFL:=aA (kX u uc U.length U (some ⟨g6,0,none⟩) c6 RU.length RU ⟨p,3,0,[]⟩ none 0 0 W8 (HU.out.below B8.out) rfl (by omega) HUs.out G8.out.rd rfl (by omega) HRS.out HP.out rfl (fun hz=>absurd rfl hz) hpl (by simp) rep V HV.out)
    refine HFL.out.mono ?_;rintro r w9 ⟨av9,cv9,rfl,hG9,hb9⟩;have G9:=aA hG9;have B9:=aA (aB B8.out hb9);have hl9:=X8.out.lt;obtain ⟨⟨t0,t1,t2⟩,t3,t4,t5⟩:=X8.out.below hb9;clear hG9 hb9;go_wp2_with fail
    exact bodyPost_ret (v:=.agg #[.int .i64 0,.int .i64 rep,.slice av9 V.length cv9]) (by simp[results,Tryz.results123,go_sem,t0,t1,t2]) rfl ⟨rep,V,HCP.out,cY.of hl9 (Nat.le_refl _) rfl G9.out B9.out⟩
theorem pM {ls:List (List En)} {U:List En} (h:eJ ls) (hl:U.length≤1000000) (hs:aV U):eJ (ls ++ [U]):=fun es he=>by
 rcases List.mem_append.1 he with he | he
 ·exact h es he
 ·simp at he;subst he;exact ⟨by omega,hs⟩
structure iG (A:Int) (P:Int→List En→Prop) (q rep:Int) (V:List En):Prop where
 bad:A≠0→q=A∧rep=0∧V=[]
 good:A=0→q=0∧P rep V
theorem iG.no {A:Int} {P:Int→List En→Prop} (h:A≠0):iG A P A 0 []:=⟨fun _=>⟨rfl,rfl,rfl⟩,fun h2=>absurd h2 h⟩
theorem iG.yes {A:Int} {P:Int→List En→Prop} {rep:Int} {V:List En} (h:A=0) (hP:P rep V):iG A P 0 rep V:=⟨fun h2=>absurd h h2,fun _=>⟨rfl,hP⟩⟩
theorem zf1 (a:Option Addr) (c n:Nat) (ls:List (List En)) (u:Option Addr) (uc m:Nat) (U:List En) (p:Bs) (w:World) (h:RdL w a ls) (hn:n=ls.length) (hl:ls.length≤1000000) (hU:RdE w u U) (hm:m=U.length) (hs:eJ (ls ++ [U])) (hg:∀ es∈ls ++ [U],cJ es=aR es) (hpl:p.length≤1048576) :
  Calls Tryz.prog 75 #[.slice a n c,.slice u m uc,.string (str p)] w fun r w'=>∃ q rep V,iG (bJ (ls ++ [U]) p) (MkS (aJ (ls ++ [U])) U p) q rep V∧cY q rep V w r w':=by
 subst hn;subst hm;have X0:=aA (cC.new w (.int .i64 0) (.int .i64 0) (.slice none 0 0) 64);have B0:=aA (aC w (.cells #[.int .i64 0,.int .i64 0,.slice none 0 0] 64));have HAS:=aA (tG a c ls.length ls u uc U.length U p _ (h.below B0.out) rfl hl (hU.below B0.out) rfl hs hg hpl);have HU:=aA hU;have HRD:=aA h;clear h hU hs hg;obtain ⟨al,hal⟩:∃ al,al=ls ++ [U]:=⟨_,rfl⟩;obtain ⟨PP,hPP⟩:∃ PP:Int→List En→Prop,PP=MkS (aJ (ls ++ [U])) U p:=⟨_,rfl⟩;rw[←hPP];rw[←hal]at HAS ⊢;have HALL:=aA hal;have HPP:=aA hPP;clear hal hPP;by_cases hz:bJ al p=0
 ·obtain ⟨h4,hRs,hp⟩:=jD hz
  have HC:=aA hz;rw[HALL.out]at h4 hRs;have HPT:=aA (fun v (hv:Below w.heap.size w v)=>zge a c ls.length ls u uc U.length U p v (HRD.out.below hv) rfl (HU.out.below hv) rfl h4 hRs hp hpl)
  rw[hz]at HAS;clear hz hRs hp h4;go_enter Tryz.func75,Tryz.ntmps75;go_wp2_with fail
  refine HAS.out.mono ?_;rintro r w2 ⟨rfl,hb2⟩;have X2:=aA (X0.out.below hb2);have B2:=aA (aB B0.out hb2);have hl2:=X2.out.lt;clear hb2 X0 B0 HAS;go_wp2_with fail
  refine (HPT.out w2 B2.out).mono ?_;rintro r w3 ⟨rep,V,hV,av3,cv3,rfl,hG3,hb3⟩;have HV:=aA (iG.yes (P:=PP) HC.out (by rw[HPP.out];exact hV))
  have G3:=aA hG3;have B3:=aA (aB B2.out hb3);obtain ⟨⟨t0,t1,t2⟩,t3,t4,t5⟩:=X2.out.below hb3;clear hV hG3 hb3 HPT;go_wp2_with fail
  exact bodyPost_ret (v:=.agg #[.int .i64 0,.int .i64 rep,.slice av3 V.length cv3]) (by simp[results,Tryz.results75,go_sem,t0,t1,t2]) rfl ⟨0,rep,V,HV.out,cY.of hl2 (Nat.le_refl _) rfl G3.out B3.out⟩
 ·have HZ:=aA (iG.no (P:=PP) hz)
  generalize bJ al p=F at *;have hz2:(F != 0)=true:=by simp;exact hz
  clear hz;go_enter Tryz.func75,Tryz.ntmps75;go_wp2_with fail
  refine HAS.out.mono ?_;rintro r w2 ⟨rfl,hb2⟩;have B2:=aA (aB B0.out hb2);obtain ⟨⟨t0,t1,t2⟩,t3,t4,t5⟩:=X0.out.below hb2;clear hb2;go_wp2_with fail
  exact bodyPost_ret (v:=.agg #[.int .i64 F,.int .i64 0,.slice none 0 0]) (by simp[results,Tryz.results75,go_sem,t0,t1,t2]) rfl ⟨F,0,[],HZ.out,cY.of (b:=w.heap.size) (Nat.lt_succ_self _) (Nat.le_refl _) rfl (GW.nil _ _) B2.out⟩
theorem xW (a:Option Addr) (c n:Nat) (ls:List (List En)) (u:Option Addr) (uc m:Nat) (U:List En) (p:Bs) (w:World) (h:RdL w a ls) (hn:n=ls.length) (hl:ls.length≤1000000) (hU:RdE w u U) (hm:m=U.length) (hs:eJ (ls ++ [U])) (hg:∀ es∈ls ++ [U],cJ es=aR es) (hpl:p.length≤1048576) :
  Calls Tryz.prog 76 #[.slice a n c,.slice u m uc,.string (str p)] w fun r w'=>∃ q rep V,iG (bJ (ls ++ [U]) p) (RmS ls (aJ (ls ++ [U])) U p) q rep V∧cY q rep V w r w':=by
 subst hn;subst hm;have X0:=aA (cC.new w (.int .i64 0) (.int .i64 0) (.slice none 0 0) 64);have B0:=aA (aC w (.cells #[.int .i64 0,.int .i64 0,.slice none 0 0] 64));have HAS:=aA (tG a c ls.length ls u uc U.length U p _ (h.below B0.out) rfl hl (hU.below B0.out) rfl hs hg hpl);have HU:=aA hU;have HRD:=aA h;clear h hU hs hg;obtain ⟨al,hal⟩:∃ al,al=ls ++ [U]:=⟨_,rfl⟩;obtain ⟨PP,hPP⟩:∃ PP:Int→List En→Prop,PP=RmS ls (aJ (ls ++ [U])) U p:=⟨_,rfl⟩;rw[←hPP];rw[←hal]at HAS ⊢;have HALL:=aA hal;have HPP:=aA hPP;clear hal hPP;by_cases hz:bJ al p=0
 ·obtain ⟨h4,hRs,hp⟩:=jD hz
  have HC:=aA hz;rw[HALL.out]at h4 hRs;have HPT:=aA (fun v (hv:Below w.heap.size w v)=>zw7 a c ls.length ls u uc U.length U p v (HRD.out.below hv) rfl (HU.out.below hv) rfl h4 hRs hp hpl)
  rw[hz]at HAS;clear hz hRs hp h4;go_enter Tryz.func76,Tryz.ntmps76;go_wp2_with fail
  refine HAS.out.mono ?_;rintro r w2 ⟨rfl,hb2⟩;have X2:=aA (X0.out.below hb2);have B2:=aA (aB B0.out hb2);have hl2:=X2.out.lt;clear hb2 X0 B0 HAS;go_wp2_with fail
  refine (HPT.out w2 B2.out).mono ?_;rintro r w3 ⟨rep,V,hV,av3,cv3,rfl,hG3,hb3⟩;have HV:=aA (iG.yes (P:=PP) HC.out (by rw[HPP.out];exact hV))
  have G3:=aA hG3;have B3:=aA (aB B2.out hb3);obtain ⟨⟨t0,t1,t2⟩,t3,t4,t5⟩:=X2.out.below hb3;clear hV hG3 hb3 HPT;go_wp2_with fail
  exact bodyPost_ret (v:=.agg #[.int .i64 0,.int .i64 rep,.slice av3 V.length cv3]) (by simp[results,Tryz.results76,go_sem,t0,t1,t2]) rfl ⟨0,rep,V,HV.out,cY.of hl2 (Nat.le_refl _) rfl G3.out B3.out⟩
 ·have HZ:=aA (iG.no (P:=PP) hz)
  generalize bJ al p=F at *;have hz2:(F != 0)=true:=by simp;exact hz
  clear hz;go_enter Tryz.func76,Tryz.ntmps76;go_wp2_with fail
  refine HAS.out.mono ?_;rintro r w2 ⟨rfl,hb2⟩;have B2:=aA (aB B0.out hb2);obtain ⟨⟨t0,t1,t2⟩,t3,t4,t5⟩:=X0.out.below hb2;clear hb2;go_wp2_with fail
  exact bodyPost_ret (v:=.agg #[.int .i64 F,.int .i64 0,.slice none 0 0]) (by simp[results,Tryz.results76,go_sem,t0,t1,t2]) rfl ⟨F,0,[],HZ.out,cY.of (b:=w.heap.size) (Nat.lt_succ_self _) (Nat.le_refl _) rfl (GW.nil _ _) B2.out⟩
def jM (ls:List (List En)) (p:Bs) (zs:List Int):Int:=if bJ ls p=0 then (if 24<zs.length then 2 else 0) else bJ ls p
theorem zB (a:Option Addr) (c n:Nat) (ls:List (List En)) (u:Option Addr) (uc m:Nat) (U:List En) (p:Bs) (zs:List Int) (d:Option Addr) (dn dc:Nat) (w:World) (h:RdL w a ls) (hn:n=ls.length) (hl:ls.length≤1000000) (hU:RdE w u U) (hm:m=U.length) (hs:eJ (ls ++ [U])) (hg:∀ es∈ls ++ [U],cJ es=aR es) (hpl:p.length≤1048576) (hd:aP .u8 w d zs) (hdn:dn=zs.length) (hu8:U8 zs) (hdc:zs.length≤dc) (hdl:zs.length≤1048576) :
  Calls Tryz.prog 74 #[.slice a n c,.slice u m uc,.string (str p),.slice d dn dc] w fun r w'=>∃ q rep V,iG (jM (ls ++ [U]) p zs) (WrS (aJ (ls ++ [U])) U p (cV p zs)) q rep V∧cY q rep V w r w':=by
 subst hn;subst hm;have X0:=aA (cC.new w (.int .i64 0) (.int .i64 0) (.slice none 0 0) 64);have B0:=aA (aC w (.cells #[.int .i64 0,.int .i64 0,.slice none 0 0] 64));have HAS:=aA (tG a c ls.length ls u uc U.length U p _ (h.below B0.out) rfl hl (hU.below B0.out) rfl hs hg hpl);have HU:=aA hU;have HRD:=aA h;subst hdn;have HD:=aA hd;have HU8:=aA hu8;clear hd hu8;clear h hU hs hg;obtain ⟨al,hal⟩:∃ al,al=ls ++ [U]:=⟨_,rfl⟩;obtain ⟨PP,hPP⟩:∃ PP:Int→List En→Prop,PP=WrS (aJ (ls ++ [U])) U p (cV p zs):=⟨_,rfl⟩;rw[←hPP];rw[←hal]at HAS ⊢;have HALL:=aA hal;have HPP:=aA hPP
 clear hal hPP;by_cases hz:bJ al p=0
 ·obtain ⟨h4,hRs,hp⟩:=jD hz
  have HC:=aA hz;rw[HALL.out]at h4 hRs;rw[hz]at HAS;by_cases hbig:24<zs.length
  ·have HZ:=aA (iG.no (P:=PP) (A:=jM al p zs) (by rw[jM,if_pos hz,if_pos hbig];decide))
   rw[show jM al p zs=2 by rw[jM,if_pos hz,if_pos hbig]]at HZ ⊢
   have hbi:(24:Int)<(zs.length:Int):=by omega
   clear hz hRs hp h4 hbig;go_enter Tryz.func74,Tryz.ntmps74;go_wp2_with fail
   refine HAS.out.mono ?_;rintro r w2 ⟨rfl,hb2⟩;have B2:=aA (aB B0.out hb2);obtain ⟨⟨t0,t1,t2⟩,t3,t4,t5⟩:=X0.out.below hb2;clear hb2;go_wp2_with fail
   exact bodyPost_ret (v:=.agg #[.int .i64 2,.int .i64 0,.slice none 0 0]) (by simp[results,Tryz.results74,go_sem,t0,t1,t2]) rfl ⟨2,0,[],HZ.out,cY.of (b:=w.heap.size) (Nat.lt_succ_self _) (Nat.le_refl _) rfl (GW.nil _ _) B2.out⟩
  ·have HPT:=aA (fun v (hv:Below w.heap.size w v)=>zab a c ls.length ls u uc U.length U p zs d dc v (HRD.out.below hv) rfl (HU.out.below hv) rfl h4 hRs hp hpl (HD.out.below hv) HU8.out hdc (by omega))
   have HC0:=aA (show jM al p zs=0 by rw[jM,if_pos hz,if_neg hbig])
   have hbi:¬ (24:Int)<(zs.length:Int):=by omega
   clear hz hRs hp h4 hbig;go_enter Tryz.func74,Tryz.ntmps74;go_wp2_with fail
   refine HAS.out.mono ?_;rintro r w2 ⟨rfl,hb2⟩;have X2:=aA (X0.out.below hb2);have B2:=aA (aB B0.out hb2);have hl2:=X2.out.lt;clear hb2 X0 B0 HAS;go_wp2_with fail
   refine (HPT.out w2 B2.out).mono ?_;rintro r w3 ⟨rep,V,hV,av3,cv3,rfl,hG3,hb3⟩;have HV:=aA (iG.yes (P:=PP) HC0.out (by rw[HPP.out];exact hV))
   have G3:=aA hG3;have B3:=aA (aB B2.out hb3);obtain ⟨⟨t0,t1,t2⟩,t3,t4,t5⟩:=X2.out.below hb3;clear hV hG3 hb3 HPT;go_wp2_with fail
   exact bodyPost_ret (v:=.agg #[.int .i64 0,.int .i64 rep,.slice av3 V.length cv3]) (by simp[results,Tryz.results74,go_sem,t0,t1,t2]) rfl ⟨0,rep,V,HV.out,cY.of hl2 (Nat.le_refl _) rfl G3.out B3.out⟩
 ·rw[show jM al p zs=bJ al p by rw[jM,if_neg hz]]
  have HZ:=aA (iG.no (P:=PP) hz);generalize bJ al p=F at *;have hz2:(F != 0)=true:=by simp;exact hz
  clear hz;go_enter Tryz.func74,Tryz.ntmps74;go_wp2_with fail
  refine HAS.out.mono ?_;rintro r w2 ⟨rfl,hb2⟩;have B2:=aA (aB B0.out hb2);obtain ⟨⟨t0,t1,t2⟩,t3,t4,t5⟩:=X0.out.below hb2;clear hb2;go_wp2_with fail
  exact bodyPost_ret (v:=.agg #[.int .i64 F,.int .i64 0,.slice none 0 0]) (by simp[results,Tryz.results74,go_sem,t0,t1,t2]) rfl ⟨F,0,[],HZ.out,cY.of (b:=w.heap.size) (Nat.lt_succ_self _) (Nat.le_refl _) rfl (GW.nil _ _) B2.out⟩
def jK (ls:List (List En)) (U:List En) (p:Bs) (zs:List Int) (k q rep:Int) (V:List En):Prop :=
 (k=1→iG (jM (ls ++ [U]) p zs) (WrS (aJ (ls ++ [U])) U p (cV p zs)) q rep V)∧(k=2→iG (bJ (ls ++ [U]) p) (MkS (aJ (ls ++ [U])) U p) q rep V)∧(k=3→iG (bJ (ls ++ [U]) p) (RmS ls (aJ (ls ++ [U])) U p) q rep V)
theorem jK.one {ls:List (List En)} {U:List En} {p:Bs} {zs:List Int} {q rep:Int} {V:List En} (h:iG (jM (ls ++ [U]) p zs) (WrS (aJ (ls ++ [U])) U p (cV p zs)) q rep V):jK ls U p zs 1 q rep V:=⟨fun _=>h,fun e=>absurd e (by decide),fun e=>absurd e (by decide)⟩
theorem jK.two {ls:List (List En)} {U:List En} {p:Bs} {zs:List Int} {q rep:Int} {V:List En} (h:iG (bJ (ls ++ [U]) p) (MkS (aJ (ls ++ [U])) U p) q rep V):jK ls U p zs 2 q rep V:=⟨fun e=>absurd e (by decide),fun _=>h,fun e=>absurd e (by decide)⟩
theorem jK.three {ls:List (List En)} {U:List En} {p:Bs} {zs:List Int} {q rep:Int} {V:List En} (h:iG (bJ (ls ++ [U]) p) (RmS ls (aJ (ls ++ [U])) U p) q rep V):jK ls U p zs 3 q rep V:=⟨fun e=>absurd e (by decide),fun e=>absurd e (by decide),fun _=>h⟩
theorem GS.lay {B:Nat} {w:World} {g n c k:Nat} {l:List Sn} {s:Sn} {a2:Option Addr} {c2:Nat} {V:List En} (h:GS B w (.slice (some ⟨g,0,none⟩) n c) l) (hs:l[k]?=some s) (hV:GW B w (.slice a2 V.length c2) V):GS B (w.setCell ⟨g,k * 5+4,none⟩ (.slice a2 V.length c2)) (.slice (some ⟨g,0,none⟩) n c) (l.set k ⟨s.name,s.parent,s.kind,s.lease,V⟩):=by
 obtain ⟨rs,h1,h2,h3⟩:=h;have hk:k<l.length:=(List.getElem?_eq_some_iff.1 hs).1;have hl:rs.length=l.length:=by rw[←h1,List.length_map]
 obtain ⟨r,hr⟩:∃ r,rs[k]?=some r:=⟨_,List.getElem?_eq_getElem (by omega)⟩
 have hrs:r.s=s:=by
  have:(rs.map Rs.s)[k]?=some r.s:=by rw[List.getElem?_map,hr];rfl
  rw[h1,hs]at this;exact (Option.some.inj this).symm
 obtain ⟨m,c',e⟩:=bH h2;simp only[Value.slice.injEq]at e;obtain ⟨-,rfl,-⟩:=e;have s1:=(h2.stored (k * 5+4) (.slice a2 V.length c2)).1;rw[xO rs k 4 r ⟨⟨s.name,s.parent,s.kind,s.lease,V⟩,a2,c2⟩ _ hr (by decide) (by rw[←hrs];rfl)]at s1
 have hkp:aD (fun b=>(Value.slice (some ⟨g,0,none⟩) l.length c).ownBlock=some b) w (w.setCell ⟨g,k * 5+4,none⟩ (.slice a2 V.length c2)):=aD.setCell (S:=fun b=>(Value.slice (some ⟨g,0,none⟩) l.length c).ownBlock=some b) (p:=⟨g,k * 5+4,none⟩) (aD.refl _ _) (fun _=>rfl) _
 refine ⟨rs.set k ⟨⟨s.name,s.parent,s.kind,s.lease,V⟩,a2,c2⟩,by rw[List.map_set,h1],by rw[List.length_set];exact s1,fun r0 hr0=>?_⟩
 rcases List.mem_or_eq_of_mem_set hr0 with hr1 | rfl
 ·exact (h3 r0 hr1).apart h2 (by decide) (by decide) hkp
 ·exact hV.apart h2 (by decide) (by decide) hkp
theorem LL.last {B:Nat} {w:World} {g n c:Nat} {ls:List (List En)} {U:List En} (h:LL B w (.slice (some ⟨g,0,none⟩) n c) (ls ++ [U])):∃ xa xc,w.cell? ⟨g,ls.length,none⟩=some (.slice xa U.length xc)∧RdE w xa U∧RdL w (some ⟨g,0,none⟩) ls∧g<w.heap.size:=by
 have hrd:=h.rd;obtain ⟨b,off,A,C,e,hb,hc⟩:=hrd (by simp)
 simp only[Option.some.injEq,Addr.mk.injEq,and_true]at e;obtain ⟨rfl,rfl⟩:=e;obtain ⟨c1,c2⟩:=hc ls.length U (by simp)
 rw[Nat.zero_add]at c1;refine ⟨A ls.length,C ls.length,c1,c2,fun hz=>⟨g,0,A,C,rfl,hb,fun i es hi=>hc i es ?_⟩,hb⟩
 rw[List.getElem?_append_left (List.getElem?_eq_some_iff.1 hi).1]
 exact hi
theorem zs7 (a:Option Addr) (c n:Nat) (l:List Sn) (s:Sn) (j:Nat) (p:Bs) (zs:List Int) (d:Option Addr) (dn dc:Nat) (k:Int) (w:World) (h:RdS w a l) (hn:n=l.length) (hR:aW l) (hs:cD l) (hq:l[j]?=some s) (hk:k=1∨k=2∨k=3) (hpl:p.length≤1048576) (hd:aP .u8 w d zs) (hdn:dn=zs.length) (hu8:U8 zs) (hdc:zs.length≤dc) (hdl:zs.length≤1048576)
  (hw:∀ q rep V,jK (eE l s) s.layer p zs k q rep V→IntKind.i64.wrap (q+rep)=q+rep) :
  Calls Tryz.prog 35 #[.slice a n c,.int .i64 j,.string (str p),.slice d dn dc,.int .i64 k] w fun r w'=>∃ q rep V,jK (eE l s) s.layer p zs k q rep V∧((q+rep≠0∧bK 0 (q+rep) l w r w')∨(q+rep=0∧bK 0 0 (bO l ⟨s.name,s.parent,s.kind,s.lease,V⟩) w r w')):=by
 subst hn;subst hdn;have hl:=hR.len;have hmem:=List.mem_of_getElem? hq;have hjl:=(List.getElem?_eq_some_iff.1 hq).1;have X0:=aA (cC.new w (.int .i64 0) (.int .i64 0) (.slice none 0 0) 28);have B0:=aA (aC w (.cells #[.int .i64 0,.int .i64 0,.slice none 0 0] 28));have HCH:=aA (zq7 a c l.length l s s.name _ (h.below B0.out) rfl hR hs (kK hR.rise hmem));rw[gT]at HCH;have hK4:(eE l s).length+1≤4:=by have:=qM hR hmem;rw[gT]at this;simpa using this
 have HSL:=aA (show eJ (eE l s ++ [s.layer]) by
  rw[←gT];intro es hes;unfold cX at hes;rw[List.mem_reverse,List.mem_map]at hes;obtain ⟨y,hy,rfl⟩:=hes;have hy2:=hs.2 y (nJ (fun s0 hs0=>by cases hs0;exact hmem) y hy)
  exact ⟨hy2.2.2.1,hy2.2.2.2⟩)
 have HGL:=aA (show ∀ es∈eE l s ++ [s.layer],cJ es=aR es by
  rw[←gT];intro es hes;unfold cX at hes;rw[List.mem_reverse,List.mem_map]at hes;obtain ⟨y,hy,rfl⟩:=hes;have h9:=(hR.own y (nJ (fun s0 hs0=>by cases hs0;exact hmem) y hy)).2.2
  rw[h9,tW.2 (eX.1 h9)])
 have HRd:=aA h;have HRI:=aA hR.rise;have HSM:=aA hs;have HQ:=aA hq;have HD:=aA hd;have HU8:=aA hu8;have HWR:=aA hw;obtain ⟨b2,off2,e,x2,cc2,hbb,hb2,he,d0,-,-,-,-,-⟩:=(h.below B0.out).at hjl;subst hbb;have heq:e=s:=by rw[hq]at he;exact (Option.some.inj he).symm
 subst heq;have hj0:¬ (j:Int)<0:=by omega
 have hj1:(j:Int)<(l.length:Int):=by omega
 have hlen:(eE l e ++ [e.layer]).length=(eE l e).length+1:=by simp
 rw[hlen]at HCH;clear h hs hR hq hd hu8 hw he hlen;generalize eE l e=ls at *;go_enter Tryz.func35,Tryz.ntmps35;go_wp2_with fail
 have hsz0:(w.alloc (.cells #[.int .i64 0,.int .i64 0,.slice none 0 0] 28)).heap.size=w.heap.size+1:=by simp
 generalize w.alloc (.cells #[.int .i64 0,.int .i64 0,.slice none 0 0] 28)=W0 at *;refine HCH.out.mono ?_;rintro r w1 ⟨g,cv,rfl,hcv,hLL,hb1⟩;have B1:=aA (aB B0.out hb1);have X1:=aA (X0.out.below hb1);have hs1:=hb1.size;obtain ⟨u,xc,hcell,hRU,hRL,hgl⟩:=hLL.last;have RU:=aA hRU;have RL:=aA hRL;clear hb1 hLL hRU hRL d0;have hwk:IntKind.i64.wrap ((ls.length:Int)+1 - 1)=(ls.length:Int):=by simp[IntKind.wrap,IntKind.signed,IntKind.bits];omega
 have hwk2:IntKind.i64.wrap (ls.length:Int)=(ls.length:Int):=by simp[IntKind.wrap,IntKind.signed,IntKind.bits];omega
 have hI0:(0:Int)≤(ls.length:Int):=by omega
 have hI1:(ls.length:Int)≤(cv:Int):=by omega
 have hI2:(ls.length:Int)<(ls.length:Int)+1:=by omega
 have hI3:¬ (ls.length:Int)<0:=by omega
 have BW:=aA (aC w1 (.cells #[.int .i64 0,.int .i64 0,.slice none 0 0] 64));have B2:=aA (aB B1.out BW.out);have Y2:=aA (cC.new w1 (.int .i64 0) (.int .i64 0) (.slice none 0 0) 64);have X2:=aA (X1.out.below BW.out);rcases hk with rfl | rfl | rfl
 ·go_wp2_with fail
  have hs2:(w1.alloc (.cells #[.int .i64 0,.int .i64 0,.slice none 0 0] 64)).heap.size=w1.heap.size+1:=by simp
  generalize w1.alloc (.cells #[.int .i64 0,.int .i64 0,.slice none 0 0] 64)=W2 at *;refine (zB (some ⟨g,0,none⟩) cv ls.length ls u xc e.layer.length e.layer p zs d zs.length dc _ (RL.out.below BW.out) rfl (by omega) (RU.out.below BW.out) rfl HSL.out HGL.out hpl (HD.out.below B2.out) rfl HU8.out hdc hdl).mono ?_
  rintro r w3 ⟨q,rep,V,hF,av,cv3,rfl,hG3,hb3⟩;have HF:=aA (jK.one (zs:=zs) hF);have hwr:=HWR.out q rep V HF.out;have G3:=aA hG3;have B3:=aA (aB B2.out hb3);have X3:=aA (X2.out.below hb3);have Y3:=aA (Y2.out.below hb3);have hs3:=hb3.size;clear hG3 hb3 hF;obtain ⟨⟨y0,y1,y2⟩,y3,y4,y5⟩:=Y3.out;have Y4:=aA (Y3.out.set (.int .i64 q) (.int .i64 rep) (.slice av V.length cv3));have K4:=aA (aD.three' w3 w1.heap.size (.int .i64 q) (.int .i64 rep) (.slice av V.length cv3));have B4:=aA (B3.out.trans (K4.out.below B3.out.size (fun q hq e=>by omega)))
  have X4:=aA (X3.out.kept K4.out (by omega))
  have G4:=aA ((G3.out.kept K4.out (fun b hb e=>by omega)).mono (B':=w1.heap.size) (by omega))
  have hs4:=K4.out.size;obtain ⟨⟨z0,z1,z2⟩,z3,z4,z5⟩:=Y4.out;by_cases hz:q+rep=0
  ·have HZ:=aA hz
   rw[hz]at hwr;go_wp2_with fail
   clear hz hwr;generalize ((w3.setCell ⟨w1.heap.size,0,none⟩ (.int .i64 q)).setCell ⟨w1.heap.size,1,none⟩ (.int .i64 rep)).setCell ⟨w1.heap.size,2,none⟩ (.slice av V.length cv3)=W4 at *;refine (eD (some ⟨b2,off2,none⟩) c l.length l W4 (HRd.out.below B4.out) rfl (by omega) HSM.out).mono ?_
   rintro r w5 ⟨av5,cv5,rfl,hG5,hb5⟩;have G5:=aA (hG5.mono (B':=w1.heap.size) (by omega))
   have B5:=aA (aB B4.out hb5);have G6:=aA (G4.out.below hb5);have X5:=aA (X4.out.below hb5);have hs5:=hb5.size;obtain ⟨⟨z0,z1,z2⟩,z3,z4,z5⟩:=Y4.out.below hb5;obtain ⟨g5,hgv,hgB,hgl,hfz,r5,hrs5,hcl⟩:=hG5.at HQ.out;subst hgv;have hz2:w5.cell? ⟨g5,j * 5+4,none⟩=some (.slice r5.a r5.s.layer.length r5.c):=hcl 4 (by decide)
   have hf2:=hfz (j * 5+4);clear hG5 hb5 hcl hfz;have GP:=aA (G5.out.lay HQ.out G6.out);rw[←kE HRI.out HQ.out (s':=⟨e.name,e.parent,e.kind,e.lease,V⟩) rfl]at GP;have HLN:=aA (show (bO l ⟨e.name,e.parent,e.kind,e.lease,V⟩).length=l.length by rw[kE HRI.out HQ.out (s':=⟨e.name,e.parent,e.kind,e.lease,V⟩) rfl,List.length_set])
   have KS:=aA (aD.setCell (S:=fun q=>q=g5) (p:=⟨g5,j * 5+4,none⟩) (aD.refl _ w5) (fun _=>rfl) (.slice av V.length cv3))
   have BP:=aA (B5.out.trans (KS.out.below B5.out.size (fun q hq e=>by omega)))
   obtain ⟨⟨t0,t1,t2⟩,t3,t4,t5⟩:=X5.out.kept KS.out (by omega)
   go_wp2_with fail
   exact bodyPost_ret (v:=.agg #[.int .i64 0,.int .i64 0,.slice (some ⟨g5,0,none⟩) l.length cv5]) (by simp[results,Tryz.results35,go_sem,t0,t1,t2]) rfl ⟨q,rep,V,HF.out,.inr ⟨HZ.out,bK.of (B:=w1.heap.size) (by omega) (Nat.le_refl _) HLN.out.symm GP.out BP.out⟩⟩
  ·have HZ:=aA hz
   go_wp2_with fail
   generalize ((w3.setCell ⟨w1.heap.size,0,none⟩ (.int .i64 q)).setCell ⟨w1.heap.size,1,none⟩ (.int .i64 rep)).setCell ⟨w1.heap.size,2,none⟩ (.slice av V.length cv3)=W4 at *;refine (cO (some ⟨b2,off2,none⟩) c l.length l (q+rep) W4 (HRd.out.below B4.out) rfl (by omega) HSM.out).mono ?_
   rintro r w9 ⟨av9,cv9,rfl,hG,hb9⟩;have G9:=aA hG;have B9:=aA (aB B4.out hb9);obtain ⟨⟨t0,t1,t2⟩,t3,t4,t5⟩:=X4.out.below hb9;clear hG hb9;go_wp2_with fail
   exact bodyPost_ret (v:=.agg #[.int .i64 0,.int .i64 (q+rep),.slice av9 l.length cv9]) (by simp[results,Tryz.results35,go_sem,t0,t1,t2]) rfl ⟨q,rep,V,HF.out,.inl ⟨HZ.out,bK.of (B:=W4.heap.size) (by omega) (Nat.le_refl _) rfl G9.out B9.out⟩⟩
 ·go_wp2_with fail
  have hs2:(w1.alloc (.cells #[.int .i64 0,.int .i64 0,.slice none 0 0] 64)).heap.size=w1.heap.size+1:=by simp
  generalize w1.alloc (.cells #[.int .i64 0,.int .i64 0,.slice none 0 0] 64)=W2 at *;refine (zf1 (some ⟨g,0,none⟩) cv ls.length ls u xc e.layer.length e.layer p _ (RL.out.below BW.out) rfl (by omega) (RU.out.below BW.out) rfl HSL.out HGL.out hpl).mono ?_
  rintro r w3 ⟨q,rep,V,hF,av,cv3,rfl,hG3,hb3⟩;have HF:=aA (jK.two (zs:=zs) hF);have hwr:=HWR.out q rep V HF.out;have G3:=aA hG3;have B3:=aA (aB B2.out hb3);have X3:=aA (X2.out.below hb3);have Y3:=aA (Y2.out.below hb3);have hs3:=hb3.size;clear hG3 hb3 hF;obtain ⟨⟨y0,y1,y2⟩,y3,y4,y5⟩:=Y3.out;have Y4:=aA (Y3.out.set (.int .i64 q) (.int .i64 rep) (.slice av V.length cv3));have K4:=aA (aD.three' w3 w1.heap.size (.int .i64 q) (.int .i64 rep) (.slice av V.length cv3));have B4:=aA (B3.out.trans (K4.out.below B3.out.size (fun q hq e=>by omega)))
  have X4:=aA (X3.out.kept K4.out (by omega))
  have G4:=aA ((G3.out.kept K4.out (fun b hb e=>by omega)).mono (B':=w1.heap.size) (by omega))
  have hs4:=K4.out.size;obtain ⟨⟨z0,z1,z2⟩,z3,z4,z5⟩:=Y4.out;by_cases hz:q+rep=0
  ·have HZ:=aA hz
   rw[hz]at hwr;go_wp2_with fail
   clear hz hwr;generalize ((w3.setCell ⟨w1.heap.size,0,none⟩ (.int .i64 q)).setCell ⟨w1.heap.size,1,none⟩ (.int .i64 rep)).setCell ⟨w1.heap.size,2,none⟩ (.slice av V.length cv3)=W4 at *;refine (eD (some ⟨b2,off2,none⟩) c l.length l W4 (HRd.out.below B4.out) rfl (by omega) HSM.out).mono ?_
   rintro r w5 ⟨av5,cv5,rfl,hG5,hb5⟩;have G5:=aA (hG5.mono (B':=w1.heap.size) (by omega))
   have B5:=aA (aB B4.out hb5);have G6:=aA (G4.out.below hb5);have X5:=aA (X4.out.below hb5);have hs5:=hb5.size;obtain ⟨⟨z0,z1,z2⟩,z3,z4,z5⟩:=Y4.out.below hb5;obtain ⟨g5,hgv,hgB,hgl,hfz,r5,hrs5,hcl⟩:=hG5.at HQ.out;subst hgv;have hz2:w5.cell? ⟨g5,j * 5+4,none⟩=some (.slice r5.a r5.s.layer.length r5.c):=hcl 4 (by decide)
   have hf2:=hfz (j * 5+4);clear hG5 hb5 hcl hfz;have GP:=aA (G5.out.lay HQ.out G6.out);rw[←kE HRI.out HQ.out (s':=⟨e.name,e.parent,e.kind,e.lease,V⟩) rfl]at GP;have HLN:=aA (show (bO l ⟨e.name,e.parent,e.kind,e.lease,V⟩).length=l.length by rw[kE HRI.out HQ.out (s':=⟨e.name,e.parent,e.kind,e.lease,V⟩) rfl,List.length_set])
   have KS:=aA (aD.setCell (S:=fun q=>q=g5) (p:=⟨g5,j * 5+4,none⟩) (aD.refl _ w5) (fun _=>rfl) (.slice av V.length cv3))
   have BP:=aA (B5.out.trans (KS.out.below B5.out.size (fun q hq e=>by omega)))
   obtain ⟨⟨t0,t1,t2⟩,t3,t4,t5⟩:=X5.out.kept KS.out (by omega)
   go_wp2_with fail
   exact bodyPost_ret (v:=.agg #[.int .i64 0,.int .i64 0,.slice (some ⟨g5,0,none⟩) l.length cv5]) (by simp[results,Tryz.results35,go_sem,t0,t1,t2]) rfl ⟨q,rep,V,HF.out,.inr ⟨HZ.out,bK.of (B:=w1.heap.size) (by omega) (Nat.le_refl _) HLN.out.symm GP.out BP.out⟩⟩
  ·have HZ:=aA hz
   go_wp2_with fail
   generalize ((w3.setCell ⟨w1.heap.size,0,none⟩ (.int .i64 q)).setCell ⟨w1.heap.size,1,none⟩ (.int .i64 rep)).setCell ⟨w1.heap.size,2,none⟩ (.slice av V.length cv3)=W4 at *;refine (cO (some ⟨b2,off2,none⟩) c l.length l (q+rep) W4 (HRd.out.below B4.out) rfl (by omega) HSM.out).mono ?_
   rintro r w9 ⟨av9,cv9,rfl,hG,hb9⟩;have G9:=aA hG;have B9:=aA (aB B4.out hb9);obtain ⟨⟨t0,t1,t2⟩,t3,t4,t5⟩:=X4.out.below hb9;clear hG hb9;go_wp2_with fail
   exact bodyPost_ret (v:=.agg #[.int .i64 0,.int .i64 (q+rep),.slice av9 l.length cv9]) (by simp[results,Tryz.results35,go_sem,t0,t1,t2]) rfl ⟨q,rep,V,HF.out,.inl ⟨HZ.out,bK.of (B:=W4.heap.size) (by omega) (Nat.le_refl _) rfl G9.out B9.out⟩⟩
 ·go_wp2_with fail
  have hs2:(w1.alloc (.cells #[.int .i64 0,.int .i64 0,.slice none 0 0] 64)).heap.size=w1.heap.size+1:=by simp
  generalize w1.alloc (.cells #[.int .i64 0,.int .i64 0,.slice none 0 0] 64)=W2 at *;refine (xW (some ⟨g,0,none⟩) cv ls.length ls u xc e.layer.length e.layer p _ (RL.out.below BW.out) rfl (by omega) (RU.out.below BW.out) rfl HSL.out HGL.out hpl).mono ?_
  rintro r w3 ⟨q,rep,V,hF,av,cv3,rfl,hG3,hb3⟩;have HF:=aA (jK.three (zs:=zs) hF);have hwr:=HWR.out q rep V HF.out;have G3:=aA hG3;have B3:=aA (aB B2.out hb3);have X3:=aA (X2.out.below hb3);have Y3:=aA (Y2.out.below hb3);have hs3:=hb3.size;clear hG3 hb3 hF;obtain ⟨⟨y0,y1,y2⟩,y3,y4,y5⟩:=Y3.out;have Y4:=aA (Y3.out.set (.int .i64 q) (.int .i64 rep) (.slice av V.length cv3));have K4:=aA (aD.three' w3 w1.heap.size (.int .i64 q) (.int .i64 rep) (.slice av V.length cv3));have B4:=aA (B3.out.trans (K4.out.below B3.out.size (fun q hq e=>by omega)))
  have X4:=aA (X3.out.kept K4.out (by omega))
  have G4:=aA ((G3.out.kept K4.out (fun b hb e=>by omega)).mono (B':=w1.heap.size) (by omega))
  have hs4:=K4.out.size;obtain ⟨⟨z0,z1,z2⟩,z3,z4,z5⟩:=Y4.out;by_cases hz:q+rep=0
  ·have HZ:=aA hz
   rw[hz]at hwr;go_wp2_with fail
   clear hz hwr;generalize ((w3.setCell ⟨w1.heap.size,0,none⟩ (.int .i64 q)).setCell ⟨w1.heap.size,1,none⟩ (.int .i64 rep)).setCell ⟨w1.heap.size,2,none⟩ (.slice av V.length cv3)=W4 at *;refine (eD (some ⟨b2,off2,none⟩) c l.length l W4 (HRd.out.below B4.out) rfl (by omega) HSM.out).mono ?_
   rintro r w5 ⟨av5,cv5,rfl,hG5,hb5⟩;have G5:=aA (hG5.mono (B':=w1.heap.size) (by omega))
   have B5:=aA (aB B4.out hb5);have G6:=aA (G4.out.below hb5);have X5:=aA (X4.out.below hb5);have hs5:=hb5.size;obtain ⟨⟨z0,z1,z2⟩,z3,z4,z5⟩:=Y4.out.below hb5;obtain ⟨g5,hgv,hgB,hgl,hfz,r5,hrs5,hcl⟩:=hG5.at HQ.out;subst hgv;have hz2:w5.cell? ⟨g5,j * 5+4,none⟩=some (.slice r5.a r5.s.layer.length r5.c):=hcl 4 (by decide)
   have hf2:=hfz (j * 5+4);clear hG5 hb5 hcl hfz;have GP:=aA (G5.out.lay HQ.out G6.out);rw[←kE HRI.out HQ.out (s':=⟨e.name,e.parent,e.kind,e.lease,V⟩) rfl]at GP;have HLN:=aA (show (bO l ⟨e.name,e.parent,e.kind,e.lease,V⟩).length=l.length by rw[kE HRI.out HQ.out (s':=⟨e.name,e.parent,e.kind,e.lease,V⟩) rfl,List.length_set])
   have KS:=aA (aD.setCell (S:=fun q=>q=g5) (p:=⟨g5,j * 5+4,none⟩) (aD.refl _ w5) (fun _=>rfl) (.slice av V.length cv3))
   have BP:=aA (B5.out.trans (KS.out.below B5.out.size (fun q hq e=>by omega)))
   obtain ⟨⟨t0,t1,t2⟩,t3,t4,t5⟩:=X5.out.kept KS.out (by omega)
   go_wp2_with fail
   exact bodyPost_ret (v:=.agg #[.int .i64 0,.int .i64 0,.slice (some ⟨g5,0,none⟩) l.length cv5]) (by simp[results,Tryz.results35,go_sem,t0,t1,t2]) rfl ⟨q,rep,V,HF.out,.inr ⟨HZ.out,bK.of (B:=w1.heap.size) (by omega) (Nat.le_refl _) HLN.out.symm GP.out BP.out⟩⟩
  ·have HZ:=aA hz
   go_wp2_with fail
   generalize ((w3.setCell ⟨w1.heap.size,0,none⟩ (.int .i64 q)).setCell ⟨w1.heap.size,1,none⟩ (.int .i64 rep)).setCell ⟨w1.heap.size,2,none⟩ (.slice av V.length cv3)=W4 at *;refine (cO (some ⟨b2,off2,none⟩) c l.length l (q+rep) W4 (HRd.out.below B4.out) rfl (by omega) HSM.out).mono ?_
   rintro r w9 ⟨av9,cv9,rfl,hG,hb9⟩;have G9:=aA hG;have B9:=aA (aB B4.out hb9);obtain ⟨⟨t0,t1,t2⟩,t3,t4,t5⟩:=X4.out.below hb9;clear hG hb9;go_wp2_with fail
   exact bodyPost_ret (v:=.agg #[.int .i64 0,.int .i64 (q+rep),.slice av9 l.length cv9]) (by simp[results,Tryz.results35,go_sem,t0,t1,t2]) rfl ⟨q,rep,V,HF.out,.inl ⟨HZ.out,bK.of (B:=W4.heap.size) (by omega) (Nat.le_refl _) rfl G9.out B9.out⟩⟩
end Go.Proofs.YtolnlfnndnpiiaaGreat
