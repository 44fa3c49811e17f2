/-
  Texts put together: MntD AppAt OvrK OvrO.
-/
import Derived.Test.YtolnlfnndnpiiaaGreatKSnaps25
import Derived.Test.YtolnlfnndnpiiaaGreatKSnaps1
import Derived.Maps.AppendAt
import Derived.Test.YtolnlfnndnpiiaaGreatKSnaps14
import Derived.Test.YtolnlfnndnpiiaaGreatKSnaps12
set_option linter.unusedVariables false
set_option maxHeartbeats 12800000
set_option maxRecDepth 100000
namespace Go.Proofs.YtolnlfnndnpiiaaGreat
open Go.RowKit Go.Maps
attribute [local go_sem ↓] Go.wp_at_zero Go.wp_at_succ
def sV (U:List En) (e:En):Int × List En:=gL (bG e.path).length U e
def lJ (U:List En) (e:En):Int:=(sV U e).1
def kI (U:List En) (e:En):List En:=if (sV U e).1=0 then (sV U e).2 else U
theorem tN (a:Option Addr) (c n:Nat) (U:List En) (e:En) (x:Option Addr) (m cc:Nat) (w:World) (hR:aU U) (h:RdE w a U) (hn:n=U.length) (hp:aF e.path=0) (hm:m=e.chunks.length) (hx:aP .i64 w x e.chunks) (hpl:e.path.length≤1048576) (hcl:e.chunks.length≤1048576) :
  Calls Tryz.prog 107 #[.slice a n c,.agg #[.string (str e.path),.int .i64 e.kind,.int .i64 e.size,.slice x m cc]] w (cY 0 (lJ U e) (kI U e) w):=by
 subst hn;subst hm;have B0:=aA (aB (aC w (.cells #[.string (str e.path),.int .i64 e.kind,.int .i64 e.size,.slice x e.chunks.length cc] 50)) (aC (w.alloc (.cells #[.string (str e.path),.int .i64 e.kind,.int .i64 e.size,.slice x e.chunks.length cc] 50)) (.cells #[.int .i64 0,.int .i64 0,.slice none 0 0] 64)));have FE0:=aA ((cI.new w (.string (str e.path)) (.int .i64 e.kind) (.int .i64 e.size) (.slice x e.chunks.length cc) 50).below (aC (w.alloc (.cells #[.string (str e.path),.int .i64 e.kind,.int .i64 e.size,.slice x e.chunks.length cc] 50)) (.cells #[.int .i64 0,.int .i64 0,.slice none 0 0] 64)))
 have X0:=aA (cC.new (w.alloc (.cells #[.string (str e.path),.int .i64 e.kind,.int .i64 e.size,.slice x e.chunks.length cc] 50)) (.int .i64 0) (.int .i64 0) (.slice none 0 0) 64);have hsA:(w.alloc (.cells #[.string (str e.path),.int .i64 e.kind,.int .i64 e.size,.slice x e.chunks.length cc] 50)).heap.size=w.heap.size+1:=by simp
 rw[hsA]at X0;have HF:=aA (fun u (hu:Below w.heap.size w u)=>zf7 a c U hR (bG e.path).length e x cc u rfl hp (h.below hu) (hx.below hu) hpl hcl)
 have hlU:=hR.len;have HST:=aA (fun (q:Int) u (hu:Below w.heap.size w u)=>sR a c U.length U q u (h.below hu) rfl (by omega) (cG hR))
 have HQ:=aA (show lJ U e=(sV U e).1∧((sV U e).1=0→kI U e=(sV U e).2)∧((sV U e).1≠0→kI U e=U) from ⟨rfl,fun h=>by rw[kI,if_pos h],fun h=>by rw[kI,if_neg h]⟩)
 have e9:gL (bG e.path).length U e=sV U e:=rfl;rw[e9]at HF;clear e9 h hx hsA hR;generalize sV U e=FU at *;obtain ⟨q,L⟩:=FU;have hQ1:=HQ.out.1;have hQ2:=HQ.out.2;simp only at hQ1 hQ2 HF;have HQ1:=aA hQ1;have HQ2:=aA hQ2;clear hQ1 hQ2 HQ;go_enter Tryz.func107,Tryz.ntmps107;obtain ⟨f0,f1,f2,f3⟩:=FE0.out;go_wp2_with fail
 clear f0 f1 f2 f3;generalize hW0:(w.alloc (.cells #[.string (str e.path),.int .i64 e.kind,.int .i64 e.size,.slice x e.chunks.length cc] 50)).alloc (.cells #[.int .i64 0,.int .i64 0,.slice none 0 0] 64)=W0 at *;clear hW0;have hlt:=X0.out.lt;refine (HF.out W0 B0.out).mono ?_;rintro r w1 ⟨av,cv,rfl,hG1,hb1⟩;have A1:=aA (aC w1 (.cells #[.int .i64 q,.slice av L.length cv] 131));have T1:=aA (Box.new w1 (.int .i64 q) (.slice av L.length cv) 131);have B1:=aA (aB B0.out (aB hb1 A1.out));have X1:=aA (X0.out.below (aB hb1 A1.out));have G1:=aA ((GW.of hG1).below A1.out)
 have hs1:=hb1.size;clear hG1 hb1 HF A1;obtain ⟨⟨s0,s1⟩,s2,s3⟩:=T1.out;obtain ⟨⟨t0,t1,t2⟩,t3,t4,t5⟩:=X1.out;by_cases hq:q=0
 ·subst hq
  have HL:=aA (HQ2.out.1 rfl);go_wp2_with fail
  exact bodyPost_ret (v:=.agg #[.int .i64 0,.int .i64 0,.slice av L.length cv]) (by simp[results,Tryz.results107,go_sem,t0,t1,t2]) rfl (by rw[HQ1.out,HL.out];exact cY.of (by omega) (by omega) rfl G1.out B1.out)
 ·have HL:=aA (HQ2.out.2 hq)
  have hq2:(q != 0)=true:=by simp;exact hq
  clear hq;go_wp2_with fail
  clear s0 s1 s2 s3 t0 t1 t2 t3 t4 t5;generalize w1.alloc (.cells #[.int .i64 q,.slice av L.length cv] 131)=W1 at *;refine (HST.out q W1 B1.out).mono ?_;rintro r w2 ⟨av2,cv2,rfl,hG2,hb2⟩;have B2:=aA (aB B1.out hb2);have G2:=aA hG2;have hltW:=X1.out.lt;obtain ⟨⟨t0,t1,t2⟩,t3,t4,t5⟩:=X1.out.below hb2;clear hG2 hb2;go_wp2_with fail
  exact bodyPost_ret (v:=.agg #[.int .i64 0,.int .i64 q,.slice av2 U.length cv2]) (by simp[results,Tryz.results107,go_sem,t0,t1,t2]) rfl (by rw[HQ1.out,HL.out];exact cY.of (by omega) (by omega) rfl G2.out B2.out)
def lG (ls:List (List En)) (p:Bs):Int:=if aE p=[] then 0 else iD ls (aE p)
theorem wP (a:Option Addr) (c n:Nat) (ls:List (List En)) (p:Bs) (w:World) (h:RdL w a ls) (hn:n=ls.length) (hl:ls.length≤1048576) (hs:eJ ls) (hp:aF p=0) (hpl:p.length≤1048576) :
  Calls Tryz.prog 146 #[.slice a n c,.string (str p)] w fun r w'=>r=.returned (.int .i64 (lG ls p))∧Below w.heap.size w w':=by
 subst hn;have hsz:=aK p;have HPO:=aA (gB (str p) w (by omega))
 rw[aT,oH hp,qU hp]at HPO;by_cases h0:aE p=[]
 ·have HQ:=aA (show lG ls p=0 by rw[lG,if_pos h0])
  rw[if_pos h0]at HPO;generalize aE p=PT at *;clear h hs h0;go_enter Tryz.func146,Tryz.ntmps146;go_wp2_with fail
  refine HPO.out.mono ?_;rintro r w1 ⟨rfl,hb1⟩;have B1:=aA (aB hb1 (aC w1 (.cells #[.int .i64 4,.string (str PT)] 188)));have T1:=aA (Box.new w1 (.int .i64 4) (.string (str PT)) 188);clear hb1;obtain ⟨⟨s0,s1⟩,s2,s3⟩:=T1.out;go_wp2_with fail
  go_ret
  exact ⟨by rw[HQ.out];rfl,B1.out⟩
 ·have HQ:=aA (show lG ls p=iD ls (aE p) by rw[lG,if_neg h0])
  rw[if_neg h0]at HPO;have hppl:(aE p).length≤1048576:=by have:=dZ (cU hp h0).2;omega
  have HLO:=aA (fun u (hu:Below w.heap.size w u)=>mK a c ls.length ls (aE p) u (h.below hu) rfl hl hs hppl)
  generalize aE p=PT at *;clear h hs h0;go_enter Tryz.func146,Tryz.ntmps146;go_wp2_with fail
  refine HPO.out.mono ?_;rintro r w1 ⟨rfl,hb1⟩;have B1:=aA (aB hb1 (aC w1 (.cells #[.int .i64 0,.string (str PT)] 188)));have T1:=aA (Box.new w1 (.int .i64 0) (.string (str PT)) 188);clear hb1;obtain ⟨⟨s0,s1⟩,s2,s3⟩:=T1.out;go_wp2_with fail
  clear s0 s1 s2 s3;generalize w1.alloc (.cells #[.int .i64 0,.string (str PT)] 188)=W1 at *;refine (HLO.out W1 B1.out).mono ?_;rintro r w2 ⟨rfl,hb2⟩;have B2:=aA (aB B1.out hb2);clear hb2;go_wp2_with fail
  go_ret
  exact ⟨by rw[HQ.out];rfl,B2.out⟩
def lB (ls:List (List En)) (p:Bs):Int:=if lG ls p=0 then (if iD ls p=0 then 9 else 0) else lG ls p
def mM (ls:List (List En)) (p:Bs):Int:=if lG ls p=0 then (if fB ls p=0 then 7 else 0) else lG ls p
def lZ (ls:List (List En)) (p:Bs):Int:=if fB ls p=0 then (if 0<(rN ls p).length then 1 else 0) else fB ls p
def lK (U:List En) (p:Bs):Int:=if dK U p=0 then 4 else 2
theorem zt3 (a:Option Addr) (c n:Nat) (ls:List (List En)) (p:Bs) (w:World) (h:RdL w a ls) (hn:n=ls.length) (hl:ls.length≤1048576) (hs:eJ ls) (hp:aF p=0) (hpl:p.length≤1048576) :
  Calls Tryz.prog 105 #[.slice a n c,.string (str p)] w fun r w'=>r=.returned (.int .i64 (lB ls p))∧Below w.heap.size w w':=by
 subst hn;have HH:=aA (wP a c ls.length ls p w h rfl hl hs hp hpl);have HLO:=aA (fun u (hu:Below w.heap.size w u)=>mK a c ls.length ls p u (h.below hu) rfl hl hs hpl)
 clear h hs;by_cases h1:lG ls p=0
 ·rw[h1]at HH
  by_cases h2:iD ls p=0
  ·have HQ:=aA (show lB ls p=9 by rw[lB,if_pos h1,if_pos h2])
   rw[h2]at HLO;clear h1 h2;go_enter Tryz.func105,Tryz.ntmps105;go_wp2_with fail
   refine HH.out.mono ?_;rintro r w1 ⟨rfl,hb1⟩;have B1:=aA hb1;clear hb1;go_wp2_with fail
   refine (HLO.out w1 B1.out).mono ?_;rintro r w2 ⟨rfl,hb2⟩;have B2:=aA (aB B1.out hb2);clear hb2;go_wp2_with fail
   go_ret
   exact ⟨by rw[HQ.out];rfl,B2.out⟩
  ·have HQ:=aA (show lB ls p=0 by rw[lB,if_pos h1,if_neg h2])
   generalize iD ls p=F at *;have hz2:(F==0)=false:=by simpa using h2
   clear h1 h2;go_enter Tryz.func105,Tryz.ntmps105;go_wp2_with fail
   refine HH.out.mono ?_;rintro r w1 ⟨rfl,hb1⟩;have B1:=aA hb1;clear hb1;go_wp2_with fail
   refine (HLO.out w1 B1.out).mono ?_;rintro r w2 ⟨rfl,hb2⟩;have B2:=aA (aB B1.out hb2);clear hb2;go_wp2_with fail
   go_ret
   exact ⟨by rw[HQ.out];rfl,B2.out⟩
 ·have HQ:=aA (show lB ls p=lG ls p by rw[lB,if_neg h1])
  generalize lG ls p=F at *;have hz2:(F != 0)=true:=by simp;exact h1
  clear h1;go_enter Tryz.func105,Tryz.ntmps105;go_wp2_with fail
  refine HH.out.mono ?_;rintro r w1 ⟨rfl,hb1⟩;have B1:=aA hb1;clear hb1;go_wp2_with fail
  go_ret
  exact ⟨by rw[HQ.out];rfl,B1.out⟩
theorem zz5 (a:Option Addr) (c n:Nat) (ls:List (List En)) (p:Bs) (w:World) (h:RdL w a ls) (hn:n=ls.length) (hl:ls.length≤1048576) (hs:eJ ls) (hp:aF p=0) (hpl:p.length≤1048576) :
  Calls Tryz.prog 108 #[.slice a n c,.string (str p)] w fun r w'=>r=.returned (.int .i64 (mM ls p))∧Below w.heap.size w w':=by
 subst hn;have hfl:∀ (w:World) (F:Int) (v:Value),(Instr.field 131 (.agg #[.int .i64 F,v]) 0).run Tryz.prog w=.ok (.int .i64 F) w:=fun _ _ _=>by kernel_rfl
 have HH:=aA (wP a c ls.length ls p w h rfl hl hs hp hpl);have HLO:Hid (∀ u:World,Below w.heap.size w u→Calls Tryz.prog 112 #[.slice a ls.length c,.string (str p)] u fun r w'=>∃ lv ln lc,r=.returned (.agg #[.int .i64 (fB ls p),.slice lv ln lc])∧Below u.heap.size u w'):=aA (fun u hu=>(kW a c ls.length ls p u (h.below hu) rfl hl hs hpl).mono (fun r w' ⟨lv,lc,h2,_,h4⟩=>⟨lv,_,lc,h2,h4⟩))
 clear h hs;by_cases h1:lG ls p=0
 ·rw[h1]at HH
  by_cases h2:fB ls p=0
  ·have HQ:=aA (show mM ls p=7 by rw[mM,if_pos h1,if_pos h2])
   rw[h2]at HLO;clear h1 h2;go_enter Tryz.func108,Tryz.ntmps108;go_wp2_with fail
   refine HH.out.mono ?_;rintro r w1 ⟨rfl,hb1⟩;have B1:=aA hb1;clear hb1;go_wp2_with fail
   refine (HLO.out w1 B1.out).mono ?_;rintro r w2 ⟨lv,ln,lc,rfl,hb2⟩;have B2:=aA (aB B1.out hb2);clear hb2;go_wp2_with fail
   go_ret
   exact ⟨by rw[HQ.out];rfl,B2.out⟩
  ·have HQ:=aA (show mM ls p=0 by rw[mM,if_pos h1,if_neg h2])
   generalize fB ls p=F at *;have hz2:(F==0)=false:=by simpa using h2
   clear h1 h2;go_enter Tryz.func108,Tryz.ntmps108;go_wp2_with fail
   refine HH.out.mono ?_;rintro r w1 ⟨rfl,hb1⟩;have B1:=aA hb1;clear hb1;go_wp2_with fail
   refine (HLO.out w1 B1.out).mono ?_;rintro r w2 ⟨lv,ln,lc,rfl,hb2⟩;have B2:=aA (aB B1.out hb2);clear hb2;go_wp2_with fail
   go_ret
   exact ⟨by rw[HQ.out];rfl,B2.out⟩
 ·have HQ:=aA (show mM ls p=lG ls p by rw[mM,if_neg h1])
  generalize lG ls p=F at *;have hz2:(F != 0)=true:=by simp;exact h1
  clear h1;go_enter Tryz.func108,Tryz.ntmps108;go_wp2_with fail
  refine HH.out.mono ?_;rintro r w1 ⟨rfl,hb1⟩;have B1:=aA hb1;clear hb1;go_wp2_with fail
  go_ret
  exact ⟨by rw[HQ.out];rfl,B1.out⟩
theorem zl2 (a:Option Addr) (c n:Nat) (ls:List (List En)) (p:Bs) (w:World) (h:RdL w a ls) (hn:n=ls.length) (hl:ls.length≤1048576) (hs:eJ ls) (hpl:p.length≤1048576) :
  Calls Tryz.prog 110 #[.slice a n c,.string (str p)] w fun r w'=>r=.returned (.int .i64 (lZ ls p))∧Below w.heap.size w w':=by
 subst hn;have hfl:∀ (w:World) (F:Int) (v:Value),(Instr.field 131 (.agg #[.int .i64 F,v]) 0).run Tryz.prog w=.ok (.int .i64 F) w:=fun _ _ _=>by kernel_rfl
 have hfn:∀ (w:World) (F:Int) (v:Value),(Instr.field 164 (.agg #[.int .i64 F,v]) 1).run Tryz.prog w=.ok v w:=fun _ _ _=>by kernel_rfl
 have HLO:Hid (∀ u:World,Below w.heap.size w u→Calls Tryz.prog 112 #[.slice a ls.length c,.string (str p)] u fun r w'=>∃ lv ln lc,r=.returned (.agg #[.int .i64 (fB ls p),.slice lv ln lc])∧Below u.heap.size u w'):=aA (fun u hu=>(kW a c ls.length ls p u (h.below hu) rfl hl hs hpl).mono (fun r w' ⟨lv,lc,h2,_,h4⟩=>⟨lv,_,lc,h2,h4⟩))
 have HLI:Hid (∀ u:World,Below w.heap.size w u→Calls Tryz.prog 150 #[.slice a ls.length c,.string (str p)] u fun r w'=>∃ lv lc,r=.returned (.agg #[.int .i64 (iD ls p),.slice lv (rN ls p).length lc])∧Below u.heap.size u w'):=aA (fun u hu=>(zn0 a c ls.length ls p u (h.below hu) rfl hl hs hpl).mono (fun r w' ⟨lv,lc,h2,_,h4⟩=>⟨lv,lc,h2,h4⟩))
 clear h hs;by_cases h1:fB ls p=0
 ·rw[h1]at HLO
  by_cases h2:0<(rN ls p).length
  ·have HQ:=aA (show lZ ls p=1 by rw[lZ,if_pos h1,if_pos h2])
   generalize (rN ls p).length=N at *;generalize iD ls p=C at *;have h2':(0:Int)<(N:Int):=by omega
   clear h1;go_enter Tryz.func110,Tryz.ntmps110;go_wp2_with fail
   refine (HLO.out w (Below.refl _ _)).mono ?_;rintro r w1 ⟨lv,ln,lc,rfl,hb1⟩;have B1:=aA hb1;clear hb1;go_wp2_with fail
   refine (HLI.out w1 B1.out).mono ?_;rintro r w2 ⟨lv2,lc2,rfl,hb2⟩;have B2:=aA (aB B1.out hb2);clear hb2;go_wp2_with fail
   go_ret
   exact ⟨by rw[HQ.out];rfl,B2.out⟩
  ·have HQ:=aA (show lZ ls p=0 by rw[lZ,if_pos h1,if_neg h2])
   generalize (rN ls p).length=N at *;generalize iD ls p=C at *;have h2':¬ (0:Int)<(N:Int):=by omega
   clear h1;go_enter Tryz.func110,Tryz.ntmps110;go_wp2_with fail
   refine (HLO.out w (Below.refl _ _)).mono ?_;rintro r w1 ⟨lv,ln,lc,rfl,hb1⟩;have B1:=aA hb1;clear hb1;go_wp2_with fail
   refine (HLI.out w1 B1.out).mono ?_;rintro r w2 ⟨lv2,lc2,rfl,hb2⟩;have B2:=aA (aB B1.out hb2);clear hb2;go_wp2_with fail
   go_ret
   exact ⟨by rw[HQ.out];rfl,B2.out⟩
 ·have HQ:=aA (show lZ ls p=fB ls p by rw[lZ,if_neg h1])
  generalize fB ls p=F at *;have hz2:(F != 0)=true:=by simp;exact h1
  clear h1;go_enter Tryz.func110,Tryz.ntmps110;go_wp2_with fail
  refine (HLO.out w (Below.refl _ _)).mono ?_;rintro r w1 ⟨lv,ln,lc,rfl,hb1⟩;have B1:=aA hb1;clear hb1;go_wp2_with fail
  go_ret
  exact ⟨by rw[HQ.out];rfl,B1.out⟩
theorem zea (a:Option Addr) (c n:Nat) (U:List En) (p:Bs) (w:World) (h:RdE w a U) (hn:n=U.length) (hl:U.length≤1048576) (hs:aV U) (hpl:p.length≤1048576) :
  Calls Tryz.prog 109 #[.slice a n c,.string (str p)] w fun r w'=>r=.returned (.int .i64 (lK U p))∧Below w.heap.size w w':=by
 subst hn;have hfl:∀ (w:World) (F:Int) (v:Value),(Instr.field 131 (.agg #[.int .i64 F,v]) 0).run Tryz.prog w=.ok (.int .i64 F) w:=fun _ _ _=>by kernel_rfl
 have HEA:Hid (Calls Tryz.prog 149 #[.slice a U.length c,.string (str p)] w fun r w'=>∃ lv ln lc,r=.returned (.agg #[.int .i64 (dK U p),.slice lv ln lc])∧Below w.heap.size w w'):=aA ((oB a c U.length U p w h rfl hl hs hpl).mono (fun r w' ⟨lv,lc,h2,_,h4⟩=>⟨lv,_,lc,h2,h4⟩))
 clear h hs;by_cases h1:dK U p=0
 ·have HQ:=aA (show lK U p=4 by rw[lK,if_pos h1])
  rw[h1]at HEA;clear h1;go_enter Tryz.func109,Tryz.ntmps109;go_wp2_with fail
  refine HEA.out.mono ?_;rintro r w1 ⟨lv,ln,lc,rfl,hb1⟩;have B1:=aA hb1;clear hb1;go_wp2_with fail
  go_ret
  exact ⟨by rw[HQ.out];rfl,B1.out⟩
 ·have HQ:=aA (show lK U p=2 by rw[lK,if_neg h1])
  generalize dK U p=F at *;have hz2:(F==0)=false:=by simpa using h1
  clear h1;go_enter Tryz.func109,Tryz.ntmps109;go_wp2_with fail
  refine HEA.out.mono ?_;rintro r w1 ⟨lv,ln,lc,rfl,hb1⟩;have B1:=aA hb1;clear hb1;go_wp2_with fail
  go_ret
  exact ⟨by rw[HQ.out];rfl,B1.out⟩
end Go.Proofs.YtolnlfnndnpiiaaGreat
namespace Go.Proofs.YtolnlfnndnpiiaaGreat
open Go.RowKit Go.Maps
theorem oQ {P:Program} {wr:World} {news:Array Value} {ops:Array Oper} {rest:List Oper} {o:Oper} {a:Act} {Q:Exit→Act→World→Prop} (hgd:o.guard=none) (s x:Operand) (t:TypeId)
  (ho:o.op=.call { callee:=.builtin .append,args:=#[s,x],argTypes:=#[t,t] })
  (base:Nat) (e:TypeId) (i:TypeInfo) (z:Value) (size bytes:Nat) (ht:P.underlying t=some (.slice e)) (hi:P.info? e=some i) (hz:i.zero=some z)
  (hsize:i.size=size) (hby:i.bytes=bytes) (hzs:z.cells.size=size) (hsz:0<size)
  (v:Value) (n:Nat) (xs:List Value) (hs:a.eval s=v) (hown:wr.ownsRow base e size v n xs)
  (hx:a.eval x=.slice (some ⟨wr.heap.size,0,none⟩) 1 1) (hl:news.size=size) (h1:∀ u∈news.toList,u.oneCell'=true)
  (h63:n+1≤maxLen) (hbytes:(n+1) * bytes≤140737488355328) (hbase:base≤wr.heap.size)
  (h:∀ v' w',w'.ownsRow base e size v' (n+1) (xs++news.toList)→aD (fun b=>v.ownBlock=some b) wr w'→(v'.ownBlock=v.ownBlock∨∃ g,v'.ownBlock=some g∧wr.heap.size≤g)→wpList P ops Q rest (a.put o.dst v') w') :
  wpList P ops Q (o :: rest) a (wr.alloc (.cells news e)):=by
 refine wpList_append_own_at _ hgd s x t ho base e i z size bytes ht hi hz hsize hby hzs hsz v n xs hs (hown.alloc _) ⟨wr.heap.size,0,none⟩ 1 1 news.toList hx (by simp[hl]) ?_ h1 h63 hbytes (by simp;omega) ?_
 ·intro j u hj
  have hadd:(⟨wr.heap.size,0,none⟩:Addr).add j=⟨wr.heap.size,j,none⟩:=by unfold Addr.add;split <;> simp_all
  rw[hadd,cell_of_row _ wr.heap.size j news e (0,0) (heap_alloc_new wr _)];simpa using hj
 ·intro v' w' ho' hg _ hat
  refine h v' w' ho' ⟨hg.os,hg.tape,hg.output,Nat.le_trans (by simp) hg.size,fun k hk hn=>?_⟩ ?_
  ·rw[hg.block k (by simp;omega) (fun e=>hn e.symm)]
   exact Below.heap_alloc _ _ _ hk
  ·rcases hat with hat | hat
   ·exact .inl hat
   ·exact .inr ⟨_,hat,by simp⟩
end Go.Proofs.YtolnlfnndnpiiaaGreat
namespace Go.Proofs.YtolnlfnndnpiiaaGreat
open Go.RowKit Go.Maps
attribute [local go_sem ↓] Go.wp_at_zero Go.wp_at_succ
theorem zxa (a:Option Addr) (c n:Nat) (w:World) :
  Calls Tryz.prog 216 #[.slice a n c,.string (str [])] w fun r w'=>r=.returned (.int .i64 0)∧w'=w:=by
 have hs0:((str []).toList == [])=true:=by rw[aN];rfl
 go_enter Tryz.func216,Tryz.ntmps216;go_wp2_with fail
 go_ret
 exact ⟨rfl,rfl⟩
theorem zt7 (a:Option Addr) (c n:Nat) (es:List En) (q:Bs) (w:World) (h:RdE w a es) (hn:n=es.length) (hRi:aU es) (hq:q=[]∨aF q=0) (hql:q.length≤1048576) :
  Calls Tryz.prog 216 #[.slice a n c,.string (str q)] w fun r w'=>r=.returned (.int .i64 (iC es q))∧Below w.heap.size w w':=by
 by_cases h0:q=[]
 ·subst h0
  have e1:iC es []=0:=by simp[iC]
  rw[e1];exact (zxa a c n w).mono (fun r w' ⟨h1,h2⟩=>⟨h1,by rw[h2];exact Below.refl _ _⟩)
 ·have e1:iC es q=fK es q:=by simp[iC,h0]
  rw[e1];exact zwa a c n es q w h hn (by have:=hRi.len;omega) hRi (by rcases hq with hq | hq;exact absurd hq h0;exact hq) hql
theorem zrm {es:List En} {q:Bs} {k:Nat} {e:En} (he:es[k]?=some e) (h:aE e.path=q):cL (es.take (k+1)) q=cL (es.take k) q ++ [e]:=by
 rw[nM he];simp[cL,h]
theorem zwj {es:List En} {q:Bs} {k:Nat} {e:En} (he:es[k]?=some e) (h:aE e.path≠q):cL (es.take (k+1)) q=cL (es.take k) q:=by
 rw[nM he];simp[cL,h]
structure rD (B:Nat) (w:World) (ov sv:Value) (D:List En):Prop where
 out:cT B w ov (eR D).2
 seen:cT B w sv (eR D).1
 apart:∀ g,ov.ownBlock=some g→sv.ownBlock≠some g
theorem rD.below {B:Nat} {w w':World} {ov sv:Value} {D:List En} (h:rD B w ov sv D) (hb:Below w.heap.size w w'):rD B w' ov sv D:=⟨h.out.below hb,h.seen.below hb,h.apart⟩
theorem rD.skip {B:Nat} {w:World} {ov sv:Value} {D:List En} {e:En} (h:rD B w ov sv D) (hm:cE e.path∈(eR D).1):rD B w ov sv (D ++ [e]):=by
 have:eR (D ++ [e])=eR D:=by rw[sO,yP,if_pos hm]
 exact ⟨by rw[this];exact h.out,by rw[this];exact h.seen,h.apart⟩
theorem rD.lens {B:Nat} {w:World} {ov sv:Value} {D:List En} (h:rD B w ov sv D):(eR D).1.length≤D.length∧(eR D).2.length≤D.length:=⟨(xR D).2.2.2.1,(xR D).2.2.2.2⟩
theorem tF (a:Option Addr) (c n:Nat) (ls:List (List En)) (q:Bs) (w:World) (h:RdL w a ls) (hn:n=ls.length) (h4:ls.length≤4) (hR:∀ es∈ls,aU es) (hq:q=[]∨aF q=0) (hql:q.length≤1048576) :
  Calls Tryz.prog 172 #[.slice a n c,.string (str q)] w fun r w'=>∃ av cv,r=.returned (.slice av (eK (aJ ls) q).length cv)∧cT w.heap.size w' (.slice av (eK (aJ ls) q).length cv) (eK (aJ ls) q)∧Below w.heap.size w w':=by
 subst hn;obtain ⟨i1,ki,kz0,kz1,kz2⟩:=info_parts sF;have HR:=aA h;have HRi:=aA hR;have HQ:=aA hq;have HNM:=aA (zwc hR h4 q);have HCL:=aA (zv6 (q:=q) hR ls.length (Nat.le_refl _));have hw1:IntKind.i64.wrap ((ls.length:Int) - 1)=(ls.length:Int) - 1:=by simp[IntKind.wrap,IntKind.signed,IntKind.bits];omega
 have B0:=aA (aB (aC w (.cells #[] 9)) (aC (w.alloc (.cells #[] 9)) (.cells #[] 9)));have T0:Hid (rD w.heap.size ((w.alloc (.cells #[] 9)).alloc (.cells #[] 9)) (.slice (some ⟨w.heap.size,0,none⟩) 0 0) (.slice (some ⟨w.heap.size+1,0,none⟩) 0 0) []):=aA ⟨aI (fT w) (aC _ _),by have:=fT (w.alloc (.cells #[] 9));rw[show (w.alloc (.cells #[] 9)).heap.size=w.heap.size+1 by simp]at this;exact bF this (by omega),fun g h1 h2=>by simp[Value.ownBlock]at h1 h2;omega⟩
 clear h hR hq;generalize hDD:gG ls q ls.length=DD at *;have HDD:=aA hDD;clear hDD;go_enter Tryz.func172,Tryz.ntmps172;go_wp2_with fail
 generalize (w.alloc (.cells #[] 9)).alloc (.cells #[] 9)=W0 at *;go_loopw [5,6,7] (fun ov sv i wr=>∃ (k:Nat) (D:List En),k≤ls.length∧i=.int .i64 ((k:Int) - 1)∧Hid (D++gG ls q k=DD)∧Hid (rD w.heap.size wr ov sv D)∧Hid (Below w.heap.size w wr)) (fun _ _ i _=>(intOf i+1).toNat)
 case atStart=>exact ⟨ls.length,[],Nat.le_refl _,rfl,aA (by rw[List.nil_append];exact HDD.out),T0,B0⟩
 case round =>
  obtain ⟨k,D,hk,hi,HD,HT,HW⟩:=hrel;have hcl:=HCL.out;cases k with
  | zero =>
   rw[show ((0:Nat):Int) - 1 = -1 from rfl]at hi
   subst hi;have HE:=aA (show D=DD from by have:=HD.out;simpa [gG] using this)
   obtain ⟨ov,oc,hov⟩:=HT.out.out.shape;have HO:Hid (cT w.heap.size wr (.slice ov (eR D).2.length oc) (eK (aJ ls) q)):=aA (by have:=HT.out.out;rw[hov]at this;rw[←HNM.out,←HE.out];exact this)
   have HL:=aA (show (eR D).2.length=(eK (aJ ls) q).length by rw[←HNM.out,HE.out])
   subst hov;clear hcl;go_wp2_with fail
   go_ret
   exact ⟨ov,oc,by rw[HL.out];rfl,by rw[←HL.out];exact HO.out,HW.out⟩
  | succ m =>
   rw[show ((m+1:Nat):Int) - 1=(m:Int) from by omega]at hi
   subst hi;have hm0:(0:Int)≤(m:Int):=by omega
   have hm1:(m:Int)<(ls.length:Int):=by omega
   have hm2:IntKind.i64.wrap ((m:Int) - 1)=(m:Int) - 1:=by simp[IntKind.wrap,IntKind.signed,IntKind.bits];omega
   obtain ⟨b,off,es,x,cc,rfl,hb,he,c0,hr⟩:=HR.out.at (k:=m) (by omega)
   have hRi:=HRi.out es (List.mem_of_getElem? he);have hel:=hRi.len;have HX:=aA he;have HRI:=aA hRi;have HSM:=aA (cG hRi);have HHI:=aA (zt7 x cc es.length es q wr (hr.below HW.out) rfl hRi HQ.out hql);have HRE:=aA hr;have KC:Hid (∀ w',Below w.heap.size w w'→w'.cell? ⟨b,off+m,none⟩=some (.slice x es.length cc)):=aA (fun w' hb'=>(hb'.cell (p:=⟨b,off+m,none⟩) hb).trans c0)
   clear he hRi hr c0;have c0:=KC.out _ HW.out;by_cases h2:iC es q=2
   ·rw[h2]at HHI
    have HE:=aA (show D=DD from by have:=HD.out;rw[uF HX.out h2,List.append_nil]at this;exact this)
    obtain ⟨ov,oc,hov⟩:=HT.out.out.shape;have HO:Hid (cT w.heap.size wr (.slice ov (eR D).2.length oc) (eK (aJ ls) q)):=aA (by have:=HT.out.out;rw[hov]at this;rw[←HNM.out,←HE.out];exact this)
    have HL:=aA (show (eR D).2.length=(eK (aJ ls) q).length by rw[←HNM.out,HE.out])
    subst hov;clear hcl h2;go_wp2_with fail
    refine HHI.out.mono ?_;rintro r w1 ⟨rfl,hb1⟩;have B1:=aA hb1;clear hb1 c0;go_wp2_with fail
    go_ret
    exact ⟨ov,oc,by rw[HL.out];rfl,by rw[←HL.out];exact HO.out.below B1.out,aB HW.out B1.out⟩
   ·have hn2:(iC es q==2)=false:=by simpa using h2
    have HKD:Hid ((D++cL es q).length≤12 * ls.length):=aA (by
     have:=HD.out;by_cases h1:iC es q=1
     ·rw[oW HX.out h1]at this;rw[this];exact hcl
     ·rw[rA HX.out h2 h1,←List.append_assoc]at this
      have h5:=congrArg List.length this;rw[List.length_append]at h5;omega)
    have HHq:=aA (show (iC es q=1→D++cL es q=DD)∧(iC es q≠1→(D++cL es q)++gG ls q m=DD) from ⟨fun h1=>by have:=HD.out;rw[oW HX.out h1]at this;exact this,fun h1=>by have:=HD.out;rw[rA HX.out h2 h1,←List.append_assoc]at this;exact this⟩)
    generalize iC es q=HH at *;clear h2 hcl;go_wp2_with fail
    refine HHI.out.mono ?_;rintro r w1 ⟨rfl,hb1⟩;have B1:=aA (aB HW.out hb1);have T1:=aA (HT.out.below hb1);clear hb1 c0 HT HHI HW;go_wp2_with fail
    go_loopw [5,6,9] (fun ov sv i wx=>∃ j:Nat,j≤es.length∧i=.int .i64 j∧Hid (rD w.heap.size wx ov sv (D++cL (es.take j) q))∧Hid (Below w.heap.size w wx)) (fun _ _ i _=>es.length - (intOf i).toNat)
    case atStart=>exact ⟨0,Nat.zero_le _,rfl,aA (by simpa [cL] using T1.out),B1⟩
    case round =>
     obtain ⟨j,hj,rfl,HT,HW⟩:=hrel;have c1:=KC.out _ HW.out;obtain ⟨ov,oc,hov⟩:=HT.out.out.shape;obtain ⟨sv,sc,hsv⟩:=HT.out.seen.shape;subst hov;subst hsv;obtain ⟨LS,hLS⟩:∃ LS,LS=(eR (D++cL (es.take j) q)).1.length:=⟨_,rfl⟩;obtain ⟨LO,hLO⟩:∃ LO,LO=(eR (D++cL (es.take j) q)).2.length:=⟨_,rfl⟩;have hlens:=HT.out.lens;rw[←hLS,←hLO]at HT hlens ⊢;have HLS:=aA hLS;have HLO:=aA hLO;clear hLS hLO;by_cases hlt:j<es.length
     ·obtain ⟨bb,off2,e,xx,c2,hxe,hbb,he,y0,y1,y2,y3,hre⟩:=(HRE.out.below HW.out).at hlt
      subst hxe;have hpf:=bM (HRI.out.ent e (List.mem_of_getElem? he));have hpos:=vB hpf;have hsm:=HSM.out e (List.mem_of_getElem? he);have HXe:=aA he;have hj0:(0:Int)≤(j:Int):=by omega
      have hj1:(j:Int)<(es.length:Int):=by omega
      have HP:=aA (show (bR (aX (str e.path).data.toList.tail)).getLastD []=aE e.path from by rw[aT];rfl)
      have HLA:=aA (show kY (aX (str e.path).data.toList.tail)=cE e.path from by rw[aT];rfl)
      have BA:=aA (aC wr (.cells #[.string (str e.path),.int .i64 e.kind,.int .i64 e.size,.slice xx e.chunks.length c2] 50));have F0:=aA (cI.new wr (.string (str e.path)) (.int .i64 e.kind) (.int .i64 e.size) (.slice xx e.chunks.length c2) 50);have hkj:(D++cL (es.take j) q).length≤48:=by
       have h5:=HKD.out;have h6:(cL (es.take j) q).length≤(cL es q).length:=((List.take_sublist j es).filter _).length_le;rw[List.length_append]at h5 ⊢;omega
      clear he hre hpf;obtain ⟨t0,t1,t2,t3⟩:=F0.out;go_wp2_with fail
      clear t0 t1 t2 t3 y0 y1 y2 y3 c1;generalize wr.alloc (.cells #[.string (str e.path),.int .i64 e.kind,.int .i64 e.size,.slice xx e.chunks.length c2] 50)=WE at *;refine (zee _ _ (by rw[aK];omega) (by rw[aK];omega)).mono ?_
      rintro r w2 ⟨rfl,hb2⟩;rw[HLA.out];have F2:=aA (F0.out.below hb2);have BE2:=aA (aB BA.out hb2);clear hb2;have t0:=F2.out.1;go_wp2_with fail
      clear t0;refine (jI _ _ (by rw[aK];omega) (by rw[aK];omega)).mono ?_
      rintro r w3 ⟨rfl,hb3⟩;rw[HP.out];have F3:=aA (F2.out.below hb3);have BE3:=aA (aB BE2.out hb3);have T3:=aA (HT.out.below BE3.out);have B3:=aA (aB HW.out BE3.out);have hwz:=B3.out.size;have k3:=F3.out.2.1;have k0:=F3.out.1;clear hb3 F2 F0;by_cases hqq:aE e.path=q
      ·have hs1:=gS hqq
       have HKI:=aA (show D++cL (es.take (j+1)) q=(D++cL (es.take j) q) ++ [e] from by rw[zrm HXe.out hqq,List.append_assoc])
       clear hqq;have HIN:=aA (zxj sv sc LS (eR (D++cL (es.take j) q)).1 (cE e.path) w3 (T3.out.seen.reads) HLS.out (by rw[←HLS.out];omega))
       by_cases hmm:cE e.path∈(eR (D++cL (es.take j) q)).1
       ·rw[decide_eq_true hmm]at HIN
        have TN:=aA (T3.out.skip hmm);clear hmm;go_wp2_with fail
        refine HIN.out.mono ?_;rintro r w4 ⟨rfl,hw4⟩;have hw5:=hw4.symm;clear hw4;subst hw5;go_wp2_with fail
        go_roundw
        case rel=>exact ⟨j+1,by omega,by go_num,aA (by rw[HKI.out];exact TN.out),B3⟩
        case measure=>simp[intOf];omega
       ·rw[decide_eq_false hmm]at HIN
        have HMM:=aA hmm;clear hmm;have hm3:LS+1≤maxLen:=by unfold maxLen;omega
        have hm4:(LS+1) * 16≤140737488355328:=by omega
        have OS3:Hid (w3.ownsRow w.heap.size 9 1 (.slice sv LS sc) LS ((eR (D++cL (es.take j) q)).1.map vS)):=by have:=T3.out.seen;unfold cT at this;rw[←HLS.out]at this;exact this
        have HAP:Hid (∀ (W:World),aD (fun b=>(Value.slice sv LS sc).ownBlock=some b) w3 W→W.cell? ⟨wr.heap.size,1,none⟩=some (.int .i64 e.kind)):=aA (fun W hK=>(hK.cell (p:=⟨wr.heap.size,1,none⟩) F3.out.lt (fun hq=>absurd (HT.out.seen.lt _ hq).2 (Nat.lt_irrefl _))).trans F3.out.2.1)
        by_cases h3:e.kind=3
        ·have h3':(e.kind != 3)=false:=by simp[h3]
         have HST:=aA (show eR ((D++cL (es.take j) q) ++ [e])=((eR (D++cL (es.take j) q)).1 ++ [cE e.path],(eR (D++cL (es.take j) q)).2) from by rw[sO,yP,if_neg HMM.out,if_pos h3])
         clear h3;go_wp2_with fail
         refine HIN.out.mono ?_;rintro r w4 ⟨rfl,hw4⟩;have hw5:=hw4.symm;clear hw4;subst hw5;go_wp2_with (at_builtin;refine oQ rfl (.tmp 58) (.tmp 60) 100 rfl w.heap.size 9 i1 (.string ⟨#[]⟩) 1 16 Tryz.underlying100 ki kz0 kz1 kz2 rfl (by decide) _ _ _ rfl OS3.out rfl rfl (by intro u hu;simp at hu;subst hu;rfl) hm3 hm4 hwz ?_;intro v' w5 hown5 hkept hat;have O5:=aA (show cT w.heap.size w5 v' ((eR (D++cL (es.take j) q)).1 ++ [cE e.path]) from cT.snoc (by rw[←HLS.out];exact hown5) rfl);have K5:=aA hkept;have A5:=aA hat;have k5:=HAP.out _ hkept;clear hown5 hkept hat)
         go_roundw
         case rel =>
          refine ⟨j+1,by omega,by go_num,aA ?_,aA ?_⟩
          ·rw[HKI.out]
           refine ⟨?_,?_,?_⟩
           ·rw[HST.out];exact T3.out.out.kept K5.out (fun g hg=>T3.out.apart g hg)
           ·rw[HST.out];exact O5.out
           ·intro g hg hg2
            rcases A5.out with h8 | ⟨g',h8,h9⟩
            ·rw[h8]at hg2;exact T3.out.apart g hg hg2
            ·rw[h8]at hg2
             have:=(T3.out.out.lt g hg).2;simp at hg2
             omega
          ·exact aD.below_own B3.out hwz OS3.out K5.out
         case measure=>simp[intOf];omega
        ·have h3':(e.kind != 3)=true:=by simp[h3]
         have HST:=aA (show eR ((D++cL (es.take j) q) ++ [e])=((eR (D++cL (es.take j) q)).1 ++ [cE e.path],gN (eR (D++cL (es.take j) q)).2 (cE e.path)) from by rw[sO,yP,if_neg HMM.out,if_neg h3])
         clear h3;have HPUT:Hid (∀ (W:World),aD (fun b=>(Value.slice sv LS sc).ownBlock=some b) w3 W→Calls Tryz.prog 219 #[.slice ov LO oc,.string (str (cE e.path))] W fun r w'=>∃ av cv N,r=.returned (.slice av N cv)∧N=(gN (eR (D++cL (es.take j) q)).2 (cE e.path)).length∧cT W.heap.size w' (.slice av N cv) (gN (eR (D++cL (es.take j) q)).2 (cE e.path))∧Below W.heap.size W w'):=aA (fun W hK=>(zih ov oc LO _ (cE e.path) W (T3.out.out.kept hK (fun g hg=>T3.out.apart g hg)) HLO.out (by rw[←HLO.out];omega)).mono (fun r w' ⟨av,cv,h1,h2,h3⟩=>⟨av,cv,_,h1,rfl,h2,h3⟩))
         go_wp2_with fail
         refine HIN.out.mono ?_;rintro r w4 ⟨rfl,hw4⟩;have hw5:=hw4.symm;clear hw4;subst hw5;go_wp2_with (at_builtin;refine oQ rfl (.tmp 58) (.tmp 60) 100 rfl w.heap.size 9 i1 (.string ⟨#[]⟩) 1 16 Tryz.underlying100 ki kz0 kz1 kz2 rfl (by decide) _ _ _ rfl OS3.out rfl rfl (by intro u hu;simp at hu;subst hu;rfl) hm3 hm4 hwz ?_;intro v' w5 hown5 hkept hat;have O5:=aA (show cT w.heap.size w5 v' ((eR (D++cL (es.take j) q)).1 ++ [cE e.path]) from cT.snoc (by rw[←HLS.out];exact hown5) rfl);have K5:=aA hkept;have A5:=aA hat;have k5:=HAP.out _ hkept;clear hown5 hkept hat)
         refine (HPUT.out w5 K5.out).mono ?_;rintro r w6 ⟨av6,cv6,N6,rfl,hN6,hO6,hb6⟩;have HN6:=aA hN6;have O6:=aA hO6;have B6:=aA hb6;have BW5:=aA (aD.below_own B3.out hwz OS3.out K5.out);have hwz5:=BW5.out.size;clear hN6 hO6 hb6;go_wp2_with fail
         go_roundw
         case rel =>
          refine ⟨j+1,by omega,by go_num,aA ?_,aA ?_⟩
          ·rw[HKI.out]
           refine ⟨?_,?_,?_⟩
           ·rw[HST.out];exact O6.out.mono hwz5
           ·rw[HST.out];exact O5.out.below B6.out
           ·intro g hg hg2
            have h8:=(O6.out.lt g hg).1;have h9:=(O5.out.lt g hg2).2;omega
          ·exact aB BW5.out B6.out
         case measure=>simp[intOf];omega
      ·have hs1:=jA hqq
       have HKI:=aA (show D++cL (es.take (j+1)) q=D++cL (es.take j) q from by rw[zwj HXe.out hqq])
       clear hqq;go_wp2_with fail
       go_roundw
       case rel=>exact ⟨j+1,by omega,by go_num,aA (by rw[HKI.out];exact T3.out),B3⟩
       case measure=>simp[intOf];omega
     ·have hE:es.take j=es:=List.take_of_length_le (by omega)
      rw[hE]at HT HLS HLO;clear hE;by_cases h1:HH=1
      ·have HE:=aA (HHq.out.1 h1)
       have HO:Hid (cT w.heap.size wr (.slice ov LO oc) (eK (aJ ls) q)):=aA (by have:=HT.out.out;rw[←HNM.out,←HE.out];exact this)
       have HL:=aA (show LO=(eK (aJ ls) q).length by rw[←HNM.out,←HE.out];exact HLO.out)
       subst h1;go_wp2_with fail
       go_ret
       exact ⟨ov,oc,by rw[←HL.out];rfl,by rw[←HL.out];exact HO.out,HW.out⟩
      ·have HE:=aA (HHq.out.2 h1)
       have h1':(HH==1)=false:=by simpa using h1
       clear h1;go_wp2_with fail
       go_roundw
       case rel=>exact ⟨m,D++cL es q,by omega,rfl,HE,HT,HW⟩
       case measure=>simp[intOf]
def zmf (w:World) (r:Ending) (w':World):Prop :=
 r=.returned (.tuple #[.agg #[.string ⟨#[]⟩,.int .i64 0,.int .i64 0,.slice none 0 0],.bool false])∧Below w.heap.size w w'
def zwb (e:En) (w:World) (r:Ending) (w':World):Prop :=
 ∃ x c,r=.returned (.tuple #[.agg #[.string (str e.path),.int .i64 e.kind,.int .i64 e.size,.slice x e.chunks.length c],.bool true])∧w'.ownsRow w.heap.size 2 1 (.slice x e.chunks.length c) e.chunks.length (e.chunks.map (Value.int .i64))∧Below w.heap.size w w'
def jC (w:World) (b:Nat) (u0 u1 u2 u3:Value):Prop:=cI w b u0 u1 u2 u3∧∀ i,w.frozen? ⟨b,i,none⟩=false
theorem jC.new (w:World) (u0 u1 u2 u3:Value) (t:TypeId):jC (w.alloc (.cells #[u0,u1,u2,u3] t)).drew w.heap.size u0 u1 u2 u3 :=
 ⟨(cI.new w u0 u1 u2 u3 t).below (Below.refl _ _).drew,fun i=>((Below.refl (w.alloc (.cells #[u0,u1,u2,u3] t)).heap.size _).drew.frozen (p:=⟨w.heap.size,i,none⟩) (by simp)).trans (by simp)⟩
theorem jC.below {w w':World} {b:Nat} {u0 u1 u2 u3:Value} (h:jC w b u0 u1 u2 u3) (hk:Below w.heap.size w w'):jC w' b u0 u1 u2 u3 :=
 ⟨h.1.below hk,fun i=>(hk.frozen (p:=⟨b,i,none⟩) h.1.lt).trans (h.2 i)⟩
theorem jC.kept {S:Nat→Prop} {w w':World} {b:Nat} {u0 u1 u2 u3:Value} (h:jC w b u0 u1 u2 u3) (hk:aD S w w') (hn:¬ S b):jC w' b u0 u1 u2 u3 :=
 ⟨⟨(hk.cell (p:=⟨b,0,none⟩) h.1.lt hn).trans h.1.1,(hk.cell (p:=⟨b,1,none⟩) h.1.lt hn).trans h.1.2.1,(hk.cell (p:=⟨b,2,none⟩) h.1.lt hn).trans h.1.2.2.1,(hk.cell (p:=⟨b,3,none⟩) h.1.lt hn).trans h.1.2.2.2⟩,fun i=>(hk.frozen (p:=⟨b,i,none⟩) h.1.lt hn).trans (h.2 i)⟩
theorem jC.set1 {w:World} {b:Nat} {u0 u1 u2 u3:Value} (h:jC w b u0 u1 u2 u3) (v:Value):jC (w.setCell ⟨b,1,none⟩ v) b u0 v u2 u3 :=
 ⟨⟨by rw[aM (by simp)];exact h.1.1,dG h.1.2.1,by rw[aM (by simp)];exact h.1.2.2.1,by rw[aM (by simp)];exact h.1.2.2.2⟩,fun i=>by rw[World.frozen?_setCell];exact h.2 i⟩
theorem zya (a:Option Addr) (c n:Nat) (ls:List (List En)) (p:Bs) (w:World) (h:RdL w a ls) (hn:n=ls.length) (h4:ls.length≤4) (hR:∀ es∈ls,aU es) (hp:aF p=0) (hpl:p.length≤1048576) (hs:gY ls p=none) :
  Calls Tryz.prog 169 #[.slice a n c,.string (str p)] w (zmf w):=by
 subst hn;have X0:=aA (cI.new w (.string ⟨#[]⟩) (.int .i64 0) (.int .i64 0) (.slice none 0 0) 50);have B0:=aA (aC w (.cells #[.string ⟨#[]⟩,.int .i64 0,.int .i64 0,.slice none 0 0] 50));have HPL:=aA (zS a c ls.length ls p _ (h.below B0.out) rfl h4 hR hp hpl);rw[hs,show dD none = -1 from rfl]at HPL
 have f0:∀ i,(w.alloc (.cells #[.string ⟨#[]⟩,.int .i64 0,.int .i64 0,.slice none 0 0] 50)).frozen? ⟨w.heap.size,i,none⟩=false:=fun i=>by simp
 clear h hR hs;go_enter Tryz.func169,Tryz.ntmps169;go_wp2_with fail
 refine HPL.out.mono ?_;rintro r w1 ⟨rfl,hb1⟩;have B1:=aA (aB B0.out hb1);obtain ⟨t0,t1,t2,t3⟩:=X0.out.below hb1;have g0:=fun i=>(hb1.frozen (p:=⟨w.heap.size,i,none⟩) X0.out.lt).trans (f0 i)
 have g1:=g0 0;have g2:=g0 1;have g3:=g0 2;have g4:=g0 3;clear hb1 g0 f0;go_wp2_with fail
 refine bodyPost_ret (v:=.tuple #[.agg #[.string ⟨#[]⟩,.int .i64 0,.int .i64 0,.slice none 0 0],.bool false]) (by simp[results,Tryz.results169,go_sem,t0,t1,t2,t3]) rfl ⟨rfl,?_⟩
 exact (((B1.out.setCell (p:=⟨w.heap.size,0,none⟩) (Nat.le_refl _) _).setCell (p:=⟨w.heap.size,1,none⟩) (Nat.le_refl _) _).setCell (p:=⟨w.heap.size,2,none⟩) (Nat.le_refl _) _).setCell (p:=⟨w.heap.size,3,none⟩) (Nat.le_refl _) _
theorem zza (a:Option Addr) (c n:Nat) (ls:List (List En)) (p:Bs) (w:World) (h:RdL w a ls) (hn:n=ls.length) (h4:ls.length≤4) (hR:∀ es∈ls,aU es) (hp:aF p=0) (hpl:p.length≤1048576) (i:Nat) (e:En) (hs:gY ls p=some i) (he:dM ls i p=some e) :
  Calls Tryz.prog 169 #[.slice a n c,.string (str p)] w (zwb (asT e) w):=by
 subst hn;obtain ⟨i0,hi0,hz0,hz1,hz2⟩:=info_parts Tryz.infoI64;have X0:=aA (cI.new w (.string ⟨#[]⟩) (.int .i64 0) (.int .i64 0) (.slice none 0 0) 50);have B0:=aA (aC w (.cells #[.string ⟨#[]⟩,.int .i64 0,.int .i64 0,.slice none 0 0] 50));have HPL:=aA (zS a c ls.length ls p _ (h.below B0.out) rfl h4 hR hp hpl);rw[hs,show dD (some i)=(i:Int) from rfl]at HPL
 have f0:∀ i,(w.alloc (.cells #[.string ⟨#[]⟩,.int .i64 0,.int .i64 0,.slice none 0 0] 50)).frozen? ⟨w.heap.size,i,none⟩=false:=fun i=>by simp
 have hil:i<ls.length:=by
  have:=kG he;unfold dM at he;cases hh:ls[i]? with
  | none=>rw[hh]at he;cases he
  | some y=>exact (List.getElem?_eq_some_iff.1 hh).1
 obtain ⟨b,off,es,x,cc,rfl,hb,hes,c0,hr⟩:=h.at hil;have hRi:=hR es (List.mem_of_getElem? hes);have hel:=hRi.len;have hfe:aG es p=some e:=by rw[←pD hes];exact he
 obtain ⟨q,hq⟩:∃ q,atE es p=some q:=by
  cases ha:atE es p with
  | none=>rw[iM ha]at hfe;cases hfe
  | some q=>exact ⟨q,rfl⟩
 obtain ⟨e',he',hfe'⟩:=lT hq;have:e'=e:=Option.some.inj (hfe'.symm.trans hfe);subst this;have hqlt:=pQ hq;obtain ⟨bb,off2,e2,y,yc,rfl,hbb,he2,z0,z1,z2,z3,hrc⟩:=hr.at hqlt;have:e2=e':=Option.some.inj (he2.symm.trans he');subst this;have hsm:=cG hRi e2 (List.mem_of_getElem? he2);have hek:=kQ (hRi.ent e2 (List.mem_of_getElem? he2));have KS:Hid (∀ w',Below w.heap.size w w'→w'.cell? ⟨b,off+i,none⟩=some (.slice (some ⟨bb,off2,none⟩) es.length cc)∧w'.cell? ⟨bb,off2+q * 4,none⟩=some (.string (str e2.path))∧w'.cell? ⟨bb,off2+q * 4+1,none⟩=some (.int .i64 e2.kind)∧w'.cell? ⟨bb,off2+q * 4+2,none⟩=some (.int .i64 e2.size)∧w'.cell? ⟨bb,off2+q * 4+3,none⟩=some (.slice y e2.chunks.length yc)):=aA (fun w' hb'=>⟨(hb'.cell (p:=⟨b,off+i,none⟩) hb).trans c0,(hb'.cell (p:=⟨bb,off2+q * 4,none⟩) hbb).trans z0,(hb'.cell (p:=⟨bb,off2+q * 4+1,none⟩) hbb).trans z1,(hb'.cell (p:=⟨bb,off2+q * 4+2,none⟩) hbb).trans z2,(hb'.cell (p:=⟨bb,off2+q * 4+3,none⟩) hbb).trans z3⟩)
 have HAT:Hid (∀ w',Below w.heap.size w w'→Calls Tryz.prog 163 #[.slice (some ⟨bb,off2,none⟩) es.length cc,.string (str p)] w' fun r w2=>r=.returned (.int .i64 q)∧w2=w'):=aA (fun w' hb'=>by have h1:=iZ (some ⟨bb,off2,none⟩) cc es.length es p w' (hr.below hb') rfl (by omega);rw[hq]at h1;exact h1)
 have HRC:=aA hrc;have hi1:(0:Int)≤(i:Int):=by omega
 have hi2:(i:Int)<(ls.length:Int):=by omega
 have hi3:¬ (i:Int)<0:=by omega
 have hq1:(0:Int)≤(q:Int):=by omega
 have hq2:(q:Int)<(es.length:Int):=by omega
 clear h hR hs he hes c0 hr hRi hfe hq he' hfe' he2 z0 z1 z2 z3 hrc;go_enter Tryz.func169,Tryz.ntmps169;go_wp2_with fail
 refine HPL.out.mono ?_;rintro r w1 ⟨rfl,hb1⟩;have B1:=aA (aB B0.out hb1);have X1:=aA (X0.out.below hb1);have FZ:=aA (fun i=>(hb1.frozen (p:=⟨w.heap.size,i,none⟩) X0.out.lt).trans (f0 i))
 clear hb1 f0 X0 HPL;obtain ⟨s0,s1,s2,s3,s4⟩:=KS.out _ B1.out;go_wp2_with fail
 go_region_held3 (fun w'=>w'.cell? ⟨b,off+i,none⟩=some (.slice (some ⟨bb,off2,none⟩) es.length cc)∧w'.cell? ⟨bb,off2+q * 4,none⟩=some (.string (str e2.path))∧w'.cell? ⟨bb,off2+q * 4+1,none⟩=some (.int .i64 e2.kind)∧w'.cell? ⟨bb,off2+q * 4+2,none⟩=some (.int .i64 e2.size)∧w'.cell? ⟨bb,off2+q * 4+3,none⟩=some (.slice y e2.chunks.length yc)) (first | exact KS.out _ B1.out.drew | exact KS.out _ (aB B1.out (aC _ _)).drew | exact KS.out _ (aB B1.out (aC _ _)) | go_keep)
  ((go_at_call 163;refine (HAT.out _ (by first | exact B1.out.drew | exact (aB B1.out (aC _ _)).drew)).mono ?_;rintro r w9 ⟨rfl,hw9⟩;have hw8:=hw9.symm;clear hw9;subst hw8))
 all_goals
  have BD:=aA (aB B1.out (aC w1 (.cells #[.string (str e2.path),.int .i64 e2.kind,.int .i64 e2.size,.slice y e2.chunks.length yc] 50))).drew;have BE:=aA ((aC w1 (.cells #[.string (str e2.path),.int .i64 e2.kind,.int .i64 e2.size,.slice y e2.chunks.length yc] 50)).drew);have XE:Hid (jC (w1.alloc (.cells #[.string (str e2.path),.int .i64 e2.kind,.int .i64 e2.size,.slice y e2.chunks.length yc] 50)).drew w1.heap.size (.string (str e2.path)) (.int .i64 e2.kind) (.int .i64 e2.size) (.slice y e2.chunks.length yc)):=aA (jC.new w1 _ _ _ _ _);have XR:Hid (jC (w1.alloc (.cells #[.string (str e2.path),.int .i64 e2.kind,.int .i64 e2.size,.slice y e2.chunks.length yc] 50)).drew w.heap.size (.string ⟨#[]⟩) (.int .i64 0) (.int .i64 0) (.slice none 0 0)):=aA (jC.below (w:=w1) ⟨X1.out,FZ.out⟩ BE.out)
  have hRE:w.heap.size<w1.heap.size:=X1.out.lt;have hEW:w1.heap.size<(w1.alloc (.cells #[.string (str e2.path),.int .i64 e2.kind,.int .i64 e2.size,.slice y e2.chunks.length yc] 50)).drew.heap.size:=XE.out.1.lt;clear X1 FZ s0 s1 s2 s3 s4 KS HAT BE B1 B0;generalize (w1.alloc (.cells #[.string (str e2.path),.int .i64 e2.kind,.int .i64 e2.size,.slice y e2.chunks.length yc] 50)).drew=WD at *;generalize w1.heap.size=be at *;have hne:w.heap.size≠be:=by omega
  have hne2:be≠w.heap.size:=by omega
  have hm0:0+e2.chunks.length≤maxLen:=by unfold maxLen;omega
  have hm0':(0+e2.chunks.length) * 8≤140737488355328:=by omega
  obtain ⟨⟨e0,e1,e3,e4⟩,ez⟩:=XE.out;have ez1:=ez 1;have ez3:=ez 3;clear ez;by_cases h4k:e2.kind=4
  ·have h4':(e2.kind==4)=true:=by simpa using h4k
   have HAS:=aA (show asT e2=⟨e2.path,2,e2.size,e2.chunks⟩ from by unfold asT;rw[if_pos h4k];rfl)
   clear h4k;have XE5:=aA (XE.out.set1 (.int .i64 2));have XR5:=aA (XR.out.kept (aD.setCell (S:=fun b=>b=be) (p:=⟨be,1,none⟩) (aD.refl _ WD) (fun _=>rfl) (.int .i64 2)) hne)
   have BW5:=aA (BD.out.setCell (p:=⟨be,1,none⟩) (by show w.heap.size≤be;omega) (.int .i64 2))
   have hz5:(WD.setCell ⟨be,1,none⟩ (.int .i64 2)).heap.size=WD.heap.size:=by simp[World.setCell]
   have OWN0:Hid (((WD.setCell ⟨be,1,none⟩ (.int .i64 2)).alloc (.cells #[] 2)).ownsRow WD.heap.size 2 1 (.slice (some ⟨WD.heap.size,0,none⟩) 0 0) 0 (([]:List Int).map (Value.int .i64))):=aA (by have h:=World.ownsRow_made (base:=(WD.setCell ⟨be,1,none⟩ (.int .i64 2)).heap.size) (e:=2) (size:=1) (WD.setCell ⟨be,1,none⟩ (.int .i64 2)) #[] 0 (Nat.le_refl _) (Nat.zero_le _) rfl;rw[hz5]at h;exact h)
   have RD0:Hid (aP .i64 ((WD.setCell ⟨be,1,none⟩ (.int .i64 2)).alloc (.cells #[] 2)) y e2.chunks):=aA (HRC.out.below (aB BW5.out (aC _ _)));have XEA:=aA (XE5.out.below (aC (WD.setCell ⟨be,1,none⟩ (.int .i64 2)) (.cells #[] 2)));have XRA:=aA (XR5.out.below (aC (WD.setCell ⟨be,1,none⟩ (.int .i64 2)) (.cells #[] 2)));have hlE:be<WD.heap.size:=XE.out.1.lt;have hlR:w.heap.size<WD.heap.size:=XR.out.1.lt;have KK:Hid (∀ W6:World,aD (fun b=>b=WD.heap.size) ((WD.setCell ⟨be,1,none⟩ (.int .i64 2)).alloc (.cells #[] 2)) W6→jC W6 be (.string (str e2.path)) (.int .i64 2) (.int .i64 e2.size) (.slice y e2.chunks.length yc)∧jC W6 w.heap.size (.string ⟨#[]⟩) (.int .i64 0) (.int .i64 0) (.slice none 0 0)):=aA (fun W6 hk=>⟨XEA.out.kept hk (by omega),XRA.out.kept hk (by omega)⟩)
   clear XEA XRA;go_wp2_with (at_builtin;refine jW rfl (.tmp 30) (.tmp 32) 48 rfl WD.heap.size 2 i0 .i64 8 Tryz.underlying48 hi0 hz0 hz1 hz2 WD.heap.size 0 0 [] rfl OWN0.out y e2.chunks.length yc e2.chunks rfl rfl RD0.out e2.chunks.length (by simp) hm0 hm0' (by simp) ?_;intro av cv w6 hown6 hk6;obtain ⟨⟨⟨p0,p1,p2,p3⟩,pz⟩,⟨⟨r0,r1,r2,r3⟩,rz⟩⟩:=KK.out _ hk6;have pz3:=pz 3;have rz0:=rz 0;have rz1:=rz 1;have rz2:=rz 2;have rz3:=rz 3;have O6:=aA hown6;have K6:=aA hk6;clear pz rz hown6 hk6)
   have BB6:=aA ((aB BW5.out (aC (WD.setCell ⟨be,1,none⟩ (.int .i64 2)) (.cells #[] 2))).trans (K6.out.below (B:=w.heap.size) (by have:=(aB BW5.out (aC (WD.setCell ⟨be,1,none⟩ (.int .i64 2)) (.cells #[] 2))).size;omega) (fun k hk hS=>by omega)))
   rw[HAS.out];refine bodyPost_ret (v:=.tuple #[.agg #[.string (str e2.path),.int .i64 2,.int .i64 e2.size,.slice av e2.chunks.length cv],.bool true]) (by simp[results,Tryz.results169,go_sem,r0,r1,r2,r3]) rfl ⟨av,cv,rfl,?_,?_⟩
   ·refine bF (base:=WD.heap.size) ?_ (by omega)
    refine aL (S:=fun b=>b=be∨b=w.heap.size) (by simpa using O6.out) ?_ (fun b hb hS=>by have:=(O6.out.lt b hb).1;omega)
    exact aD.setCell (S:=fun b=>b=be∨b=w.heap.size) (p:=⟨w.heap.size,3,none⟩) (aD.setCell (S:=fun b=>b=be∨b=w.heap.size) (p:=⟨w.heap.size,2,none⟩) (aD.setCell (S:=fun b=>b=be∨b=w.heap.size) (p:=⟨w.heap.size,1,none⟩) (aD.setCell (S:=fun b=>b=be∨b=w.heap.size) (p:=⟨w.heap.size,0,none⟩) (aD.setCell (S:=fun b=>b=be∨b=w.heap.size) (p:=⟨be,3,none⟩) (aD.refl _ _) (fun _=>.inl rfl) _) (fun _=>.inr rfl) _) (fun _=>.inr rfl) _) (fun _=>.inr rfl) _) (fun _=>.inr rfl) _
   ·exact ((((BB6.out.setCell (p:=⟨be,3,none⟩) (by show w.heap.size≤be;omega) _).setCell (p:=⟨w.heap.size,0,none⟩) (Nat.le_refl _) _).setCell (p:=⟨w.heap.size,1,none⟩) (Nat.le_refl _) _).setCell (p:=⟨w.heap.size,2,none⟩) (Nat.le_refl _) _).setCell (p:=⟨w.heap.size,3,none⟩) (Nat.le_refl _) _
  ·have h4':(e2.kind==4)=false:=by simpa using h4k
   have HAS:=aA (show asT e2=⟨e2.path,e2.kind,e2.size,e2.chunks⟩ from by unfold asT;rw[if_neg h4k])
   clear h4k;have XE5:=XE;have XR5:=XR;have BW5:=BD;have OWN0:Hid ((WD.alloc (.cells #[] 2)).ownsRow WD.heap.size 2 1 (.slice (some ⟨WD.heap.size,0,none⟩) 0 0) 0 (([]:List Int).map (Value.int .i64))):=aA (World.ownsRow_made (base:=WD.heap.size) (e:=2) (size:=1) WD #[] 0 (Nat.le_refl _) (Nat.zero_le _) rfl);have RD0:Hid (aP .i64 (WD.alloc (.cells #[] 2)) y e2.chunks):=aA (HRC.out.below (aB BW5.out (aC _ _)));have XEA:=aA (XE5.out.below (aC WD (.cells #[] 2)));have XRA:=aA (XR5.out.below (aC WD (.cells #[] 2)));have hlE:=XE5.out.1.lt;have hlR:=XR5.out.1.lt
   have KK:Hid (∀ W6:World,aD (fun b=>b=WD.heap.size) (WD.alloc (.cells #[] 2)) W6→jC W6 be (.string (str e2.path)) (.int .i64 e2.kind) (.int .i64 e2.size) (.slice y e2.chunks.length yc)∧jC W6 w.heap.size (.string ⟨#[]⟩) (.int .i64 0) (.int .i64 0) (.slice none 0 0)):=aA (fun W6 hk=>⟨XEA.out.kept hk (by omega),XRA.out.kept hk (by omega)⟩)
   clear XEA XRA;go_wp2_with (at_builtin;refine jW rfl (.tmp 30) (.tmp 32) 48 rfl WD.heap.size 2 i0 .i64 8 Tryz.underlying48 hi0 hz0 hz1 hz2 WD.heap.size 0 0 [] rfl OWN0.out y e2.chunks.length yc e2.chunks rfl rfl RD0.out e2.chunks.length (by simp) hm0 hm0' (by simp) ?_;intro av cv w6 hown6 hk6;obtain ⟨⟨⟨p0,p1,p2,p3⟩,pz⟩,⟨⟨r0,r1,r2,r3⟩,rz⟩⟩:=KK.out _ hk6;have pz3:=pz 3;have rz0:=rz 0;have rz1:=rz 1;have rz2:=rz 2;have rz3:=rz 3;have O6:=aA hown6;have K6:=aA hk6;clear pz rz hown6 hk6)
   have BB6:=aA ((aB BW5.out (aC WD (.cells #[] 2))).trans (K6.out.below (B:=w.heap.size) (by have:=(aB BW5.out (aC WD (.cells #[] 2))).size;omega) (fun k hk hS=>by omega)))
   rw[HAS.out];refine bodyPost_ret (v:=.tuple #[.agg #[.string (str e2.path),.int .i64 e2.kind,.int .i64 e2.size,.slice av e2.chunks.length cv],.bool true]) (by simp[results,Tryz.results169,go_sem,r0,r1,r2,r3]) rfl ⟨av,cv,rfl,?_,?_⟩
   ·refine bF (base:=WD.heap.size) ?_ (by omega)
    refine aL (S:=fun b=>b=be∨b=w.heap.size) (by simpa using O6.out) ?_ (fun b hb hS=>by have:=(O6.out.lt b hb).1;omega)
    exact aD.setCell (S:=fun b=>b=be∨b=w.heap.size) (p:=⟨w.heap.size,3,none⟩) (aD.setCell (S:=fun b=>b=be∨b=w.heap.size) (p:=⟨w.heap.size,2,none⟩) (aD.setCell (S:=fun b=>b=be∨b=w.heap.size) (p:=⟨w.heap.size,1,none⟩) (aD.setCell (S:=fun b=>b=be∨b=w.heap.size) (p:=⟨w.heap.size,0,none⟩) (aD.setCell (S:=fun b=>b=be∨b=w.heap.size) (p:=⟨be,3,none⟩) (aD.refl _ _) (fun _=>.inl rfl) _) (fun _=>.inr rfl) _) (fun _=>.inr rfl) _) (fun _=>.inr rfl) _) (fun _=>.inr rfl) _
   ·exact ((((BB6.out.setCell (p:=⟨be,3,none⟩) (by show w.heap.size≤be;omega) _).setCell (p:=⟨w.heap.size,0,none⟩) (Nat.le_refl _) _).setCell (p:=⟨w.heap.size,1,none⟩) (Nat.le_refl _) _).setCell (p:=⟨w.heap.size,2,none⟩) (Nat.le_refl _) _).setCell (p:=⟨w.heap.size,3,none⟩) (Nat.le_refl _) _
end Go.Proofs.YtolnlfnndnpiiaaGreat
