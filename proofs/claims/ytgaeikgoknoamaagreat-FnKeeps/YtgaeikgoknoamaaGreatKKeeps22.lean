/-
  Texts put together: MntM SnqL MntN MntO MntP MntR MntS DrawF MntU MntV SnqM.
-/
import Derived.Test.YtgaeikgoknoamaaGreatKKeeps21
import Derived.Test.YtgaeikgoknoamaaGreatKKeeps17
import Derived.Test.YtgaeikgoknoamaaGreatKKeeps20
import Derived.Test.YtgaeikgoknoamaaGreatKKeeps19
import Derived.Test.YtgaeikgoknoamaaGreatKKeeps11
import Derived.Test.YtgaeikgoknoamaaGreatKKeeps8
set_option linter.unusedVariables false
set_option maxHeartbeats 6400000
set_option maxRecDepth 100000
namespace Go.Proofs.YtgaeikgoknoamaaGreat
open Go.RowKit Go.Maps
attribute [local go_sem ↓] Go.wp_at_zero Go.wp_at_succ
structure hZ (A:Int) (P:Int→List En→Prop) (q rep:Int) (V:List En):Prop where
 bad:A≠0→q=A∧rep=0∧V=[]
 good:A=0→q=0∧P rep V
theorem hZ.no {A:Int} {P:Int→List En→Prop} (h:A≠0):hZ A P A 0 []:=⟨fun _=>⟨rfl,rfl,rfl⟩,fun h2=>absurd h2 h⟩
theorem hZ.yes {A:Int} {P:Int→List En→Prop} {rep:Int} {V:List En} (h:A=0) (hP:P rep V):hZ A P 0 rep V:=⟨fun h2=>absurd h h2,fun _=>⟨rfl,hP⟩⟩
theorem zS (a:Option Addr) (c n:Nat) (ls:List (List En)) (u:Option Addr) (uc m:Nat) (U:List En) (p:Bs) (w:World) (h:RdL w a ls) (hn:n=ls.length) (hl:ls.length≤1000000) (hU:RdE w u U) (hm:m=U.length) (hs:fV (ls ++ [U])) (hg:∀ es∈ls ++ [U],cD es=bE es) (hpl:p.length≤1048576) :
  Calls Tryz.prog 223 #[.slice a n c,.slice u m uc,.string (str p)] w fun r w'=>∃ q rep V,hZ (dP (ls ++ [U]) p) (MkS (aY (ls ++ [U])) U p) q rep V∧eT q rep V w r w':=by
 subst hn;subst hm;have X0:=aA (fB.new w (.int .i64 0) (.int .i64 0) (.slice none 0 0) 267);have B0:=aA (aC w (.cells #[.int .i64 0,.int .i64 0,.slice none 0 0] 267));have HAS:=aA (sK a c ls.length ls u uc U.length U p _ (h.below B0.out) rfl hl (hU.below B0.out) rfl hs hg hpl);have HU:=aA hU;have HRD:=aA h;clear h hU hs hg;obtain ⟨al,hal⟩:∃ al,al=ls ++ [U]:=⟨_,rfl⟩;obtain ⟨PP,hPP⟩:∃ PP:Int→List En→Prop,PP=MkS (aY (ls ++ [U])) U p:=⟨_,rfl⟩;rw[←hPP];rw[←hal]at HAS ⊢;have HALL:=aA hal;have HPP:=aA hPP;clear hal hPP;by_cases hz:dP al p=0
 ·obtain ⟨h4,hRs,hp⟩:=nF hz
  have HC:=aA hz;rw[HALL.out]at h4 hRs;have HPT:=aA (fun v (hv:Below w.heap.size w v)=>zmc a c ls.length ls u uc U.length U p v (HRD.out.below hv) rfl (HU.out.below hv) rfl h4 hRs hp hpl)
  rw[hz]at HAS;clear hz hRs hp h4;go_enter Tryz.func223,Tryz.ntmps223;go_wp2_with fail
  refine HAS.out.mono ?_;rintro r w2 ⟨rfl,hb2⟩;have X2:=aA (X0.out.below hb2);have B2:=aA (aB B0.out hb2);have hl2:=X2.out.lt;clear hb2 X0 B0 HAS;go_wp2_with fail
  refine (HPT.out w2 B2.out).mono ?_;rintro r w3 ⟨rep,V,hV,av3,cv3,rfl,hG3,hb3⟩;have HV:=aA (hZ.yes (P:=PP) HC.out (by rw[HPP.out];exact hV))
  have G3:=aA hG3;have B3:=aA (aB B2.out hb3);obtain ⟨⟨t0,t1,t2⟩,t3,t4,t5⟩:=X2.out.below hb3;clear hV hG3 hb3 HPT;go_wp2_with fail
  exact bodyPost_ret (v:=.agg #[.int .i64 0,.int .i64 rep,.slice av3 V.length cv3]) (by simp[results,Tryz.results223,go_sem,t0,t1,t2]) rfl ⟨0,rep,V,HV.out,eT.of hl2 (Nat.le_refl _) rfl G3.out B3.out⟩
 ·have HZ:=aA (hZ.no (P:=PP) hz)
  generalize dP al p=F at *;have hz2:(F != 0)=true:=by simp;exact hz
  clear hz;go_enter Tryz.func223,Tryz.ntmps223;go_wp2_with fail
  refine HAS.out.mono ?_;rintro r w2 ⟨rfl,hb2⟩;have B2:=aA (aB B0.out hb2);obtain ⟨⟨t0,t1,t2⟩,t3,t4,t5⟩:=X0.out.below hb2;clear hb2;go_wp2_with fail
  exact bodyPost_ret (v:=.agg #[.int .i64 F,.int .i64 0,.slice none 0 0]) (by simp[results,Tryz.results223,go_sem,t0,t1,t2]) rfl ⟨F,0,[],HZ.out,eT.of (b:=w.heap.size) (Nat.lt_succ_self _) (Nat.le_refl _) rfl (GW.nil _ _) B2.out⟩
theorem wR (a:Option Addr) (c n:Nat) (ls:List (List En)) (u:Option Addr) (uc m:Nat) (U:List En) (p:Bs) (w:World) (h:RdL w a ls) (hn:n=ls.length) (hl:ls.length≤1000000) (hU:RdE w u U) (hm:m=U.length) (hs:fV (ls ++ [U])) (hg:∀ es∈ls ++ [U],cD es=bE es) (hpl:p.length≤1048576) :
  Calls Tryz.prog 224 #[.slice a n c,.slice u m uc,.string (str p)] w fun r w'=>∃ q rep V,hZ (dP (ls ++ [U]) p) (RmS ls (aY (ls ++ [U])) U p) q rep V∧eT q rep V w r w':=by
 subst hn;subst hm;have X0:=aA (fB.new w (.int .i64 0) (.int .i64 0) (.slice none 0 0) 267);have B0:=aA (aC w (.cells #[.int .i64 0,.int .i64 0,.slice none 0 0] 267));have HAS:=aA (sK a c ls.length ls u uc U.length U p _ (h.below B0.out) rfl hl (hU.below B0.out) rfl hs hg hpl);have HU:=aA hU;have HRD:=aA h;clear h hU hs hg;obtain ⟨al,hal⟩:∃ al,al=ls ++ [U]:=⟨_,rfl⟩;obtain ⟨PP,hPP⟩:∃ PP:Int→List En→Prop,PP=RmS ls (aY (ls ++ [U])) U p:=⟨_,rfl⟩;rw[←hPP];rw[←hal]at HAS ⊢;have HALL:=aA hal;have HPP:=aA hPP;clear hal hPP;by_cases hz:dP al p=0
 ·obtain ⟨h4,hRs,hp⟩:=nF hz
  have HC:=aA hz;rw[HALL.out]at h4 hRs;have HPT:=aA (fun v (hv:Below w.heap.size w v)=>zf6 a c ls.length ls u uc U.length U p v (HRD.out.below hv) rfl (HU.out.below hv) rfl h4 hRs hp hpl)
  rw[hz]at HAS;clear hz hRs hp h4;go_enter Tryz.func224,Tryz.ntmps224;go_wp2_with fail
  refine HAS.out.mono ?_;rintro r w2 ⟨rfl,hb2⟩;have X2:=aA (X0.out.below hb2);have B2:=aA (aB B0.out hb2);have hl2:=X2.out.lt;clear hb2 X0 B0 HAS;go_wp2_with fail
  refine (HPT.out w2 B2.out).mono ?_;rintro r w3 ⟨rep,V,hV,av3,cv3,rfl,hG3,hb3⟩;have HV:=aA (hZ.yes (P:=PP) HC.out (by rw[HPP.out];exact hV))
  have G3:=aA hG3;have B3:=aA (aB B2.out hb3);obtain ⟨⟨t0,t1,t2⟩,t3,t4,t5⟩:=X2.out.below hb3;clear hV hG3 hb3 HPT;go_wp2_with fail
  exact bodyPost_ret (v:=.agg #[.int .i64 0,.int .i64 rep,.slice av3 V.length cv3]) (by simp[results,Tryz.results224,go_sem,t0,t1,t2]) rfl ⟨0,rep,V,HV.out,eT.of hl2 (Nat.le_refl _) rfl G3.out B3.out⟩
 ·have HZ:=aA (hZ.no (P:=PP) hz)
  generalize dP al p=F at *;have hz2:(F != 0)=true:=by simp;exact hz
  clear hz;go_enter Tryz.func224,Tryz.ntmps224;go_wp2_with fail
  refine HAS.out.mono ?_;rintro r w2 ⟨rfl,hb2⟩;have B2:=aA (aB B0.out hb2);obtain ⟨⟨t0,t1,t2⟩,t3,t4,t5⟩:=X0.out.below hb2;clear hb2;go_wp2_with fail
  exact bodyPost_ret (v:=.agg #[.int .i64 F,.int .i64 0,.slice none 0 0]) (by simp[results,Tryz.results224,go_sem,t0,t1,t2]) rfl ⟨F,0,[],HZ.out,eT.of (b:=w.heap.size) (Nat.lt_succ_self _) (Nat.le_refl _) rfl (GW.nil _ _) B2.out⟩
def lM (ls:List (List En)) (p:Bs) (zs:List Int):Int:=if dP ls p=0 then (if 24<zs.length then 2 else 0) else dP ls p
theorem xU (a:Option Addr) (c n:Nat) (ls:List (List En)) (u:Option Addr) (uc m:Nat) (U:List En) (p:Bs) (zs:List Int) (d:Option Addr) (dn dc:Nat) (w:World) (h:RdL w a ls) (hn:n=ls.length) (hl:ls.length≤1000000) (hU:RdE w u U) (hm:m=U.length) (hs:fV (ls ++ [U])) (hg:∀ es∈ls ++ [U],cD es=bE es) (hpl:p.length≤1048576) (hd:aO .u8 w d zs) (hdn:dn=zs.length) (hu8:U8 zs) (hdc:zs.length≤dc) (hdl:zs.length≤1048576) :
  Calls Tryz.prog 222 #[.slice a n c,.slice u m uc,.string (str p),.slice d dn dc] w fun r w'=>∃ q rep V,hZ (lM (ls ++ [U]) p zs) (WrS (aY (ls ++ [U])) U p (bV p zs)) q rep V∧eT q rep V w r w':=by
 subst hn;subst hm;have X0:=aA (fB.new w (.int .i64 0) (.int .i64 0) (.slice none 0 0) 267);have B0:=aA (aC w (.cells #[.int .i64 0,.int .i64 0,.slice none 0 0] 267));have HAS:=aA (sK a c ls.length ls u uc U.length U p _ (h.below B0.out) rfl hl (hU.below B0.out) rfl hs hg hpl);have HU:=aA hU;have HRD:=aA h;subst hdn;have HD:=aA hd;have HU8:=aA hu8;clear hd hu8;clear h hU hs hg;obtain ⟨al,hal⟩:∃ al,al=ls ++ [U]:=⟨_,rfl⟩;obtain ⟨PP,hPP⟩:∃ PP:Int→List En→Prop,PP=WrS (aY (ls ++ [U])) U p (bV p zs):=⟨_,rfl⟩;rw[←hPP];rw[←hal]at HAS ⊢;have HALL:=aA hal;have HPP:=aA hPP
 clear hal hPP;by_cases hz:dP al p=0
 ·obtain ⟨h4,hRs,hp⟩:=nF hz
  have HC:=aA hz;rw[HALL.out]at h4 hRs;rw[hz]at HAS;by_cases hbig:24<zs.length
  ·have HZ:=aA (hZ.no (P:=PP) (A:=lM al p zs) (by rw[lM,if_pos hz,if_pos hbig];decide))
   rw[show lM al p zs=2 by rw[lM,if_pos hz,if_pos hbig]]at HZ ⊢
   have hbi:(24:Int)<(zs.length:Int):=by omega
   clear hz hRs hp h4 hbig;go_enter Tryz.func222,Tryz.ntmps222;go_wp2_with fail
   refine HAS.out.mono ?_;rintro r w2 ⟨rfl,hb2⟩;have B2:=aA (aB B0.out hb2);obtain ⟨⟨t0,t1,t2⟩,t3,t4,t5⟩:=X0.out.below hb2;clear hb2;go_wp2_with fail
   exact bodyPost_ret (v:=.agg #[.int .i64 2,.int .i64 0,.slice none 0 0]) (by simp[results,Tryz.results222,go_sem,t0,t1,t2]) rfl ⟨2,0,[],HZ.out,eT.of (b:=w.heap.size) (Nat.lt_succ_self _) (Nat.le_refl _) rfl (GW.nil _ _) B2.out⟩
  ·have HPT:=aA (fun v (hv:Below w.heap.size w v)=>zz8 a c ls.length ls u uc U.length U p zs d dc v (HRD.out.below hv) rfl (HU.out.below hv) rfl h4 hRs hp hpl (HD.out.below hv) HU8.out hdc (by omega))
   have HC0:=aA (show lM al p zs=0 by rw[lM,if_pos hz,if_neg hbig])
   have hbi:¬ (24:Int)<(zs.length:Int):=by omega
   clear hz hRs hp h4 hbig;go_enter Tryz.func222,Tryz.ntmps222;go_wp2_with fail
   refine HAS.out.mono ?_;rintro r w2 ⟨rfl,hb2⟩;have X2:=aA (X0.out.below hb2);have B2:=aA (aB B0.out hb2);have hl2:=X2.out.lt;clear hb2 X0 B0 HAS;go_wp2_with fail
   refine (HPT.out w2 B2.out).mono ?_;rintro r w3 ⟨rep,V,hV,av3,cv3,rfl,hG3,hb3⟩;have HV:=aA (hZ.yes (P:=PP) HC0.out (by rw[HPP.out];exact hV))
   have G3:=aA hG3;have B3:=aA (aB B2.out hb3);obtain ⟨⟨t0,t1,t2⟩,t3,t4,t5⟩:=X2.out.below hb3;clear hV hG3 hb3 HPT;go_wp2_with fail
   exact bodyPost_ret (v:=.agg #[.int .i64 0,.int .i64 rep,.slice av3 V.length cv3]) (by simp[results,Tryz.results222,go_sem,t0,t1,t2]) rfl ⟨0,rep,V,HV.out,eT.of hl2 (Nat.le_refl _) rfl G3.out B3.out⟩
 ·rw[show lM al p zs=dP al p by rw[lM,if_neg hz]]
  have HZ:=aA (hZ.no (P:=PP) hz);generalize dP al p=F at *;have hz2:(F != 0)=true:=by simp;exact hz
  clear hz;go_enter Tryz.func222,Tryz.ntmps222;go_wp2_with fail
  refine HAS.out.mono ?_;rintro r w2 ⟨rfl,hb2⟩;have B2:=aA (aB B0.out hb2);obtain ⟨⟨t0,t1,t2⟩,t3,t4,t5⟩:=X0.out.below hb2;clear hb2;go_wp2_with fail
  exact bodyPost_ret (v:=.agg #[.int .i64 F,.int .i64 0,.slice none 0 0]) (by simp[results,Tryz.results222,go_sem,t0,t1,t2]) rfl ⟨F,0,[],HZ.out,eT.of (b:=w.heap.size) (Nat.lt_succ_self _) (Nat.le_refl _) rfl (GW.nil _ _) B2.out⟩
def jP (ls:List (List En)) (U:List En) (p:Bs) (zs:List Int) (k q rep:Int) (V:List En):Prop :=
 (k=1→hZ (lM (ls ++ [U]) p zs) (WrS (aY (ls ++ [U])) U p (bV p zs)) q rep V)∧(k=2→hZ (dP (ls ++ [U]) p) (MkS (aY (ls ++ [U])) U p) q rep V)∧(k=3→hZ (dP (ls ++ [U]) p) (RmS ls (aY (ls ++ [U])) U p) q rep V)
theorem jP.one {ls:List (List En)} {U:List En} {p:Bs} {zs:List Int} {q rep:Int} {V:List En} (h:hZ (lM (ls ++ [U]) p zs) (WrS (aY (ls ++ [U])) U p (bV p zs)) q rep V):jP ls U p zs 1 q rep V:=⟨fun _=>h,fun e=>absurd e (by decide),fun e=>absurd e (by decide)⟩
theorem jP.two {ls:List (List En)} {U:List En} {p:Bs} {zs:List Int} {q rep:Int} {V:List En} (h:hZ (dP (ls ++ [U]) p) (MkS (aY (ls ++ [U])) U p) q rep V):jP ls U p zs 2 q rep V:=⟨fun e=>absurd e (by decide),fun _=>h,fun e=>absurd e (by decide)⟩
theorem jP.three {ls:List (List En)} {U:List En} {p:Bs} {zs:List Int} {q rep:Int} {V:List En} (h:hZ (dP (ls ++ [U]) p) (RmS ls (aY (ls ++ [U])) U p) q rep V):jP ls U p zs 3 q rep V:=⟨fun e=>absurd e (by decide),fun e=>absurd e (by decide),fun _=>h⟩
theorem GS.lay {B:Nat} {w:World} {g n c k:Nat} {l:List Sn} {s:Sn} {a2:Option Addr} {c2:Nat} {V:List En} (h:GS B w (.slice (some ⟨g,0,none⟩) n c) l) (hs:l[k]?=some s) (hV:GW B w (.slice a2 V.length c2) V):GS B (w.setCell ⟨g,k * 5+4,none⟩ (.slice a2 V.length c2)) (.slice (some ⟨g,0,none⟩) n c) (l.set k ⟨s.name,s.parent,s.kind,s.lease,V⟩):=by
 obtain ⟨rs,h1,h2,h3⟩:=h;have hk:k<l.length:=(List.getElem?_eq_some_iff.1 hs).1;have hl:rs.length=l.length:=by rw[←h1,List.length_map]
 obtain ⟨r,hr⟩:∃ r,rs[k]?=some r:=⟨_,List.getElem?_eq_getElem (by omega)⟩
 have hrs:r.s=s:=by
  have:(rs.map Rs.s)[k]?=some r.s:=by rw[List.getElem?_map,hr];rfl
  rw[h1,hs]at this;exact (Option.some.inj this).symm
 obtain ⟨m,c',e⟩:=aQ h2;simp only[Value.slice.injEq]at e;obtain ⟨-,rfl,-⟩:=e;have s1:=(h2.stored (k * 5+4) (.slice a2 V.length c2)).1;rw[wK rs k 4 r ⟨⟨s.name,s.parent,s.kind,s.lease,V⟩,a2,c2⟩ _ hr (by decide) (by rw[←hrs];rfl)]at s1
 have hkp:aD (fun b=>(Value.slice (some ⟨g,0,none⟩) l.length c).ownBlock=some b) w (w.setCell ⟨g,k * 5+4,none⟩ (.slice a2 V.length c2)):=aD.setCell (S:=fun b=>(Value.slice (some ⟨g,0,none⟩) l.length c).ownBlock=some b) (p:=⟨g,k * 5+4,none⟩) (aD.refl _ _) (fun _=>rfl) _
 refine ⟨rs.set k ⟨⟨s.name,s.parent,s.kind,s.lease,V⟩,a2,c2⟩,by rw[List.map_set,h1],by rw[List.length_set];exact s1,fun r0 hr0=>?_⟩
 rcases List.mem_or_eq_of_mem_set hr0 with hr1 | rfl
 ·exact (h3 r0 hr1).apart h2 (by decide) (by decide) hkp
 ·exact hV.apart h2 (by decide) (by decide) hkp
theorem LL.last {B:Nat} {w:World} {g n c:Nat} {ls:List (List En)} {U:List En} (h:LL B w (.slice (some ⟨g,0,none⟩) n c) (ls ++ [U])):∃ xa xc,w.cell? ⟨g,ls.length,none⟩=some (.slice xa U.length xc)∧RdE w xa U∧RdL w (some ⟨g,0,none⟩) ls∧g<w.heap.size:=by
 have hrd:=h.rd;obtain ⟨b,off,A,C,e,hb,hc⟩:=hrd (by simp)
 simp only[Option.some.injEq,Addr.mk.injEq,and_true]at e;obtain ⟨rfl,rfl⟩:=e;obtain ⟨c1,c2⟩:=hc ls.length U (by simp)
 rw[Nat.zero_add]at c1;refine ⟨A ls.length,C ls.length,c1,c2,fun hz=>⟨g,0,A,C,rfl,hb,fun i es hi=>hc i es ?_⟩,hb⟩
 rw[List.getElem?_append_left (List.getElem?_eq_some_iff.1 hi).1]
 exact hi
theorem zz5 (a:Option Addr) (c n:Nat) (l:List Sn) (s:Sn) (j:Nat) (p:Bs) (zs:List Int) (d:Option Addr) (dn dc:Nat) (k:Int) (w:World) (h:RdS w a l) (hn:n=l.length) (hR:bH l) (hs:dF l) (hq:l[j]?=some s) (hk:k=1∨k=2∨k=3) (hpl:p.length≤1048576) (hd:aO .u8 w d zs) (hdn:dn=zs.length) (hu8:U8 zs) (hdc:zs.length≤dc) (hdl:zs.length≤1048576)
  (hw:∀ q rep V,jP (iW l s) s.layer p zs k q rep V→IntKind.i64.wrap (q+rep)=q+rep) :
  Calls Tryz.prog 195 #[.slice a n c,.int .i64 j,.string (str p),.slice d dn dc,.int .i64 k] w fun r w'=>∃ q rep V,jP (iW l s) s.layer p zs k q rep V∧((q+rep≠0∧bI 0 (q+rep) l w r w')∨(q+rep=0∧bI 0 0 (dK l ⟨s.name,s.parent,s.kind,s.lease,V⟩) w r w')):=by
 subst hn;subst hdn;have hl:=hR.len;have hmem:=List.mem_of_getElem? hq;have hjl:=(List.getElem?_eq_some_iff.1 hq).1;have X0:=aA (fB.new w (.int .i64 0) (.int .i64 0) (.slice none 0 0) 29);have B0:=aA (aC w (.cells #[.int .i64 0,.int .i64 0,.slice none 0 0] 29));have HCH:=aA (zx5 a c l.length l s s.name _ (h.below B0.out) rfl hR hs (nZ hR.rise hmem));rw[oU]at HCH;have hK4:(iW l s).length+1≤4:=by have:=nI hR hmem;rw[oU]at this;simpa using this
 have HSL:=aA (show fV (iW l s ++ [s.layer]) by
  rw[←oU];intro es hes;unfold cH at hes;rw[List.mem_reverse,List.mem_map]at hes;obtain ⟨y,hy,rfl⟩:=hes;have hy2:=hs.2 y (lH (fun s0 hs0=>by cases hs0;exact hmem) y hy)
  exact ⟨hy2.2.2.1,hy2.2.2.2⟩)
 have HGL:=aA (show ∀ es∈iW l s ++ [s.layer],cD es=bE es by
  rw[←oU];intro es hes;unfold cH at hes;rw[List.mem_reverse,List.mem_map]at hes;obtain ⟨y,hy,rfl⟩:=hes;have h9:=(hR.own y (lH (fun s0 hs0=>by cases hs0;exact hmem) y hy)).2.2
  rw[h9,xJ.2 (eE.1 h9)])
 have HRd:=aA h;have HRI:=aA hR.rise;have HSM:=aA hs;have HQ:=aA hq;have HD:=aA hd;have HU8:=aA hu8;have HWR:=aA hw;obtain ⟨b2,off2,e,x2,cc2,hbb,hb2,he,d0,-,-,-,-,-⟩:=(h.below B0.out).at hjl;subst hbb;have heq:e=s:=by rw[hq]at he;exact (Option.some.inj he).symm
 subst heq;have hj0:¬ (j:Int)<0:=by omega
 have hj1:(j:Int)<(l.length:Int):=by omega
 have hlen:(iW l e ++ [e.layer]).length=(iW l e).length+1:=by simp
 rw[hlen]at HCH;clear h hs hR hq hd hu8 hw he hlen;generalize iW l e=ls at *;go_enter Tryz.func195,Tryz.ntmps195;go_wp2_with fail
 have hsz0:(w.alloc (.cells #[.int .i64 0,.int .i64 0,.slice none 0 0] 29)).heap.size=w.heap.size+1:=by simp
 generalize w.alloc (.cells #[.int .i64 0,.int .i64 0,.slice none 0 0] 29)=W0 at *;refine HCH.out.mono ?_;rintro r w1 ⟨g,cv,rfl,hcv,hLL,hb1⟩;have B1:=aA (aB B0.out hb1);have X1:=aA (X0.out.below hb1);have hs1:=hb1.size;obtain ⟨u,xc,hcell,hRU,hRL,hgl⟩:=hLL.last;have RU:=aA hRU;have RL:=aA hRL;clear hb1 hLL hRU hRL d0;have hwk:IntKind.i64.wrap ((ls.length:Int)+1 - 1)=(ls.length:Int):=by simp[IntKind.wrap,IntKind.signed,IntKind.bits];omega
 have hwk2:IntKind.i64.wrap (ls.length:Int)=(ls.length:Int):=by simp[IntKind.wrap,IntKind.signed,IntKind.bits];omega
 have hI0:(0:Int)≤(ls.length:Int):=by omega
 have hI1:(ls.length:Int)≤(cv:Int):=by omega
 have hI2:(ls.length:Int)<(ls.length:Int)+1:=by omega
 have hI3:¬ (ls.length:Int)<0:=by omega
 have BW:=aA (aC w1 (.cells #[.int .i64 0,.int .i64 0,.slice none 0 0] 267));have B2:=aA (aB B1.out BW.out);have Y2:=aA (fB.new w1 (.int .i64 0) (.int .i64 0) (.slice none 0 0) 267);have X2:=aA (X1.out.below BW.out);rcases hk with rfl | rfl | rfl
 ·go_wp2_with fail
  have hs2:(w1.alloc (.cells #[.int .i64 0,.int .i64 0,.slice none 0 0] 267)).heap.size=w1.heap.size+1:=by simp
  generalize w1.alloc (.cells #[.int .i64 0,.int .i64 0,.slice none 0 0] 267)=W2 at *;refine (xU (some ⟨g,0,none⟩) cv ls.length ls u xc e.layer.length e.layer p zs d zs.length dc _ (RL.out.below BW.out) rfl (by omega) (RU.out.below BW.out) rfl HSL.out HGL.out hpl (HD.out.below B2.out) rfl HU8.out hdc hdl).mono ?_
  rintro r w3 ⟨q,rep,V,hF,av,cv3,rfl,hG3,hb3⟩;have HF:=aA (jP.one (zs:=zs) hF);have hwr:=HWR.out q rep V HF.out;have G3:=aA hG3;have B3:=aA (aB B2.out hb3);have X3:=aA (X2.out.below hb3);have Y3:=aA (Y2.out.below hb3);have hs3:=hb3.size;clear hG3 hb3 hF;obtain ⟨⟨y0,y1,y2⟩,y3,y4,y5⟩:=Y3.out;have Y4:=aA (Y3.out.set (.int .i64 q) (.int .i64 rep) (.slice av V.length cv3));have K4:=aA (aD.three' w3 w1.heap.size (.int .i64 q) (.int .i64 rep) (.slice av V.length cv3));have B4:=aA (B3.out.trans (K4.out.below B3.out.size (fun q hq e=>by omega)))
  have X4:=aA (X3.out.kept K4.out (by omega))
  have G4:=aA ((G3.out.kept K4.out (fun b hb e=>by omega)).mono (B':=w1.heap.size) (by omega))
  have hs4:=K4.out.size;obtain ⟨⟨z0,z1,z2⟩,z3,z4,z5⟩:=Y4.out;by_cases hz:q+rep=0
  ·have HZ:=aA hz
   rw[hz]at hwr;go_wp2_with fail
   clear hz hwr;generalize ((w3.setCell ⟨w1.heap.size,0,none⟩ (.int .i64 q)).setCell ⟨w1.heap.size,1,none⟩ (.int .i64 rep)).setCell ⟨w1.heap.size,2,none⟩ (.slice av V.length cv3)=W4 at *;refine (dV (some ⟨b2,off2,none⟩) c l.length l W4 (HRd.out.below B4.out) rfl (by omega) HSM.out).mono ?_
   rintro r w5 ⟨av5,cv5,rfl,hG5,hb5⟩;have G5:=aA (hG5.mono (B':=w1.heap.size) (by omega))
   have B5:=aA (aB B4.out hb5);have G6:=aA (G4.out.below hb5);have X5:=aA (X4.out.below hb5);have hs5:=hb5.size;obtain ⟨⟨z0,z1,z2⟩,z3,z4,z5⟩:=Y4.out.below hb5;obtain ⟨g5,hgv,hgB,hgl,hfz,r5,hrs5,hcl⟩:=hG5.at HQ.out;subst hgv;have hz2:w5.cell? ⟨g5,j * 5+4,none⟩=some (.slice r5.a r5.s.layer.length r5.c):=hcl 4 (by decide)
   have hf2:=hfz (j * 5+4);clear hG5 hb5 hcl hfz;have GP:=aA (G5.out.lay HQ.out G6.out);rw[←jL HRI.out HQ.out (s':=⟨e.name,e.parent,e.kind,e.lease,V⟩) rfl]at GP;have HLN:=aA (show (dK l ⟨e.name,e.parent,e.kind,e.lease,V⟩).length=l.length by rw[jL HRI.out HQ.out (s':=⟨e.name,e.parent,e.kind,e.lease,V⟩) rfl,List.length_set])
   have KS:=aA (aD.setCell (S:=fun q=>q=g5) (p:=⟨g5,j * 5+4,none⟩) (aD.refl _ w5) (fun _=>rfl) (.slice av V.length cv3))
   have BP:=aA (B5.out.trans (KS.out.below B5.out.size (fun q hq e=>by omega)))
   obtain ⟨⟨t0,t1,t2⟩,t3,t4,t5⟩:=X5.out.kept KS.out (by omega)
   go_wp2_with fail
   exact bodyPost_ret (v:=.agg #[.int .i64 0,.int .i64 0,.slice (some ⟨g5,0,none⟩) l.length cv5]) (by simp[results,Tryz.results195,go_sem,t0,t1,t2]) rfl ⟨q,rep,V,HF.out,.inr ⟨HZ.out,bI.of (B:=w1.heap.size) (by omega) (Nat.le_refl _) HLN.out.symm GP.out BP.out⟩⟩
  ·have HZ:=aA hz
   go_wp2_with fail
   generalize ((w3.setCell ⟨w1.heap.size,0,none⟩ (.int .i64 q)).setCell ⟨w1.heap.size,1,none⟩ (.int .i64 rep)).setCell ⟨w1.heap.size,2,none⟩ (.slice av V.length cv3)=W4 at *;refine (cC (some ⟨b2,off2,none⟩) c l.length l (q+rep) W4 (HRd.out.below B4.out) rfl (by omega) HSM.out).mono ?_
   rintro r w9 ⟨av9,cv9,rfl,hG,hb9⟩;have G9:=aA hG;have B9:=aA (aB B4.out hb9);obtain ⟨⟨t0,t1,t2⟩,t3,t4,t5⟩:=X4.out.below hb9;clear hG hb9;go_wp2_with fail
   exact bodyPost_ret (v:=.agg #[.int .i64 0,.int .i64 (q+rep),.slice av9 l.length cv9]) (by simp[results,Tryz.results195,go_sem,t0,t1,t2]) rfl ⟨q,rep,V,HF.out,.inl ⟨HZ.out,bI.of (B:=W4.heap.size) (by omega) (Nat.le_refl _) rfl G9.out B9.out⟩⟩
 ·go_wp2_with fail
  have hs2:(w1.alloc (.cells #[.int .i64 0,.int .i64 0,.slice none 0 0] 267)).heap.size=w1.heap.size+1:=by simp
  generalize w1.alloc (.cells #[.int .i64 0,.int .i64 0,.slice none 0 0] 267)=W2 at *;refine (zS (some ⟨g,0,none⟩) cv ls.length ls u xc e.layer.length e.layer p _ (RL.out.below BW.out) rfl (by omega) (RU.out.below BW.out) rfl HSL.out HGL.out hpl).mono ?_
  rintro r w3 ⟨q,rep,V,hF,av,cv3,rfl,hG3,hb3⟩;have HF:=aA (jP.two (zs:=zs) hF);have hwr:=HWR.out q rep V HF.out;have G3:=aA hG3;have B3:=aA (aB B2.out hb3);have X3:=aA (X2.out.below hb3);have Y3:=aA (Y2.out.below hb3);have hs3:=hb3.size;clear hG3 hb3 hF;obtain ⟨⟨y0,y1,y2⟩,y3,y4,y5⟩:=Y3.out;have Y4:=aA (Y3.out.set (.int .i64 q) (.int .i64 rep) (.slice av V.length cv3));have K4:=aA (aD.three' w3 w1.heap.size (.int .i64 q) (.int .i64 rep) (.slice av V.length cv3));have B4:=aA (B3.out.trans (K4.out.below B3.out.size (fun q hq e=>by omega)))
  have X4:=aA (X3.out.kept K4.out (by omega))
  have G4:=aA ((G3.out.kept K4.out (fun b hb e=>by omega)).mono (B':=w1.heap.size) (by omega))
  have hs4:=K4.out.size;obtain ⟨⟨z0,z1,z2⟩,z3,z4,z5⟩:=Y4.out;by_cases hz:q+rep=0
  ·have HZ:=aA hz
   rw[hz]at hwr;go_wp2_with fail
   clear hz hwr;generalize ((w3.setCell ⟨w1.heap.size,0,none⟩ (.int .i64 q)).setCell ⟨w1.heap.size,1,none⟩ (.int .i64 rep)).setCell ⟨w1.heap.size,2,none⟩ (.slice av V.length cv3)=W4 at *;refine (dV (some ⟨b2,off2,none⟩) c l.length l W4 (HRd.out.below B4.out) rfl (by omega) HSM.out).mono ?_
   rintro r w5 ⟨av5,cv5,rfl,hG5,hb5⟩;have G5:=aA (hG5.mono (B':=w1.heap.size) (by omega))
   have B5:=aA (aB B4.out hb5);have G6:=aA (G4.out.below hb5);have X5:=aA (X4.out.below hb5);have hs5:=hb5.size;obtain ⟨⟨z0,z1,z2⟩,z3,z4,z5⟩:=Y4.out.below hb5;obtain ⟨g5,hgv,hgB,hgl,hfz,r5,hrs5,hcl⟩:=hG5.at HQ.out;subst hgv;have hz2:w5.cell? ⟨g5,j * 5+4,none⟩=some (.slice r5.a r5.s.layer.length r5.c):=hcl 4 (by decide)
   have hf2:=hfz (j * 5+4);clear hG5 hb5 hcl hfz;have GP:=aA (G5.out.lay HQ.out G6.out);rw[←jL HRI.out HQ.out (s':=⟨e.name,e.parent,e.kind,e.lease,V⟩) rfl]at GP;have HLN:=aA (show (dK l ⟨e.name,e.parent,e.kind,e.lease,V⟩).length=l.length by rw[jL HRI.out HQ.out (s':=⟨e.name,e.parent,e.kind,e.lease,V⟩) rfl,List.length_set])
   have KS:=aA (aD.setCell (S:=fun q=>q=g5) (p:=⟨g5,j * 5+4,none⟩) (aD.refl _ w5) (fun _=>rfl) (.slice av V.length cv3))
   have BP:=aA (B5.out.trans (KS.out.below B5.out.size (fun q hq e=>by omega)))
   obtain ⟨⟨t0,t1,t2⟩,t3,t4,t5⟩:=X5.out.kept KS.out (by omega)
   go_wp2_with fail
   exact bodyPost_ret (v:=.agg #[.int .i64 0,.int .i64 0,.slice (some ⟨g5,0,none⟩) l.length cv5]) (by simp[results,Tryz.results195,go_sem,t0,t1,t2]) rfl ⟨q,rep,V,HF.out,.inr ⟨HZ.out,bI.of (B:=w1.heap.size) (by omega) (Nat.le_refl _) HLN.out.symm GP.out BP.out⟩⟩
  ·have HZ:=aA hz
   go_wp2_with fail
   generalize ((w3.setCell ⟨w1.heap.size,0,none⟩ (.int .i64 q)).setCell ⟨w1.heap.size,1,none⟩ (.int .i64 rep)).setCell ⟨w1.heap.size,2,none⟩ (.slice av V.length cv3)=W4 at *;refine (cC (some ⟨b2,off2,none⟩) c l.length l (q+rep) W4 (HRd.out.below B4.out) rfl (by omega) HSM.out).mono ?_
   rintro r w9 ⟨av9,cv9,rfl,hG,hb9⟩;have G9:=aA hG;have B9:=aA (aB B4.out hb9);obtain ⟨⟨t0,t1,t2⟩,t3,t4,t5⟩:=X4.out.below hb9;clear hG hb9;go_wp2_with fail
   exact bodyPost_ret (v:=.agg #[.int .i64 0,.int .i64 (q+rep),.slice av9 l.length cv9]) (by simp[results,Tryz.results195,go_sem,t0,t1,t2]) rfl ⟨q,rep,V,HF.out,.inl ⟨HZ.out,bI.of (B:=W4.heap.size) (by omega) (Nat.le_refl _) rfl G9.out B9.out⟩⟩
 ·go_wp2_with fail
  have hs2:(w1.alloc (.cells #[.int .i64 0,.int .i64 0,.slice none 0 0] 267)).heap.size=w1.heap.size+1:=by simp
  generalize w1.alloc (.cells #[.int .i64 0,.int .i64 0,.slice none 0 0] 267)=W2 at *;refine (wR (some ⟨g,0,none⟩) cv ls.length ls u xc e.layer.length e.layer p _ (RL.out.below BW.out) rfl (by omega) (RU.out.below BW.out) rfl HSL.out HGL.out hpl).mono ?_
  rintro r w3 ⟨q,rep,V,hF,av,cv3,rfl,hG3,hb3⟩;have HF:=aA (jP.three (zs:=zs) hF);have hwr:=HWR.out q rep V HF.out;have G3:=aA hG3;have B3:=aA (aB B2.out hb3);have X3:=aA (X2.out.below hb3);have Y3:=aA (Y2.out.below hb3);have hs3:=hb3.size;clear hG3 hb3 hF;obtain ⟨⟨y0,y1,y2⟩,y3,y4,y5⟩:=Y3.out;have Y4:=aA (Y3.out.set (.int .i64 q) (.int .i64 rep) (.slice av V.length cv3));have K4:=aA (aD.three' w3 w1.heap.size (.int .i64 q) (.int .i64 rep) (.slice av V.length cv3));have B4:=aA (B3.out.trans (K4.out.below B3.out.size (fun q hq e=>by omega)))
  have X4:=aA (X3.out.kept K4.out (by omega))
  have G4:=aA ((G3.out.kept K4.out (fun b hb e=>by omega)).mono (B':=w1.heap.size) (by omega))
  have hs4:=K4.out.size;obtain ⟨⟨z0,z1,z2⟩,z3,z4,z5⟩:=Y4.out;by_cases hz:q+rep=0
  ·have HZ:=aA hz
   rw[hz]at hwr;go_wp2_with fail
   clear hz hwr;generalize ((w3.setCell ⟨w1.heap.size,0,none⟩ (.int .i64 q)).setCell ⟨w1.heap.size,1,none⟩ (.int .i64 rep)).setCell ⟨w1.heap.size,2,none⟩ (.slice av V.length cv3)=W4 at *;refine (dV (some ⟨b2,off2,none⟩) c l.length l W4 (HRd.out.below B4.out) rfl (by omega) HSM.out).mono ?_
   rintro r w5 ⟨av5,cv5,rfl,hG5,hb5⟩;have G5:=aA (hG5.mono (B':=w1.heap.size) (by omega))
   have B5:=aA (aB B4.out hb5);have G6:=aA (G4.out.below hb5);have X5:=aA (X4.out.below hb5);have hs5:=hb5.size;obtain ⟨⟨z0,z1,z2⟩,z3,z4,z5⟩:=Y4.out.below hb5;obtain ⟨g5,hgv,hgB,hgl,hfz,r5,hrs5,hcl⟩:=hG5.at HQ.out;subst hgv;have hz2:w5.cell? ⟨g5,j * 5+4,none⟩=some (.slice r5.a r5.s.layer.length r5.c):=hcl 4 (by decide)
   have hf2:=hfz (j * 5+4);clear hG5 hb5 hcl hfz;have GP:=aA (G5.out.lay HQ.out G6.out);rw[←jL HRI.out HQ.out (s':=⟨e.name,e.parent,e.kind,e.lease,V⟩) rfl]at GP;have HLN:=aA (show (dK l ⟨e.name,e.parent,e.kind,e.lease,V⟩).length=l.length by rw[jL HRI.out HQ.out (s':=⟨e.name,e.parent,e.kind,e.lease,V⟩) rfl,List.length_set])
   have KS:=aA (aD.setCell (S:=fun q=>q=g5) (p:=⟨g5,j * 5+4,none⟩) (aD.refl _ w5) (fun _=>rfl) (.slice av V.length cv3))
   have BP:=aA (B5.out.trans (KS.out.below B5.out.size (fun q hq e=>by omega)))
   obtain ⟨⟨t0,t1,t2⟩,t3,t4,t5⟩:=X5.out.kept KS.out (by omega)
   go_wp2_with fail
   exact bodyPost_ret (v:=.agg #[.int .i64 0,.int .i64 0,.slice (some ⟨g5,0,none⟩) l.length cv5]) (by simp[results,Tryz.results195,go_sem,t0,t1,t2]) rfl ⟨q,rep,V,HF.out,.inr ⟨HZ.out,bI.of (B:=w1.heap.size) (by omega) (Nat.le_refl _) HLN.out.symm GP.out BP.out⟩⟩
  ·have HZ:=aA hz
   go_wp2_with fail
   generalize ((w3.setCell ⟨w1.heap.size,0,none⟩ (.int .i64 q)).setCell ⟨w1.heap.size,1,none⟩ (.int .i64 rep)).setCell ⟨w1.heap.size,2,none⟩ (.slice av V.length cv3)=W4 at *;refine (cC (some ⟨b2,off2,none⟩) c l.length l (q+rep) W4 (HRd.out.below B4.out) rfl (by omega) HSM.out).mono ?_
   rintro r w9 ⟨av9,cv9,rfl,hG,hb9⟩;have G9:=aA hG;have B9:=aA (aB B4.out hb9);obtain ⟨⟨t0,t1,t2⟩,t3,t4,t5⟩:=X4.out.below hb9;clear hG hb9;go_wp2_with fail
   exact bodyPost_ret (v:=.agg #[.int .i64 0,.int .i64 (q+rep),.slice av9 l.length cv9]) (by simp[results,Tryz.results195,go_sem,t0,t1,t2]) rfl ⟨q,rep,V,HF.out,.inl ⟨HZ.out,bI.of (B:=W4.heap.size) (by omega) (Nat.le_refl _) rfl G9.out B9.out⟩⟩
end Go.Proofs.YtgaeikgoknoamaaGreat
namespace Go.Proofs.YtgaeikgoknoamaaGreat
theorem zB {x:En}:∀ {us:List Bs} {o:List En},x∈us.foldl cK o→x∈o∨∃ u∈us,x=gU u
 | [],o,h=>.inl h
 | u :: us,o,h=>by
  rcases zB (us:=us) (o:=cK o u) h with h | ⟨v,hv,e⟩
  ·unfold cK at h
   split at h
   ·rcases jJ.1 h with h | ⟨h,-⟩
    ·exact .inr ⟨u,List.mem_cons_self,h⟩
    ·exact .inl h
   ·exact .inl h
  ·exact .inr ⟨v,List.mem_cons_of_mem _ hv,e⟩
theorem zr2:∀ {us:List Bs} {o:List En},(∀ u∈us,aK o u≠none)→us.foldl cK o=o
 | [],o,h=>rfl
 | u :: us,o,h=>by
  have h1:cK o u=o:=by rw[cK,if_neg (h u List.mem_cons_self)]
  rw[List.foldl_cons,h1];exact zr2 (fun v hv=>h v (List.mem_cons_of_mem _ hv))
theorem sE {es:List En} {x:En} (hx:x∈es):aK es x.path≠none:=by
 intro h;have:=List.find?_eq_none.1 h x hx;simp at this
theorem zgg {U:List En} (h:Fit U) {q:Bs} (hq:aF q=0) (hf:aK U q≠none):∀ u∈bL q,aK U u≠none:=by
 intro u hu;cases hx:aK U q with
 | none=>exact absurd hx hf
 | some x =>
  obtain ⟨hm,hp⟩:=eN hx;rw[eP hq]at hu;obtain ⟨h1,h2⟩:=(jT hq).1 hu;obtain ⟨d,hd,hdp,-⟩:=h.up h1 hm (by rw[hp];exact h2)
  rw[←hdp];exact sE hd
theorem zkg {q u:Bs} (hq:aF q=0) (hu:u∈bL q):u≠q:=by
 intro e;rw[eP hq]at hu;have:=eV ((jT hq).1 hu).2;rw[e]at this;omega
theorem znj {U:List En} (h:Fit U) {e:En} (hp:aF e.path=0):gQ U e=if jE U e=true then dC (gQ U (gU (aE e.path))) e else dC U e:=by
 have hk:=mR hp rfl;by_cases h0:aE e.path=[]
 ·rw[if_pos h0]at hk
  rw[gQ,hk,if_neg (by simp[jE,h0])]
  rfl
 ·rw[if_neg h0]at hk
  obtain ⟨hq,-⟩:=eD hp h0;rw[gQ,hk,List.foldl_append,List.foldl_cons,List.foldl_nil];by_cases hf:aK U (aE e.path)=none
  ·rw[if_pos (by simp[jE,h0,hf])]
   have h1:aK ((bL (aE e.path)).foldl cK U) (aE e.path)=none:=iZ (fun x hx hxp=>by
    rcases zB hx with hx | ⟨u,hu,rfl⟩
    ·exact sE hx (by rw[hxp];exact hf)
    ·exact zkg hq hu hxp)
   rw[cK,if_pos h1];rfl
  ·rw[if_neg (by cases hs:aK U (aE e.path) with
    | none=>exact absurd hs hf
    | some x=>simp[jE,hs])]
   rw[zr2 (zgg h hq hf),cK,if_neg hf]
theorem zfj {U:List En} (h:Fit U) {p:Bs} (hp:aF p=0) (h0:aE p≠[]) (hf:aK U (aE p)=none):∀ x∈U,x.path≠p∧bG x.path p=false:=by
 intro x hx;obtain ⟨hq,hb⟩:=eD hp h0;have key:bG x.path (aE p)=true→False:=fun hxb=>by
  obtain ⟨d,hd,hdp,-⟩:=h.up hq hx hxb;exact sE hd (by rw[hdp];exact hf)
 refine ⟨fun e=>key (by rw[e];exact hb),?_⟩
 cases hxb:bG x.path p with
 | false=>rfl
 | true=>exact absurd (oJ hxb hb) (fun h=>key h)
theorem zhi {D:List En} {e:En} (h:∀ x∈D,x.path≠e.path∧bG x.path e.path=false):(dC D e).length=D.length+1:=by
 rw[zb7]
 congr 1
 rw[iL,List.filter_eq_self.2];intro x hx;obtain ⟨h1,h2⟩:=h x hx;simp[jB,h1,h2]
theorem zc7 {D:List En} {e:En} (h:aV D) (he:aI e=0) (hh:cQ D e.path=true):(fA D e,gM D e)=if (dC D e).length≤12 then ((0:Int),dC D e) else (2,[]):=by
 have h1:fA D e=if 12<(dC D e).length then 2 else 0:=by rw[fA,if_pos (eE.2 h),if_pos he,if_pos hh]
 by_cases hl:12<(dC D e).length
 ·rw[if_neg (by omega),gM,h1,if_pos hl];rfl
 ·rw[if_pos (by omega),gM,h1,if_neg hl];rfl
theorem zn2 {U:List En} (h:aV U):∀ (n:Nat) (e:En),(bL e.path).length=n→aI e=0→(∀ u∈bL e.path,∀ x,aK U u=some x→bX x.kind=true)→iT n U e=if (gQ U e).length≤12 then (0,gQ U e) else (2,[])
 | n,e,hn,he,hd=>by
  have hp:=bQ he;have hF:=(jX.1 h).1;have hfu:=znj hF hp;have hk:=mR hp rfl;by_cases hu:jE U e=true
  ·rw[if_pos hu]at hfu
   have h0:aE e.path≠[]:=by intro e0;simp[jE,e0]at hu
   have hf:aK U (aE e.path)=none:=by
    cases hs:aK U (aE e.path) with
    | none=>rfl
    | some x=>simp[jE,hs]at hu
   rw[if_neg h0]at hk;obtain ⟨hq,hb⟩:=eD hp h0;cases n with
   | zero=>exact absurd (zmf hp hn) h0
   | succ n =>
    have ih:=zn2 h n (gU (aE e.path)) (zam hp h0 hn) (tD hq) (fun u hu2 x hx=>hd u (by rw[hk];exact List.mem_append_left _ hu2) x hx)
    by_cases hl:(gQ U (gU (aE e.path))).length≤12
    ·rw[if_pos hl]at ih
     have hz:(iT n U (gU (aE e.path))).1=0:=by rw[ih]
     have hR:=(zp2 hz).1;rw[zk5 hu hz];rw[ih]at hR ⊢;rw[hfu];exact zc7 hR he (dH.2 (.inr ⟨gU (aE e.path),jJ.2 (.inl rfl),rfl,rfl⟩))
    ·rw[if_neg hl]at ih
     have hz:(iT n U (gU (aE e.path))).1≠0:=by rw[ih];decide
     rw[zj5 hu hz,ih,if_neg];rw[hfu,zhi]
     ·omega
     ·intro x hx
      rcases jJ.1 hx with rfl | ⟨hx,-⟩
      ·exact ⟨wE hp h0,by
        cases hxb:bG (aE e.path) e.path with
        | false=>exact hxb
        | true=>have a1:=eV hxb;have a2:=eV hb;omega⟩
      ·rcases zB hx with hx | ⟨u,hu2,rfl⟩
       ·exact zfj hF hp h0 hf x hx
       ·have hu3:u∈bL (aE e.path):=hu2
        rw[eP hq]at hu3;have a1:=eV ((jT hq).1 hu3).2;have a2:=eV hb;refine ⟨fun e1=>?_,?_⟩
        ·have e2:u=e.path:=e1
         rw[e2]at a1;omega
        ·cases hxb:bG u e.path with
         | false=>exact hxb
         | true=>have a3:=eV hxb;omega
  ·have hu2:jE U e=false:=by simpa using hu
   rw[if_neg hu]at hfu;rw[zo2 hu2,hfu];refine zc7 h he ?_;by_cases h0:aE e.path=[]
   ·exact dH.2 (.inl h0)
   ·cases hs:aK U (aE e.path) with
    | none=>simp[jE,h0,hs]at hu
    | some x =>
     obtain ⟨hm,hxp⟩:=eN hs;rw[if_neg h0]at hk;exact dH.2 (.inr ⟨x,hm,hxp,hd _ (by rw[hk];simp) x hs⟩)
theorem znk {T:List En} (h:kO T) {p:Bs} (hp:aF p=0) (hh:eH T p=0):∀ u∈bL p,aK T u=some (gU u):=by
 have hk:=mR hp rfl;intro u hu;by_cases h0:aE p=[]
 ·rw[if_pos h0]at hk;rw[hk]at hu;simp at hu
 ·rw[if_neg h0]at hk
  obtain ⟨hq,-⟩:=eD hp h0;have key:∀ d∈T,bX d.kind=true→d.path=u→aK T u=some (gU u):=fun d hd hdk hdp=>by
   have h1:=eA h.fit.rise hd;rw[hdp]at h1;rw[h1];have hup:aF u=0:=by rw[←hdp];exact h.fit.path hd
   have:=zcj (h.fit.ent d hd) (tD hup) hdp hdk rfl;rw[asT,if_neg (by rw[h.dir hd hdk];decide)]at this
   exact congrArg some this
  cases hs:aK T (aE p) with
  | none=>rw[zk0 h0 hs]at hh;cases hh
  | some d =>
   obtain ⟨hd,hdp⟩:=eN hs;have hdk:bX d.kind=true:=by
    have h1:=h.kind d hd;simp only[eH,if_neg h0,hs]at hh;simp only[sA,decide_eq_true_eq]at h1;rcases h1 with h1 | h1
    ·rw[if_pos h1]at hh;cases hh
    ·simp[bX,h1]
   rw[hk]at hu;rcases List.mem_append.1 hu with hu | hu
   ·rw[eP hq]at hu
    obtain ⟨h1,h2⟩:=(jT hq).1 hu;obtain ⟨d2,hd2,hdp2,hdk2⟩:=h.fit.up h1 hd (by rw[hdp];exact h2)
    exact key d2 hd2 hdk2 hdp2
   ·simp only[List.mem_singleton]at hu
    exact key d hd hdk (by rw[hdp,hu])
theorem zt1 {t U:List En} (ht:kO t) (hU:Fit U) {p:Bs} (hp:aF p=0) (hh:eH (gZ t U) p=0):∀ u∈bL p,∀ x,aK U u=some x→bX x.kind=true:=by
 intro u hu x hx;have h1:=znk (wA ht hU) hp hh u hu;rw[zc1 ht hU,mY hx]at h1;by_cases h3:x.kind=3
 ·rw[if_pos h3]at h1;cases h1
 ·rw[if_neg h3]at h1
  have h2:asT x=gU u:=Option.some.inj h1;have h4:(asT x).kind=2:=by rw[h2];rfl
  rcases mV (hU.ent x (eN hx).1) with hk | hk | hk | hk
  ·rw[asT,if_neg (by rw[hk];decide),hk]at h4;cases h4
  ·simp[bX,hk]
  ·exact absurd hk h3
  ·simp[bX,hk]
theorem zmb {U:List En} (h:aV U) {e:En} (he:aI e=0) (hd:∀ u∈bL e.path,∀ x,aK U u=some x→bX x.kind=true) (hl:(gQ U e).length≤12):aV (gQ U e):=by
 have h1:=zn2 h _ e rfl he hd;rw[if_pos hl]at h1;have h2:=(zp2 (n:=(bL e.path).length) (U:=U) (e:=e) (by rw[h1])).1
 rwa [h1]at h2
theorem zte {T:List En} (h:kO T) {p:Bs} {e:En} (hf:aK T p=some e):eH T p=0:=by
 obtain ⟨hm,hp⟩:=eN hf;rcases dH.1 (h.fit.home e hm) with h0 | ⟨d,hd,hdp,hdk⟩
 ·rw[hp]at h0;exact vM h0
 ·rw[hp]at hdp
  have h1:=eA h.fit.rise hd;rw[hdp]at h1;by_cases h0:aE p=[]
  ·exact vM h0
  ·simp only[eH,if_neg h0,h1]
   rw[if_neg (by rw[h.dir hd hdk];decide)]
theorem zug {U:List En} {p:Bs} (hp:aF p=0):aI (kQ U p)=0∧(kQ U p).path=p∧asT (kQ U p)=vH p∧(kQ U p).kind≠3:=by
 have h4:aI (⟨p,4,0,[]⟩:En)=0:=by
  rw[fN (e:=⟨p,4,0,[]⟩) hp (by simp[gR]) (by simp[kW]) (by simp[lQ])]
  rfl
 have key:kQ U p=⟨p,4,0,[]⟩∨kQ U p=⟨p,2,0,[]⟩:=by
  unfold kQ;cases aK U p with
  | none=>exact .inr rfl
  | some x =>
   by_cases hk:x.kind=3
   ·left;simp[hk]
   ·right;simp[hk]
 rcases key with h | h <;> rw[h]
 ·exact ⟨h4,rfl,by simp[asT,kG,vH],by simp⟩
 ·exact ⟨tD hp,rfl,by simp[asT,vH],by simp⟩
def wX (p:Bs):En:=⟨p,3,0,[]⟩
theorem zkd {p:Bs} (hp:aF p=0):aI (wX p)=0:=by
 rw[fN (e:=wX p) hp (by simp[gR,wX]) (by simp[kW,wX]) (by simp[lQ,wX])]
 rfl
end Go.Proofs.YtgaeikgoknoamaaGreat
namespace Go.Proofs.YtgaeikgoknoamaaGreat
open Go.RowKit Go.Maps
attribute [local go_sem ↓] Go.wp_at_zero Go.wp_at_succ
theorem yD {p:Bs} {zs:List Int} (hp:aF p=0) (hl:zs.length≤24):aI (bV p zs)=0:=by
 have h1:gR (bV p zs)=true:=decide_eq_true ⟨by simp[bV],.inl rfl⟩
 have h2:kW (bV p zs)=true:=decide_eq_true (by simp[bV];omega)
 have h3:lQ (bV p zs)=true:=decide_eq_true (by show ((kP zs (cut zs).length).length:Int)=((zs.length:Int)+7) / 8;rw[kD,gP];omega)
 rw[fN hp h1 h2 h3,if_pos];rw[List.all_eq_true];intro z hz;simp only[bV,kP,List.mem_map]at hz;obtain ⟨i,_,rfl⟩:=hz;exact decide_eq_true (qQ _)
end Go.Proofs.YtgaeikgoknoamaaGreat
namespace Go.Proofs.YtgaeikgoknoamaaGreat
theorem zzb {T:List En} {p:Bs} (h:wrS T p=0):eH T p=0:=by
 by_cases hh:eH T p=0
 ·exact hh
 ·rw[wrS,if_neg hh]at h;exact h
theorem zyb {T:List En} {p:Bs} (h:mkS T p=0):eH T p=0:=by
 by_cases hh:eH T p=0
 ·exact hh
 ·rw[mkS,if_neg hh]at h;exact h
theorem sC {O U:List En} {e:En} {rep:Int} {V:List En} (hO:aV O) (hU:aV U) (he:aI e=0) (hd:∀ u∈bL e.path,∀ x,aK U u=some x→bX x.kind=true) (h:oS O U e rep V):aV V:=by
 by_cases hl:12<(gQ U e).length
 ·rw[(h.1 hl).2];exact hO
 ·rw[(h.2 hl).2];exact zmb hU he hd (by omega)
theorem zH {ls:List (List En)} {U:List En} (hR:∀ es∈ls ++ [U],aV es):kO (aY ls)∧aV U:=⟨sN (jF fun es he=>hR es (List.mem_append_left _ he)),hR U (by simp)⟩
theorem zvi {ls:List (List En)} {U:List En} {p:Bs} {zs:List Int} {rep:Int} {V:List En} (hR:∀ es∈ls ++ [U],aV es) (hp:aF p=0) (hzl:zs.length≤24) (h:WrS (aY (ls ++ [U])) U p (bV p zs) rep V):aV V:=by
 obtain ⟨ht,hU⟩:=zH hR;by_cases hw:wrS (aY (ls ++ [U])) p=0
 ·exact sC hU hU (yD hp hzl) (zt1 ht (jX.1 hU).1 hp (by rw[←mS];exact zzb hw)) (h.yes hw)
 ·rw[(h.no hw).2];exact hU
theorem zuh {ls:List (List En)} {U:List En} {p:Bs} {rep:Int} {V:List En} (hR:∀ es∈ls ++ [U],aV es) (hp:aF p=0) (h:MkS (aY (ls ++ [U])) U p rep V):aV V:=by
 obtain ⟨ht,hU⟩:=zH hR;obtain ⟨he,hep,-,-⟩:=zug (U:=U) hp;by_cases hw:mkS (aY (ls ++ [U])) p=0
 ·exact sC hU hU he (by rw[hep];exact zt1 ht (jX.1 hU).1 hp (by rw[←mS];exact zyb hw)) (h.yes hw)
 ·rw[(h.no hw).2];exact hU
theorem zni {ls:List (List En)} {U:List En} {p:Bs} {rep:Int} {V:List En} (hR:∀ es∈ls ++ [U],aV es) (hp:aF p=0) (h:RmS ls (aY (ls ++ [U])) U p rep V):aV V:=by
 obtain ⟨ht,hU⟩:=zH hR;have hr:=yR hU hp;by_cases hw:rmS (aY (ls ++ [U])) p=0
 ·cases hs:aK (aY (ls ++ [bO U p true])) p with
  | none=>rw[(h.gone hw hs).2];exact hr
  | some x =>
   have hT:kO (aY (ls ++ [bO U p true])):=by rw[mS];exact wA ht (jX.1 hr).1
   have hh:=zte hT hs;rw[mS]at hh;exact sC hU hr (zkd hp) (zt1 ht (jX.1 hr).1 hp hh) (h.white hw (by rw[hs];simp))
 ·rw[(h.no hw).2];exact hU
end Go.Proofs.YtgaeikgoknoamaaGreat
namespace Go.Proofs.YtgaeikgoknoamaaGreat
open Go.RowKit Go.Maps
attribute [local go_sem ↓] Go.wp_at_zero Go.wp_at_succ
theorem yG (T:List En) (p:Bs):0≤eH T p∧eH T p≤9:=by
 unfold eH;split
 ·omega
 ·split
  ·omega
  ·split <;> omega
theorem sD {O U:List En} {e:En} {rep:Int} {V:List En} (h:oS O U e rep V):0≤rep∧rep≤9:=by
 by_cases hb:12<(gQ U e).length
 ·have:=(h.1 hb).1;omega
 ·have:=(h.2 hb).1;omega
theorem zhg {T U:List En} {p:Bs} {e:En} {rep:Int} {V:List En} (h:WrS T U p e rep V):0≤rep∧rep≤9:=by
 have hh:=yG T p;by_cases h0:wrS T p=0
 ·exact sD (h.yes h0)
 ·rw[(h.no h0).1]
  unfold wrS;split
  ·split
   ·split <;> omega
   ·omega
  ·omega
theorem zhf {T U:List En} {p:Bs} {rep:Int} {V:List En} (h:MkS T U p rep V):0≤rep∧rep≤9:=by
 have hh:=yG T p;by_cases h0:mkS T p=0
 ·exact sD (h.yes h0)
 ·rw[(h.no h0).1]
  unfold mkS;split
  ·split <;> omega
  ·omega
theorem zag {ls:List (List En)} {T U:List En} {p:Bs} {rep:Int} {V:List En} (h:RmS ls T U p rep V):0≤rep∧rep≤9:=by
 by_cases h0:rmS T p=0
 ·by_cases hg:aK (aY (ls ++ [bO U p true])) p=none
  ·have:=(h.gone h0 hg).1;omega
  ·exact sD (h.white h0 hg)
 ·rw[(h.no h0).1]
  unfold rmS;split
  ·omega
  ·split
   ·split <;> omega
   ·omega
theorem zh5:∀ ns:List Bs,0≤eR ns∧eR ns≤9:=by
 intro ns;unfold eR
 repeat' split
 all_goals omega
theorem zi5 (p:Bs):0≤aF p∧aF p≤9:=by
 unfold aF;split
 ·omega
 ·split
  ·exact zh5 _
  ·omega
theorem rM {l:List Sn} (h:bH l) {s:Sn} (hs:s∈l):bY (iW l s ++ [s.layer])=0:=by
 rw[←oU];refine fJ.2 ⟨nI h hs,fun es he=>?_⟩
 unfold cH at he;rw[List.mem_reverse,List.mem_map]at he;obtain ⟨y,hy,rfl⟩:=he;exact eE.1 (h.own y (lH (fun s0 hs0=>by cases hs0;exact hs) y hy)).2.2
theorem yB {l:List Sn} (h:bH l) {s:Sn} (hs:s∈l) {p:Bs} {zs:List Int} {k q rep:Int} {V:List En} (hk:k=1∨k=2∨k=3) (hD:jP (iW l s) s.layer p zs k q rep V):0≤q∧q≤9∧0≤rep∧rep≤9:=by
 have hl:=rM h hs;have ha:dP (iW l s ++ [s.layer]) p=aF p:=by unfold dP;rw[if_pos hl]
 have hf:=zi5 p;rcases hk with rfl | rfl | rfl
 ·have hF:=hD.1 rfl
  have hw:0≤lM (iW l s ++ [s.layer]) p zs∧lM (iW l s ++ [s.layer]) p zs≤9:=by
   unfold lM;rw[ha];split
   ·split <;> omega
   ·exact hf
  by_cases h0:lM (iW l s ++ [s.layer]) p zs=0
  ·obtain ⟨h1,h2⟩:=hF.good h0
   have:=zhg h2;omega
  ·obtain ⟨h1,h2,-⟩:=hF.bad h0
   omega
 ·have hF:=hD.2.1 rfl
  rw[ha]at hF;by_cases h0:aF p=0
  ·obtain ⟨h1,h2⟩:=hF.good h0
   have:=zhf h2;omega
  ·obtain ⟨h1,h2,-⟩:=hF.bad h0
   omega
 ·have hF:=hD.2.2 rfl
  rw[ha]at hF;by_cases h0:aF p=0
  ·obtain ⟨h1,h2⟩:=hF.good h0
   have:=zag h2;omega
  ·obtain ⟨h1,h2,-⟩:=hF.bad h0
   omega
theorem zgb {l:List Sn} (h:bH l) {s:Sn} (hs:s∈l) {p:Bs} {zs:List Int} {k q rep:Int} {V:List En} (hk:k=1∨k=2∨k=3) (hD:jP (iW l s) s.layer p zs k q rep V):IntKind.i64.wrap (q+rep)=q+rep:=by
 have:=yB h hs hk hD;simp[IntKind.wrap,IntKind.signed,IntKind.bits];omega
theorem zU (a:Option Addr) (c n:Nat) (l:List Sn) (nm p:Bs) (zs:List Int) (d:Option Addr) (dn dc:Nat) (k:Int) (w:World) (h:RdS w a l) (hn:n=l.length) (hR:bH l) (hs:dF l) (hk3:k=1∨k=2∨k=3) (hpl:p.length≤1048576) (hd:aO .u8 w d zs) (hdn:dn=zs.length) (hu8:U8 zs) (hdc:zs.length≤dc) (hdl:zs.length≤1048576) :
  Calls Tryz.prog 150 #[.slice a n c,.string (str nm),.string (str p),.slice d dn dc,.int .i64 k] w fun r w'=>(atS l nm=none∧bI 0 4 l w r w')∨∃ t,atS l nm=some t∧((t.kind=2∧bI 0 10 l w r w')∨(t.kind≠2∧∃ q rep V,jP (iW l t) t.layer p zs k q rep V∧((q+rep≠0∧bI 0 (q+rep) l w r w')∨(q+rep=0∧bI 0 0 (dK l ⟨t.name,t.parent,t.kind,t.lease,V⟩) w r w')))):=by
 subst hn;have hl:=hR.len;have X0:=aA (fB.new w (.int .i64 0) (.int .i64 0) (.slice none 0 0) 29);have B0:=aA (aC w (.cells #[.int .i64 0,.int .i64 0,.slice none 0 0] 29));have HC:=aA (gX a c l.length l _ (h.below B0.out) rfl (by omega) hs)
 rw[hR.good]at HC;have HRd:=aA h;have HRI:=aA hR.rise;have HSM:=aA hs;have HW:=aA (fun (u:World) (j:Nat) (s:Sn) (hb:Below w.heap.size w u) (hq:l[j]?=some s)=>zz5 a c l.length l s j p zs d dn dc k u (h.below hb) rfl hR hs hq hk3 hpl (hd.below hb) hdn hu8 hdc hdl (fun q rep V hD=>zgb hR (List.mem_of_getElem? hq) hk3 hD))
 have HI:=aA (fun u:World=>mN k 1 3 u (by omega) (by omega))
 clear h hs hR hd hdn;go_enter Tryz.func150,Tryz.ntmps150;go_wp2_with fail
 have hsz0:(w.alloc (.cells #[.int .i64 0,.int .i64 0,.slice none 0 0] 29)).heap.size=w.heap.size+1:=by simp
 generalize w.alloc (.cells #[.int .i64 0,.int .i64 0,.slice none 0 0] 29)=W0 at *;refine HC.out.mono ?_;rintro r w1 ⟨rfl,hb1⟩;have B1:=aA (aB B0.out hb1);have X1:=aA (X0.out.below hb1);have hs1:=hb1.size;clear hb1;go_wp2_with fail
 refine (HI.out _).mono ?_;rintro r w1b ⟨rfl,hw1b⟩;have hw1c:=hw1b.symm;subst hw1c;go_wp2_with fail
 refine (gW a c l.length l nm w1 (HRd.out.below B1.out) rfl (by omega)).mono ?_
 rintro r w2 ⟨rfl,hw2⟩;subst hw2;cases hp:plS l nm with
 | none =>
  have HN:=aA (jK hp);clear hp;simp only[cR];go_wp2_with fail
  refine (cC a c l.length l 4 w2 (HRd.out.below B1.out) rfl (by omega) HSM.out).mono ?_
  rintro r w9 ⟨av,cv,rfl,hG,hb9⟩;have G9:=aA hG;have B9:=aA (aB B1.out hb9);obtain ⟨⟨t0,t1,t2⟩,t3,t4,t5⟩:=X1.out.below hb9;clear hG hb9;go_wp2_with fail
  exact bodyPost_ret (v:=.agg #[.int .i64 0,.int .i64 4,.slice av l.length cv]) (by simp[results,Tryz.results150,go_sem,t0,t1,t2]) rfl (.inl ⟨HN.out,bI.of (B:=w2.heap.size) (by omega) (Nat.le_refl _) rfl G9.out B9.out⟩)
 | some j =>
  obtain ⟨s,hq,hat⟩:=nR hp;have hjl:=(List.getElem?_eq_some_iff.1 hq).1;obtain ⟨b2,off2,e,x2,cc2,hbb,hb2,he,d0,d1,d2,d3,d4,hr2⟩:=(HRd.out.below B1.out).at hjl;subst hbb;have heq:e=s:=by rw[hq]at he;exact (Option.some.inj he).symm
  subst heq;have HAT:=aA hat;have HQ:=aA hq;have hj0:¬ (j:Int)<0:=by omega
  have hj1:(j:Int)<(l.length:Int):=by omega
  clear hp hq hat he hr2;simp only[cR];by_cases hk:e.kind=2
  ·have hkb:(e.kind==2)=true:=by simp[hk]
   have HK:=aA hk;clear hk;go_wp2_with fail
   refine (cC _ c l.length l 10 w2 (HRd.out.below B1.out) rfl (by omega) HSM.out).mono ?_
   rintro r w9 ⟨av,cv,rfl,hG,hb9⟩;have G9:=aA hG;have B9:=aA (aB B1.out hb9);obtain ⟨⟨t0,t1,t2⟩,t3,t4,t5⟩:=X1.out.below hb9;clear hG hb9;go_wp2_with fail
   exact bodyPost_ret (v:=.agg #[.int .i64 0,.int .i64 10,.slice av l.length cv]) (by simp[results,Tryz.results150,go_sem,t0,t1,t2]) rfl (.inr ⟨e,HAT.out,.inl ⟨HK.out,bI.of (B:=w2.heap.size) (by omega) (Nat.le_refl _) rfl G9.out B9.out⟩⟩)
  ·have hkb:(e.kind==2)=false:=by simp[hk]
   have HK:=aA hk;clear hk;go_wp2_with fail
   refine (HW.out w2 j e B1.out HQ.out).mono ?_;rintro r w3 ⟨q,rep,V,hD,hres⟩;have HDo:=aA hD;clear hD;rcases hres with ⟨hz,av,cv,rfl,hG,hb3⟩ | ⟨hz,av,cv,rfl,hG,hb3⟩
   ·have HZ:=aA hz
    have G9:=aA hG;have B9:=aA (aB B1.out hb3);obtain ⟨⟨t0,t1,t2⟩,t3,t4,t5⟩:=X1.out.below hb3;obtain ⟨x,hx⟩:∃ x,x=q+rep:=⟨_,rfl⟩;rw[←hx];have HX:=aA hx;clear hG hb3 hz hx;go_wp2_with fail
    exact bodyPost_ret (v:=.agg #[.int .i64 0,.int .i64 x,.slice av l.length cv]) (by simp[results,Tryz.results150,go_sem,t0,t1,t2]) rfl (.inr ⟨e,HAT.out,.inr ⟨HK.out,q,rep,V,HDo.out,.inl ⟨HZ.out,by rw[←HX.out];exact bI.of (B:=w2.heap.size) (by omega) (Nat.le_refl _) rfl G9.out B9.out⟩⟩⟩)
   ·have HZ:=aA hz
    obtain ⟨R,hR'⟩:∃ R,R=dK l ⟨e.name,e.parent,e.kind,e.lease,V⟩:=⟨_,rfl⟩;rw[←hR']at hG ⊢;have HRR:=aA hR';have G9:=aA hG;have B9:=aA (aB B1.out hb3);obtain ⟨⟨t0,t1,t2⟩,t3,t4,t5⟩:=X1.out.below hb3;clear hG hb3 hz hR';go_wp2_with fail
    exact bodyPost_ret (v:=.agg #[.int .i64 0,.int .i64 0,.slice av R.length cv]) (by simp[results,Tryz.results150,go_sem,t0,t1,t2]) rfl (.inr ⟨e,HAT.out,.inr ⟨HK.out,q,rep,V,HDo.out,.inr ⟨HZ.out,by rw[←HRR.out];exact bI.of (B:=w2.heap.size) (by omega) (Nat.le_refl _) rfl G9.out B9.out⟩⟩⟩)
end Go.Proofs.YtgaeikgoknoamaaGreat
