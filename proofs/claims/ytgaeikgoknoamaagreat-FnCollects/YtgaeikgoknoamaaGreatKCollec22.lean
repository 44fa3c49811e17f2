/-
  Texts put together: OvrO MntG OvrG MntI MntJ.
-/
import Derived.Test.YtgaeikgoknoamaaGreatKCollec21
import Derived.Test.YtgaeikgoknoamaaGreatKCollec9
import Derived.Test.YtgaeikgoknoamaaGreatKCollec19
import Derived.Test.YtgaeikgoknoamaaGreatKCollec11
import Derived.Test.YtgaeikgoknoamaaGreatKCollec7
import Derived.Test.YtgaeikgoknoamaaGreatKCollec20
import Derived.Test.YtgaeikgoknoamaaGreatKCollec6
import Derived.Test.YtgaeikgoknoamaaGreatKCollec5
import Derived.Test.YtgaeikgoknoamaaGreatKCollec18
set_option linter.unusedVariables false
set_option maxHeartbeats 6400000
set_option maxRecDepth 100000
namespace Go.Proofs.YtgaeikgoknoamaaGreat
open Go.RowKit Go.Maps
attribute [local go_sem ↓] Go.wp_at_zero Go.wp_at_succ
def zjb (w:World) (r:Ending) (w':World):Prop :=
 r=.returned (.tuple #[.agg #[.string ⟨#[]⟩,.int .i64 0,.int .i64 0,.slice none 0 0],.bool false])∧Below w.heap.size w w'
def zr7 (e:En) (w:World) (r:Ending) (w':World):Prop :=
 ∃ x c,r=.returned (.tuple #[.agg #[.string (str e.path),.int .i64 e.kind,.int .i64 e.size,.slice x e.chunks.length c],.bool true])∧w'.ownsRow w.heap.size 2 1 (.slice x e.chunks.length c) e.chunks.length (e.chunks.map (Value.int .i64))∧Below w.heap.size w w'
def gX (w:World) (b:Nat) (u0 u1 u2 u3:Value):Prop:=cP w b u0 u1 u2 u3∧∀ i,w.frozen? ⟨b,i,none⟩=false
theorem gX.new (w:World) (u0 u1 u2 u3:Value) (t:TypeId):gX (w.alloc (.cells #[u0,u1,u2,u3] t)).drew w.heap.size u0 u1 u2 u3 :=
 ⟨(cP.new w u0 u1 u2 u3 t).below (Below.refl _ _).drew,fun i=>((Below.refl (w.alloc (.cells #[u0,u1,u2,u3] t)).heap.size _).drew.frozen (p:=⟨w.heap.size,i,none⟩) (by simp)).trans (by simp)⟩
theorem gX.below {w w':World} {b:Nat} {u0 u1 u2 u3:Value} (h:gX w b u0 u1 u2 u3) (hk:Below w.heap.size w w'):gX w' b u0 u1 u2 u3 :=
 ⟨h.1.below hk,fun i=>(hk.frozen (p:=⟨b,i,none⟩) h.1.lt).trans (h.2 i)⟩
theorem gX.kept {S:Nat→Prop} {w w':World} {b:Nat} {u0 u1 u2 u3:Value} (h:gX w b u0 u1 u2 u3) (hk:aE S w w') (hn:¬ S b):gX w' b u0 u1 u2 u3 :=
 ⟨⟨(hk.cell (p:=⟨b,0,none⟩) h.1.lt hn).trans h.1.1,(hk.cell (p:=⟨b,1,none⟩) h.1.lt hn).trans h.1.2.1,(hk.cell (p:=⟨b,2,none⟩) h.1.lt hn).trans h.1.2.2.1,(hk.cell (p:=⟨b,3,none⟩) h.1.lt hn).trans h.1.2.2.2⟩,fun i=>(hk.frozen (p:=⟨b,i,none⟩) h.1.lt hn).trans (h.2 i)⟩
theorem gX.set1 {w:World} {b:Nat} {u0 u1 u2 u3:Value} (h:gX w b u0 u1 u2 u3) (v:Value):gX (w.setCell ⟨b,1,none⟩ v) b u0 v u2 u3 :=
 ⟨⟨by rw[aD (by simp)];exact h.1.1,bK h.1.2.1,by rw[aD (by simp)];exact h.1.2.2.1,by rw[aD (by simp)];exact h.1.2.2.2⟩,fun i=>by rw[World.frozen?_setCell];exact h.2 i⟩
theorem zx6 (a:Option Addr) (c n:Nat) (ls:List (List En)) (p:Bs) (w:World) (h:RdL w a ls) (hn:n=ls.length) (h4:ls.length≤4) (hR:∀ es∈ls,bD es) (hp:aG p=0) (hpl:p.length≤1048576) (hs:kX ls p=none) :
  Calls Tryz.prog 268 #[.slice a n c,.string (str p)] w (zjb w):=by
 subst hn;have X0:=aA (cP.new w (.string ⟨#[]⟩) (.int .i64 0) (.int .i64 0) (.slice none 0 0) 87);have B0:=aA (aC w (.cells #[.string ⟨#[]⟩,.int .i64 0,.int .i64 0,.slice none 0 0] 87));have HPL:=aA (wP a c ls.length ls p _ (h.below B0.out) rfl h4 hR hp hpl);rw[hs,show cD none = -1 from rfl]at HPL
 have f0:∀ i,(w.alloc (.cells #[.string ⟨#[]⟩,.int .i64 0,.int .i64 0,.slice none 0 0] 87)).frozen? ⟨w.heap.size,i,none⟩=false:=fun i=>by simp
 clear h hR hs;go_enter Tryz.func268,Tryz.ntmps268;go_wp2_with fail
 refine HPL.out.mono ?_;rintro r w1 ⟨rfl,hb1⟩;have B1:=aA (aB B0.out hb1);obtain ⟨t0,t1,t2,t3⟩:=X0.out.below hb1;have g0:=fun i=>(hb1.frozen (p:=⟨w.heap.size,i,none⟩) X0.out.lt).trans (f0 i)
 have g1:=g0 0;have g2:=g0 1;have g3:=g0 2;have g4:=g0 3;clear hb1 g0 f0;go_wp2_with fail
 refine bodyPost_ret (v:=.tuple #[.agg #[.string ⟨#[]⟩,.int .i64 0,.int .i64 0,.slice none 0 0],.bool false]) (by simp[results,Tryz.results268,go_sem,t0,t1,t2,t3]) rfl ⟨rfl,?_⟩
 exact (((B1.out.setCell (p:=⟨w.heap.size,0,none⟩) (Nat.le_refl _) _).setCell (p:=⟨w.heap.size,1,none⟩) (Nat.le_refl _) _).setCell (p:=⟨w.heap.size,2,none⟩) (Nat.le_refl _) _).setCell (p:=⟨w.heap.size,3,none⟩) (Nat.le_refl _) _
theorem zy6 (a:Option Addr) (c n:Nat) (ls:List (List En)) (p:Bs) (w:World) (h:RdL w a ls) (hn:n=ls.length) (h4:ls.length≤4) (hR:∀ es∈ls,bD es) (hp:aG p=0) (hpl:p.length≤1048576) (i:Nat) (e:En) (hs:kX ls p=some i) (he:gB ls i p=some e) :
  Calls Tryz.prog 268 #[.slice a n c,.string (str p)] w (zr7 (asT e) w):=by
 subst hn;obtain ⟨i0,hi0,hz0,hz1,hz2⟩:=info_parts Tryz.infoI64;have X0:=aA (cP.new w (.string ⟨#[]⟩) (.int .i64 0) (.int .i64 0) (.slice none 0 0) 87);have B0:=aA (aC w (.cells #[.string ⟨#[]⟩,.int .i64 0,.int .i64 0,.slice none 0 0] 87));have HPL:=aA (wP a c ls.length ls p _ (h.below B0.out) rfl h4 hR hp hpl);rw[hs,show cD (some i)=(i:Int) from rfl]at HPL
 have f0:∀ i,(w.alloc (.cells #[.string ⟨#[]⟩,.int .i64 0,.int .i64 0,.slice none 0 0] 87)).frozen? ⟨w.heap.size,i,none⟩=false:=fun i=>by simp
 have hil:i<ls.length:=by
  have:=zqg he;unfold gB at he;cases hh:ls[i]? with
  | none=>rw[hh]at he;cases he
  | some y=>exact (List.getElem?_eq_some_iff.1 hh).1
 obtain ⟨b,off,es,x,cc,rfl,hb,hes,c0,hr⟩:=h.at hil;have hRi:=hR es (List.mem_of_getElem? hes);have hel:=hRi.len;have hfe:aL es p=some e:=by rw[←nB hes];exact he
 obtain ⟨q,hq⟩:∃ q,atE es p=some q:=by
  cases ha:atE es p with
  | none=>rw[gJ ha]at hfe;cases hfe
  | some q=>exact ⟨q,rfl⟩
 obtain ⟨e',he',hfe'⟩:=kK hq;have:e'=e:=Option.some.inj (hfe'.symm.trans hfe);subst this;have hqlt:=nO hq;obtain ⟨bb,off2,e2,y,yc,rfl,hbb,he2,z0,z1,z2,z3,hrc⟩:=hr.at hqlt;have:e2=e':=Option.some.inj (he2.symm.trans he');subst this;have hsm:=cS hRi e2 (List.mem_of_getElem? he2);have hek:=kJ (hRi.ent e2 (List.mem_of_getElem? he2));have KS:Hid (∀ w',Below w.heap.size w w'→w'.cell? ⟨b,off+i,none⟩=some (.slice (some ⟨bb,off2,none⟩) es.length cc)∧w'.cell? ⟨bb,off2+q * 4,none⟩=some (.string (str e2.path))∧w'.cell? ⟨bb,off2+q * 4+1,none⟩=some (.int .i64 e2.kind)∧w'.cell? ⟨bb,off2+q * 4+2,none⟩=some (.int .i64 e2.size)∧w'.cell? ⟨bb,off2+q * 4+3,none⟩=some (.slice y e2.chunks.length yc)):=aA (fun w' hb'=>⟨(hb'.cell (p:=⟨b,off+i,none⟩) hb).trans c0,(hb'.cell (p:=⟨bb,off2+q * 4,none⟩) hbb).trans z0,(hb'.cell (p:=⟨bb,off2+q * 4+1,none⟩) hbb).trans z1,(hb'.cell (p:=⟨bb,off2+q * 4+2,none⟩) hbb).trans z2,(hb'.cell (p:=⟨bb,off2+q * 4+3,none⟩) hbb).trans z3⟩)
 have HAT:Hid (∀ w',Below w.heap.size w w'→Calls Tryz.prog 189 #[.slice (some ⟨bb,off2,none⟩) es.length cc,.string (str p)] w' fun r w2=>r=.returned (.int .i64 q)∧w2=w'):=aA (fun w' hb'=>by have h1:=gU (some ⟨bb,off2,none⟩) cc es.length es p w' (hr.below hb') rfl (by omega);rw[hq]at h1;exact h1)
 have HRC:=aA hrc;have hi1:(0:Int)≤(i:Int):=by omega
 have hi2:(i:Int)<(ls.length:Int):=by omega
 have hi3:¬ (i:Int)<0:=by omega
 have hq1:(0:Int)≤(q:Int):=by omega
 have hq2:(q:Int)<(es.length:Int):=by omega
 clear h hR hs he hes c0 hr hRi hfe hq he' hfe' he2 z0 z1 z2 z3 hrc;go_enter Tryz.func268,Tryz.ntmps268;go_wp2_with fail
 refine HPL.out.mono ?_;rintro r w1 ⟨rfl,hb1⟩;have B1:=aA (aB B0.out hb1);have X1:=aA (X0.out.below hb1);have FZ:=aA (fun i=>(hb1.frozen (p:=⟨w.heap.size,i,none⟩) X0.out.lt).trans (f0 i))
 clear hb1 f0 X0 HPL;obtain ⟨s0,s1,s2,s3,s4⟩:=KS.out _ B1.out;go_wp2_with fail
 go_region_held3 (fun w'=>w'.cell? ⟨b,off+i,none⟩=some (.slice (some ⟨bb,off2,none⟩) es.length cc)∧w'.cell? ⟨bb,off2+q * 4,none⟩=some (.string (str e2.path))∧w'.cell? ⟨bb,off2+q * 4+1,none⟩=some (.int .i64 e2.kind)∧w'.cell? ⟨bb,off2+q * 4+2,none⟩=some (.int .i64 e2.size)∧w'.cell? ⟨bb,off2+q * 4+3,none⟩=some (.slice y e2.chunks.length yc)) (first | exact KS.out _ B1.out.drew | exact KS.out _ (aB B1.out (aC _ _)).drew | exact KS.out _ (aB B1.out (aC _ _)) | go_keep)
  ((go_at_call 189;refine (HAT.out _ (by first | exact B1.out.drew | exact (aB B1.out (aC _ _)).drew)).mono ?_;rintro r w9 ⟨rfl,hw9⟩;have hw8:=hw9.symm;clear hw9;subst hw8))
 all_goals
  have BD:=aA (aB B1.out (aC w1 (.cells #[.string (str e2.path),.int .i64 e2.kind,.int .i64 e2.size,.slice y e2.chunks.length yc] 87))).drew;have BE:=aA ((aC w1 (.cells #[.string (str e2.path),.int .i64 e2.kind,.int .i64 e2.size,.slice y e2.chunks.length yc] 87)).drew);have XE:Hid (gX (w1.alloc (.cells #[.string (str e2.path),.int .i64 e2.kind,.int .i64 e2.size,.slice y e2.chunks.length yc] 87)).drew w1.heap.size (.string (str e2.path)) (.int .i64 e2.kind) (.int .i64 e2.size) (.slice y e2.chunks.length yc)):=aA (gX.new w1 _ _ _ _ _);have XR:Hid (gX (w1.alloc (.cells #[.string (str e2.path),.int .i64 e2.kind,.int .i64 e2.size,.slice y e2.chunks.length yc] 87)).drew w.heap.size (.string ⟨#[]⟩) (.int .i64 0) (.int .i64 0) (.slice none 0 0)):=aA (gX.below (w:=w1) ⟨X1.out,FZ.out⟩ BE.out)
  have hRE:w.heap.size<w1.heap.size:=X1.out.lt;have hEW:w1.heap.size<(w1.alloc (.cells #[.string (str e2.path),.int .i64 e2.kind,.int .i64 e2.size,.slice y e2.chunks.length yc] 87)).drew.heap.size:=XE.out.1.lt;clear X1 FZ s0 s1 s2 s3 s4 KS HAT BE B1 B0;generalize (w1.alloc (.cells #[.string (str e2.path),.int .i64 e2.kind,.int .i64 e2.size,.slice y e2.chunks.length yc] 87)).drew=WD at *;generalize w1.heap.size=be at *;have hne:w.heap.size≠be:=by omega
  have hne2:be≠w.heap.size:=by omega
  have hm0:0+e2.chunks.length≤maxLen:=by unfold maxLen;omega
  have hm0':(0+e2.chunks.length) * 8≤140737488355328:=by omega
  obtain ⟨⟨e0,e1,e3,e4⟩,ez⟩:=XE.out;have ez1:=ez 1;have ez3:=ez 3;clear ez;by_cases h4k:e2.kind=4
  ·have h4':(e2.kind==4)=true:=by simpa using h4k
   have HAS:=aA (show asT e2=⟨e2.path,2,e2.size,e2.chunks⟩ from by unfold asT;rw[if_pos h4k];rfl)
   clear h4k;have XE5:=aA (XE.out.set1 (.int .i64 2));have XR5:=aA (XR.out.kept (aE.setCell (S:=fun b=>b=be) (p:=⟨be,1,none⟩) (aE.refl _ WD) (fun _=>rfl) (.int .i64 2)) hne)
   have BW5:=aA (BD.out.setCell (p:=⟨be,1,none⟩) (by show w.heap.size≤be;omega) (.int .i64 2))
   have hz5:(WD.setCell ⟨be,1,none⟩ (.int .i64 2)).heap.size=WD.heap.size:=by simp[World.setCell]
   have OWN0:Hid (((WD.setCell ⟨be,1,none⟩ (.int .i64 2)).alloc (.cells #[] 2)).ownsRow WD.heap.size 2 1 (.slice (some ⟨WD.heap.size,0,none⟩) 0 0) 0 (([]:List Int).map (Value.int .i64))):=aA (by have h:=World.ownsRow_made (base:=(WD.setCell ⟨be,1,none⟩ (.int .i64 2)).heap.size) (e:=2) (size:=1) (WD.setCell ⟨be,1,none⟩ (.int .i64 2)) #[] 0 (Nat.le_refl _) (Nat.zero_le _) rfl;rw[hz5]at h;exact h)
   have RD0:Hid (aZ .i64 ((WD.setCell ⟨be,1,none⟩ (.int .i64 2)).alloc (.cells #[] 2)) y e2.chunks):=aA (HRC.out.below (aB BW5.out (aC _ _)));have XEA:=aA (XE5.out.below (aC (WD.setCell ⟨be,1,none⟩ (.int .i64 2)) (.cells #[] 2)));have XRA:=aA (XR5.out.below (aC (WD.setCell ⟨be,1,none⟩ (.int .i64 2)) (.cells #[] 2)));have hlE:be<WD.heap.size:=XE.out.1.lt;have hlR:w.heap.size<WD.heap.size:=XR.out.1.lt;have KK:Hid (∀ W6:World,aE (fun b=>b=WD.heap.size) ((WD.setCell ⟨be,1,none⟩ (.int .i64 2)).alloc (.cells #[] 2)) W6→gX W6 be (.string (str e2.path)) (.int .i64 2) (.int .i64 e2.size) (.slice y e2.chunks.length yc)∧gX W6 w.heap.size (.string ⟨#[]⟩) (.int .i64 0) (.int .i64 0) (.slice none 0 0)):=aA (fun W6 hk=>⟨XEA.out.kept hk (by omega),XRA.out.kept hk (by omega)⟩)
   clear XEA XRA;go_wp2_with (at_builtin;refine kR rfl (.tmp 30) (.tmp 32) 48 rfl WD.heap.size 2 i0 .i64 8 Tryz.underlying48 hi0 hz0 hz1 hz2 WD.heap.size 0 0 [] rfl OWN0.out y e2.chunks.length yc e2.chunks rfl rfl RD0.out e2.chunks.length (by simp) hm0 hm0' (by simp) ?_;intro av cv w6 hown6 hk6;obtain ⟨⟨⟨p0,p1,p2,p3⟩,pz⟩,⟨⟨r0,r1,r2,r3⟩,rz⟩⟩:=KK.out _ hk6;have pz3:=pz 3;have rz0:=rz 0;have rz1:=rz 1;have rz2:=rz 2;have rz3:=rz 3;have O6:=aA hown6;have K6:=aA hk6;clear pz rz hown6 hk6)
   have BB6:=aA ((aB BW5.out (aC (WD.setCell ⟨be,1,none⟩ (.int .i64 2)) (.cells #[] 2))).trans (K6.out.below (B:=w.heap.size) (by have:=(aB BW5.out (aC (WD.setCell ⟨be,1,none⟩ (.int .i64 2)) (.cells #[] 2))).size;omega) (fun k hk hS=>by omega)))
   rw[HAS.out];refine bodyPost_ret (v:=.tuple #[.agg #[.string (str e2.path),.int .i64 2,.int .i64 e2.size,.slice av e2.chunks.length cv],.bool true]) (by simp[results,Tryz.results268,go_sem,r0,r1,r2,r3]) rfl ⟨av,cv,rfl,?_,?_⟩
   ·refine aW (base:=WD.heap.size) ?_ (by omega)
    refine aK (S:=fun b=>b=be∨b=w.heap.size) (by simpa using O6.out) ?_ (fun b hb hS=>by have:=(O6.out.lt b hb).1;omega)
    exact aE.setCell (S:=fun b=>b=be∨b=w.heap.size) (p:=⟨w.heap.size,3,none⟩) (aE.setCell (S:=fun b=>b=be∨b=w.heap.size) (p:=⟨w.heap.size,2,none⟩) (aE.setCell (S:=fun b=>b=be∨b=w.heap.size) (p:=⟨w.heap.size,1,none⟩) (aE.setCell (S:=fun b=>b=be∨b=w.heap.size) (p:=⟨w.heap.size,0,none⟩) (aE.setCell (S:=fun b=>b=be∨b=w.heap.size) (p:=⟨be,3,none⟩) (aE.refl _ _) (fun _=>.inl rfl) _) (fun _=>.inr rfl) _) (fun _=>.inr rfl) _) (fun _=>.inr rfl) _) (fun _=>.inr rfl) _
   ·exact ((((BB6.out.setCell (p:=⟨be,3,none⟩) (by show w.heap.size≤be;omega) _).setCell (p:=⟨w.heap.size,0,none⟩) (Nat.le_refl _) _).setCell (p:=⟨w.heap.size,1,none⟩) (Nat.le_refl _) _).setCell (p:=⟨w.heap.size,2,none⟩) (Nat.le_refl _) _).setCell (p:=⟨w.heap.size,3,none⟩) (Nat.le_refl _) _
  ·have h4':(e2.kind==4)=false:=by simpa using h4k
   have HAS:=aA (show asT e2=⟨e2.path,e2.kind,e2.size,e2.chunks⟩ from by unfold asT;rw[if_neg h4k])
   clear h4k;have XE5:=XE;have XR5:=XR;have BW5:=BD;have OWN0:Hid ((WD.alloc (.cells #[] 2)).ownsRow WD.heap.size 2 1 (.slice (some ⟨WD.heap.size,0,none⟩) 0 0) 0 (([]:List Int).map (Value.int .i64))):=aA (World.ownsRow_made (base:=WD.heap.size) (e:=2) (size:=1) WD #[] 0 (Nat.le_refl _) (Nat.zero_le _) rfl);have RD0:Hid (aZ .i64 (WD.alloc (.cells #[] 2)) y e2.chunks):=aA (HRC.out.below (aB BW5.out (aC _ _)));have XEA:=aA (XE5.out.below (aC WD (.cells #[] 2)));have XRA:=aA (XR5.out.below (aC WD (.cells #[] 2)));have hlE:=XE5.out.1.lt;have hlR:=XR5.out.1.lt
   have KK:Hid (∀ W6:World,aE (fun b=>b=WD.heap.size) (WD.alloc (.cells #[] 2)) W6→gX W6 be (.string (str e2.path)) (.int .i64 e2.kind) (.int .i64 e2.size) (.slice y e2.chunks.length yc)∧gX W6 w.heap.size (.string ⟨#[]⟩) (.int .i64 0) (.int .i64 0) (.slice none 0 0)):=aA (fun W6 hk=>⟨XEA.out.kept hk (by omega),XRA.out.kept hk (by omega)⟩)
   clear XEA XRA;go_wp2_with (at_builtin;refine kR rfl (.tmp 30) (.tmp 32) 48 rfl WD.heap.size 2 i0 .i64 8 Tryz.underlying48 hi0 hz0 hz1 hz2 WD.heap.size 0 0 [] rfl OWN0.out y e2.chunks.length yc e2.chunks rfl rfl RD0.out e2.chunks.length (by simp) hm0 hm0' (by simp) ?_;intro av cv w6 hown6 hk6;obtain ⟨⟨⟨p0,p1,p2,p3⟩,pz⟩,⟨⟨r0,r1,r2,r3⟩,rz⟩⟩:=KK.out _ hk6;have pz3:=pz 3;have rz0:=rz 0;have rz1:=rz 1;have rz2:=rz 2;have rz3:=rz 3;have O6:=aA hown6;have K6:=aA hk6;clear pz rz hown6 hk6)
   have BB6:=aA ((aB BW5.out (aC WD (.cells #[] 2))).trans (K6.out.below (B:=w.heap.size) (by have:=(aB BW5.out (aC WD (.cells #[] 2))).size;omega) (fun k hk hS=>by omega)))
   rw[HAS.out];refine bodyPost_ret (v:=.tuple #[.agg #[.string (str e2.path),.int .i64 e2.kind,.int .i64 e2.size,.slice av e2.chunks.length cv],.bool true]) (by simp[results,Tryz.results268,go_sem,r0,r1,r2,r3]) rfl ⟨av,cv,rfl,?_,?_⟩
   ·refine aW (base:=WD.heap.size) ?_ (by omega)
    refine aK (S:=fun b=>b=be∨b=w.heap.size) (by simpa using O6.out) ?_ (fun b hb hS=>by have:=(O6.out.lt b hb).1;omega)
    exact aE.setCell (S:=fun b=>b=be∨b=w.heap.size) (p:=⟨w.heap.size,3,none⟩) (aE.setCell (S:=fun b=>b=be∨b=w.heap.size) (p:=⟨w.heap.size,2,none⟩) (aE.setCell (S:=fun b=>b=be∨b=w.heap.size) (p:=⟨w.heap.size,1,none⟩) (aE.setCell (S:=fun b=>b=be∨b=w.heap.size) (p:=⟨w.heap.size,0,none⟩) (aE.setCell (S:=fun b=>b=be∨b=w.heap.size) (p:=⟨be,3,none⟩) (aE.refl _ _) (fun _=>.inl rfl) _) (fun _=>.inr rfl) _) (fun _=>.inr rfl) _) (fun _=>.inr rfl) _) (fun _=>.inr rfl) _
   ·exact ((((BB6.out.setCell (p:=⟨be,3,none⟩) (by show w.heap.size≤be;omega) _).setCell (p:=⟨w.heap.size,0,none⟩) (Nat.le_refl _) _).setCell (p:=⟨w.heap.size,1,none⟩) (Nat.le_refl _) _).setCell (p:=⟨w.heap.size,2,none⟩) (Nat.le_refl _) _).setCell (p:=⟨w.heap.size,3,none⟩) (Nat.le_refl _) _
def cJ (o:List En) (u:Bs):List En:=if aL o u=none then cZ o (gI u) else o
def gC (U:List En) (e:En):List En:=cZ ((bM e.path).foldl cJ U) e
theorem zbb {es:List En} {e:En} (h:bJ es) (hp:e.path.length≤1048576) (hc:e.chunks.length≤1048576):bJ (cZ es e):=fun x hx=>by
 rcases jC.1 hx with rfl | ⟨hx,-⟩
 ·exact ⟨hp,hc⟩
 ·exact h x hx
theorem zrg (o:List En) (u:Bs):(cJ o u).length≤o.length+1:=by
 unfold cJ;split
 ·rw[zb5];have:=tO o (gI u);omega
 ·omega
theorem zdb {o:List En} {u:Bs} (h:bJ o) (hu:u.length≤1048576):bJ (cJ o u):=by
 unfold cJ;split
 ·exact zbb h hu (by simp[gI])
 ·exact h
theorem zbf (o:List En):∀ us:List Bs,(us.foldl cJ o).length≤o.length+us.length:=by
 intro us
 induction us generalizing o with
 | nil=>simp
 | cons u us ih=>have h1:=ih (cJ o u);have h2:=zrg o u;simp only[List.foldl_cons,List.length_cons];omega
theorem zkh {o:List En} {us:List Bs} {k:Nat} {u:Bs} (h:us[k]?=some u):(us.take (k+1)).foldl cJ o=cJ ((us.take k).foldl cJ o) u:=by rw[rH h,List.foldl_append];rfl
theorem jT (o:Option Addr) (oc on:Nat) (O:List En) (a:Option Addr) (c n:Nat) (U:List En) (e:En) (x:Option Addr) (m cc:Nat) (w:World) (hO:RdE w o O) (hon:on=O.length) (hOl:O.length≤1000) (hOs:bJ O) (h:RdE w a U) (hn:n=U.length) (hl:U.length≤1000) (hs:bJ U) (hp:aG e.path=0) (hm:m=e.chunks.length) (hx:aZ .i64 w x e.chunks) (hpl:e.path.length≤1048576) (hcl:e.chunks.length≤1048576)
  (rep:Int) (V:List En) (hV:(12<(gC U e).length→rep=2∧V=O)∧(¬ 12<(gC U e).length→rep=0∧V=gC U e)) :
  Calls Tryz.prog 269 #[.slice o on oc,.slice a n c,.agg #[.string (str e.path),.int .i64 e.kind,.int .i64 e.size,.slice x m cc]] w (eP 0 rep V w):=by
 subst hn;subst hm;subst hon;have hsz:=aN e.path;have h1:1≤(str e.path).size:=oM (by rw[aV];exact hp)
 have HAB:=aA (show bH (bB (str e.path).data.toList.tail)=bM e.path from by rw[aV,eL hp])
 have hul:=pS e.path;have HUS:=aA (fun u (hu:u∈bM e.path)=>zw5 hp u hu)
 have B0:=aA (aB (aC w (.cells #[.string (str e.path),.int .i64 e.kind,.int .i64 e.size,.slice x e.chunks.length cc] 87)) (aC (w.alloc (.cells #[.string (str e.path),.int .i64 e.kind,.int .i64 e.size,.slice x e.chunks.length cc] 87)) (.cells #[.int .i64 0,.int .i64 0,.slice none 0 0] 267)));have FE0:=aA ((cP.new w (.string (str e.path)) (.int .i64 e.kind) (.int .i64 e.size) (.slice x e.chunks.length cc) 87).below (aC (w.alloc (.cells #[.string (str e.path),.int .i64 e.kind,.int .i64 e.size,.slice x e.chunks.length cc] 87)) (.cells #[.int .i64 0,.int .i64 0,.slice none 0 0] 267)))
 have X0:=aA (dE.new (w.alloc (.cells #[.string (str e.path),.int .i64 e.kind,.int .i64 e.size,.slice x e.chunks.length cc] 87)) (.int .i64 0) (.int .i64 0) (.slice none 0 0) 267);have hsA:(w.alloc (.cells #[.string (str e.path),.int .i64 e.kind,.int .i64 e.size,.slice x e.chunks.length cc] 87)).heap.size=w.heap.size+1:=by simp
 rw[hsA]at X0;have HC:=aA (iA a c U.length U _ (h.below B0.out) rfl (by omega) hs)
 have HRO:=aA hO;have HOS:=aA hOs;have HX:=aA hx;have HS:=aA hs;have HFS:=aA (show gC U e=cZ ((bM e.path).foldl cJ U) e from rfl)
 have HV:=aA hV;clear hO hOs h hs hx hsA hV hp;generalize bM e.path=ups at *;generalize gC U e=FS at *;go_enter Tryz.func269,Tryz.ntmps269;go_wp2_with fail
 generalize hW0:(w.alloc (.cells #[.string (str e.path),.int .i64 e.kind,.int .i64 e.size,.slice x e.chunks.length cc] 87)).alloc (.cells #[.int .i64 0,.int .i64 0,.slice none 0 0] 267)=W0 at *;have hs0:W0.heap.size=w.heap.size+2:=by rw[←hW0];simp
 clear hW0;have hlt0:=X0.out.lt;refine HC.out.mono ?_;rintro r w1 ⟨g1,cv1,rfl,-,hG1,hb1⟩;have G1:=aA (GW.of hG1);have hs1:=hb1.size;have B1:=aA (aB B0.out hb1);have FE1:=aA (FE0.out.below hb1);have X1:=aA (X0.out.below hb1);clear hG1 hb1 HC FE0 X0;have f0:=FE1.out.1;go_wp2_with fail
 clear f0;refine (nH (str e.path) _ h1 (by omega)).mono ?_
 rintro r w2 ⟨v,rfl,ho2,hb2⟩;rw[HAB.out]at ho2;obtain ⟨uv,uc,rfl⟩:=aR ho2;have RU:=aA (bR.reads ho2);have G2:=aA ((G1.out.below hb2).mono (B':=w.heap.size+2) (by omega))
 have hs2:=hb2.size;have B2:=aA (aB B1.out hb2);have FE2:=aA (FE1.out.below hb2);have X2:=aA (X1.out.below hb2);clear ho2 hb2 G1 FE1 X1 B1 HAB;go_wp2_with fail
 go_loopw [7,9] (fun v i wr=>∃ (k:Nat) (av:Option Addr) (cv:Nat),k≤ups.length∧i=.int .i64 k∧v=.slice av ((ups.take k).foldl cJ U).length cv∧Hid (GW (w.heap.size+2) wr (.slice av ((ups.take k).foldl cJ U).length cv) ((ups.take k).foldl cJ U))∧Hid (bJ ((ups.take k).foldl cJ U))∧Hid (Below w2.heap.size w2 wr)) (fun _ i _=>ups.length - (intOf i).toNat)
 case atStart=>exact ⟨0,some ⟨g1,0,none⟩,cv1,Nat.zero_le _,rfl,rfl,G2,HS,aA (Below.refl _ _)⟩
 case round =>
  obtain ⟨k,av,cv,hk,rfl,rfl,HGk,HSk,HW⟩:=hrel;have hkl:=zbf U (ups.take k);have htk:(ups.take k).length≤2:=by rw[List.length_take];omega
  have hws:=HW.out.size;by_cases hlt:k<ups.length
  ·obtain ⟨b,off,u,rfl,hb,hu,c0⟩:=(RU.out.below HW.out).at hlt
   have HFA:=aA (zkh (o:=U) hu);have hus:=HUS.out u (List.mem_of_getElem? hu);have hk0:(0:Int)≤(k:Int):=by omega
   have hk1:(k:Int)<(ups.length:Int):=by omega
   clear hu;obtain ⟨LF,hLF⟩:∃ LF,LF=(ups.take k).foldl cJ U:=⟨_,rfl⟩;rw[←hLF]at HFA HGk HSk hkl ⊢;clear hLF;have HAT:=aA (gU av cv LF.length LF u wr HGk.out.rd rfl (by omega))
   cases ha:atE LF u with
   | none =>
    have HST:=aA (show cJ LF u=cZ LF (gI u) from by rw[cJ,if_pos (gJ ha)])
    have HPU:=aA (nX av cv LF.length LF (gI u) none 0 0 wr HGk.out.rd rfl (by omega) HSk.out rfl (fun hz=>absurd rfl hz) (by show u.length≤1048576;omega) (by simp[gI]))
    have HSN:=aA (zdb HSk.out (show u.length≤1048576 by omega))
    rw[ha,show cD none = -1 from rfl]at HAT
    clear ha;go_wp2_with fail
    refine HAT.out.mono ?_;rintro r w3 ⟨rfl,hw3⟩;have hw4:=hw3.symm;clear hw3;subst hw4;go_wp2_with fail
    refine HPU.out.mono ?_;rintro r w5 ⟨g5,cv5,rfl,hG5,hb5⟩;have G5:=aA ((GW.of hG5).mono (B':=w.heap.size+2) (by omega))
    have B5:=aA (aB HW.out hb5);clear hG5 hb5 HAT HPU;go_wp2_with fail
    go_roundw
    case rel =>
     refine ⟨k+1,some ⟨g5,0,none⟩,cv5,by omega,by go_num,?_,?_,?_,B5⟩
     ·rw[HFA.out,HST.out]
     ·rw[HFA.out,HST.out];exact G5
     ·rw[HFA.out];exact HSN
    case measure=>simp[intOf];omega
   | some q =>
    obtain ⟨e2,-,hf2⟩:=kK ha;have HST:=aA (show cJ LF u=LF from by rw[cJ,if_neg (by rw[hf2];simp)])
    rw[ha,show cD (some q)=(q:Int) from rfl]at HAT
    have hq0:¬ (q:Int)<0:=by omega
    clear ha hf2;go_wp2_with fail
    refine HAT.out.mono ?_;rintro r w3 ⟨rfl,hw3⟩;have hw4:=hw3.symm;clear hw3;subst hw4;go_wp2_with fail
    go_roundw
    case rel =>
     refine ⟨k+1,av,cv,by omega,by go_num,?_,?_,?_,HW⟩
     ·rw[HFA.out,HST.out]
     ·rw[HFA.out,HST.out];exact HGk
     ·rw[HFA.out,HST.out];exact HSk
    case measure=>simp[intOf];omega
  ·have hE:ups.take k=ups:=List.take_of_length_le (by omega)
   rw[hE]at HGk HSk hkl ⊢;clear hE;obtain ⟨LF,hLF⟩:∃ LF,LF=ups.foldl cJ U:=⟨_,rfl⟩;rw[←hLF]at HGk HSk hkl HFS ⊢;clear hLF;have BWr:=aA (aB B2.out HW.out);have hbe:=B2.out.size;have HPU:=aA (nX av cv LF.length LF e x e.chunks.length cc wr HGk.out.rd rfl (by omega) HSk.out rfl (HX.out.below BWr.out) hpl hcl)
   rw[←HFS.out]at HPU;obtain ⟨f0,f1,f2,f3⟩:=FE2.out.below HW.out;go_wp2_with fail
   clear f0 f1 f2 f3;refine HPU.out.mono ?_;rintro r w5 ⟨g5,cv5,rfl,hG5,hb5⟩;have G5:=aA ((GW.of hG5).mono (B':=w.heap.size+2) (by omega))
   have B5:=aA (aB BWr.out hb5);have X5:=aA (X2.out.below (aB HW.out hb5));have hs5:=hb5.size;clear hG5 hb5 HPU;by_cases h12:12<FS.length
   ·obtain ⟨e1,e2⟩:=HV.out.1 h12
    have HE1:=aA e1;have HE2:=aA e2;have h12':(12:Int)<(FS.length:Int):=by omega
    have HRP:=aA (nI o oc O.length O 2 w5 (HRO.out.below B5.out) rfl (by omega) HOS.out)
    clear e1 e2 h12;go_wp2_with fail
    refine HRP.out.mono ?_;rintro r w6 ⟨av6,cv6,rfl,hG6,hb6⟩;have G6:=aA hG6;have B6:=aA (aB B5.out hb6);have hl5:=X5.out.lt;obtain ⟨⟨t0,t1,t2⟩,t3,t4,t5⟩:=X5.out.below hb6;clear hG6 hb6;go_wp2_with fail
    exact bodyPost_ret (v:=.agg #[.int .i64 0,.int .i64 2,.slice av6 O.length cv6]) (by simp[results,Tryz.results269,go_sem,t0,t1,t2]) rfl (by rw[HE1.out,HE2.out];exact eP.of hl5 (by omega) rfl G6.out B6.out)
   ·obtain ⟨e1,e2⟩:=HV.out.2 h12
    have HE1:=aA e1;have HE2:=aA e2;have h12':¬ (12:Int)<(FS.length:Int):=by omega
    have hl5:=X5.out.lt;obtain ⟨⟨t0,t1,t2⟩,t3,t4,t5⟩:=X5.out;clear e1 e2 h12;go_wp2_with fail
    exact bodyPost_ret (v:=.agg #[.int .i64 0,.int .i64 0,.slice (some ⟨g5,0,none⟩) FS.length cv5]) (by simp[results,Tryz.results269,go_sem,t0,t1,t2]) rfl (by rw[HE1.out,HE2.out];exact eP.of (B:=w.heap.size+2) (by omega) (by omega) rfl G5.out B5.out)
end Go.Proofs.YtgaeikgoknoamaaGreat
namespace Go.Proofs.YtgaeikgoknoamaaGreat
theorem zrf {ls:List (List En)} (h:lA ls=0):cL ls=0∧mK ls=aT ls∧(aT ls).length≤40:=by
 by_cases hz:cL ls=0
 ·refine ⟨hz,by rw[mK,if_pos h],?_⟩
  unfold lA at h;rw[if_pos hz]at h;cases hm:vN ls
  ·rw[hm]at h;cases h
  ·have:=(List.all_eq_true.1 hm) ls.length (List.mem_range.2 (by omega))
   rw[List.take_length]at this;exact of_decide_eq_true this
 ·rw[(zh8 hz).1]at h;exact absurd h hz
end Go.Proofs.YtgaeikgoknoamaaGreat
namespace Go.Proofs.YtgaeikgoknoamaaGreat
open Go.RowKit Go.Maps
attribute [local go_sem ↓] Go.wp_at_zero Go.wp_at_succ
theorem sQ {a b:Int} (h:a=b):Ending.returned (.int .i64 a)=.returned (.int .i64 b):=by rw[h]
theorem zog {ls:List (List En)} {p:Bs} (h4:ls.length≤4) (hR:∀ es∈ls,bD es) (hp:aG p=0) (h:aL (aT ls) p=none):kX ls p=none:=by
 rw[xE (kW hR) h4 hp,zk5]at h;cases hs:kX ls p with
 | none=>rfl
 | some i =>
  obtain ⟨-,e,he,-⟩:=qK (show fE (gB ls) p 4=some i from hs)
  rw[hs]at h;simp[he]at h
theorem zpg {ls:List (List En)} {p:Bs} {e:En} (h4:ls.length≤4) (hR:∀ es∈ls,bD es) (hp:aG p=0) (h:aL (aT ls) p=some e):∃ i f,kX ls p=some i∧gB ls i p=some f∧asT f=e:=by
 rw[xE (kW hR) h4 hp,zk5]at h;cases hs:kX ls p with
 | none=>rw[hs]at h;cases h
 | some i =>
  obtain ⟨-,f,hf,-⟩:=qK (show fE (gB ls) p 4=some i from hs)
  rw[hs]at h;simp[hf]at h
  exact ⟨i,f,rfl,hf,h⟩
theorem jN (a:Option Addr) (c n:Nat) (ls:List (List En)) (p:Bs) (w:World) (h:RdL w a ls) (hn:n=ls.length) (h4:ls.length≤4) (hR:∀ es∈ls,bD es) (hp:aG p=0) (hpl:p.length≤1048576) (hs:aL (aT ls) p=none) :
  Calls Tryz.prog 268 #[.slice a n c,.string (str p)] w (zjb w):=zx6 a c n ls p w h hn h4 hR hp hpl (zog h4 hR hp hs)
theorem fL (a:Option Addr) (c n:Nat) (ls:List (List En)) (p:Bs) (w:World) (h:RdL w a ls) (hn:n=ls.length) (h4:ls.length≤4) (hR:∀ es∈ls,bD es) (hp:aG p=0) (hpl:p.length≤1048576) (e:En) (hs:aL (aT ls) p=some e) :
  Calls Tryz.prog 268 #[.slice a n c,.string (str p)] w (zr7 e w):=by
 obtain ⟨i,f,h1,h2,h3⟩:=zpg h4 hR hp hs;have:=zy6 a c n ls p w h hn h4 hR hp hpl i f h1 h2;rwa [h3]at this
theorem iB (a:Option Addr) (c n:Nat) (ls:List (List En)) (p:Bs) (w:World) (h:RdL w a ls) (hn:n=ls.length) (h4:ls.length≤4) (hR:∀ es∈ls,bD es) (hp:aG p=0) (hpl:p.length≤1048576) :
  Calls Tryz.prog 266 #[.slice a n c,.string (str p)] w fun r w'=>r=.returned (.int .i64 (eA (aT ls) p))∧Below w.heap.size w w':=by
 subst hn;have hsz:=aN p;have h1:1≤(str p).size:=oM (by rw[aV];exact hp)
 have HP:=aA (show (bH (bB (str p).data.toList.tail)).getLastD []=aF p from by rw[aV];rfl)
 by_cases hq:aF p=[]
 ·have HE:=aA (tV (es:=aT ls) hq)
  have hs:=(qL (aF p)).trans (decide_eq_true hq);clear hq h hR;generalize eA (aT ls) p=HC at *;go_enter Tryz.func266,Tryz.ntmps266;go_wp2_with fail
  refine (iI _ _ (by omega) (by omega)).mono ?_
  rintro r w1 ⟨rfl,hb⟩;rw[HP.out];have HB:=aA hb;clear hb;go_wp2_with fail
  go_ret
  exact ⟨sQ HE.out.symm,HB.out⟩
 ·have hs:=(qL (aF p)).trans (decide_eq_false hq)
  obtain ⟨hqp,hqb⟩:=dX hp hq;have hql:(aF p).length≤1048576:=by have:=eQ hqb;omega
  cases ha:aL (aT ls) (aF p) with
  | none =>
   have HE:=aA (yT hq ha);have HLK:=aA (fun u (hu:Below w.heap.size w u)=>jN a c ls.length ls (aF p) u (h.below hu) rfl h4 hR hqp hql ha)
   clear hq ha h hR hqp hqb;generalize eA (aT ls) p=HC at *;generalize aF p=PT at *;go_enter Tryz.func266,Tryz.ntmps266;go_wp2_with fail
   refine (iI _ _ (by omega) (by omega)).mono ?_
   rintro r w1 ⟨rfl,hb⟩;rw[HP.out];have HB:=aA hb;clear hb;go_wp2_with fail
   refine (HLK.out w1 HB.out).mono ?_;rintro r w2 ⟨rfl,hb2⟩;have B2:=aA (aB HB.out (aB hb2 (aC w2 (.cells #[.string ⟨#[]⟩,.int .i64 0,.int .i64 0,.slice none 0 0] 87))));clear hb2;go_wp2_with fail
   go_ret
   exact ⟨sQ HE.out.symm,B2.out⟩
  | some e =>
   have HE:Hid (eA (aT ls) p=if e.kind=1 then 9 else 0):=aA (by simp[eA,hq,ha])
   have HLK:=aA (fun u (hu:Below w.heap.size w u)=>fL a c ls.length ls (aF p) u (h.below hu) rfl h4 hR hqp hql e ha)
   clear hq ha h hR hqp hqb;generalize eA (aT ls) p=HC at *;generalize aF p=PT at *;have HD:=aA (Decidable.em (e.kind=1));go_enter Tryz.func266,Tryz.ntmps266;go_wp2_with fail
   refine (iI _ _ (by omega) (by omega)).mono ?_
   rintro r w1 ⟨rfl,hb⟩;rw[HP.out];have HB:=aA hb;clear hb;go_wp2_with fail
   refine (HLK.out w1 HB.out).mono ?_;rintro r w2 ⟨x,xc,rfl,-,hb2⟩;have B2:=aA (aB HB.out (aB hb2 (aC w2 (.cells #[.string (str e.path),.int .i64 e.kind,.int .i64 e.size,.slice x e.chunks.length xc] 87))));obtain ⟨f0,f1,f2,f3⟩:=cP.new w2 (.string (str e.path)) (.int .i64 e.kind) (.int .i64 e.size) (.slice x e.chunks.length xc) 87;clear hb2;by_cases hk:e.kind=1
   ·have HE2:=aA (show HC=9 by rw[HE.out,if_pos hk])
    have hk2:(e.kind==1)=true:=by simpa using hk
    clear hk;go_wp2_with fail
    go_ret
    exact ⟨sQ HE2.out.symm,B2.out⟩
   ·have HE2:=aA (show HC=0 by rw[HE.out,if_neg hk])
    have hk2:(e.kind==1)=false:=by simpa using hk
    clear hk;go_wp2_with fail
    go_ret
    exact ⟨sQ HE2.out.symm,B2.out⟩
def nN (O U:List En) (e:En) (rep:Int) (V:List En):Prop:=(12<(gC U e).length→rep=2∧V=O)∧(¬ 12<(gC U e).length→rep=0∧V=gC U e)
theorem lL (O U:List En) (e:En):∃ rep V,nN O U e rep V:=by
 by_cases h:12<(gC U e).length
 ·exact ⟨2,O,fun _=>⟨rfl,rfl⟩,fun h2=>absurd h h2⟩
 ·exact ⟨0,gC U e,fun h2=>absurd h2 h,fun _=>⟨rfl,rfl⟩⟩
def wrS (T:List En) (p:Bs):Int:=if eA T p=0 then (match aL T p with | some e=>if e.kind=2 then 9 else 0 | none=>0) else eA T p
structure WrS (T U:List En) (p:Bs) (e:En) (rep:Int) (V:List En):Prop where
 no:wrS T p≠0→rep=wrS T p∧V=U
 yes:wrS T p=0→nN U U e rep V
theorem WrS.stay {T U:List En} {p:Bs} {e:En} {q:Int} (h:wrS T p=q) (hq:q≠0):WrS T U p e q U:=⟨fun _=>⟨h.symm,rfl⟩,fun h2=>absurd (h.symm.trans h2) hq⟩
theorem WrS.fill {T U:List En} {p:Bs} {e:En} {rep:Int} {V:List En} (h:wrS T p=0) (hf:nN U U e rep V):WrS T U p e rep V:=⟨fun h2=>absurd h h2,fun _=>hf⟩
def mkS (T:List En) (p:Bs):Int:=if eA T p=0 then (if (aL T p).isSome then 7 else 0) else eA T p
def kB (U:List En) (p:Bs):En:=⟨p,(match aL U p with | some x=>if x.kind=3 then 4 else 2 | none=>2),0,[]⟩
structure MkS (T U:List En) (p:Bs) (rep:Int) (V:List En):Prop where
 no:mkS T p≠0→rep=mkS T p∧V=U
 yes:mkS T p=0→nN U U (kB U p) rep V
theorem MkS.stay {T U:List En} {p:Bs} {q:Int} (h:mkS T p=q) (hq:q≠0):MkS T U p q U:=⟨fun _=>⟨h.symm,rfl⟩,fun h2=>absurd (h.symm.trans h2) hq⟩
theorem MkS.fill {T U:List En} {p:Bs} {rep:Int} {V:List En} (h:mkS T p=0) (hf:nN U U (kB U p) rep V):MkS T U p rep V:=⟨fun h2=>absurd h h2,fun _=>hf⟩
theorem zz6 (a:Option Addr) (c n:Nat) (ls:List (List En)) (u:Option Addr) (uc m:Nat) (U:List En) (p:Bs) (zs:List Int) (d:Option Addr) (dc:Nat) (w:World) (h:RdL w a ls) (hn:n=ls.length) (hU:RdE w u U) (hm:m=U.length) (h4:(ls ++ [U]).length≤4) (hR:∀ es∈ls ++ [U],bD es) (hp:aG p=0) (hpl:p.length≤1048576) (hd:aZ .u8 w d zs) (hu8:U8 zs) (hdc:zs.length≤dc) (hdl:zs.length≤24) :
  Calls Tryz.prog 250 #[.slice a n c,.slice u m uc,.string (str p),.slice d zs.length dc] w fun r w'=>∃ rep V,WrS (aT (ls ++ [U])) U p (dT p zs) rep V∧eP 0 rep V w r w':=by
 subst hn;subst hm;have hRU:bD U:=hR U (by simp)
 have hl4:ls.length≤4:=by rw[List.length_append]at h4;omega
 have hUl:=hRU.len;have HUs:=aA (cS hRU);have HP:=aA hp;have X0:=aA (dE.new w (.int .i64 0) (.int .i64 0) (.slice none 0 0) 267);have B0:=aA (aC w (.cells #[.int .i64 0,.int .i64 0,.slice none 0 0] 267));have HA:=aA (jO a c ls.length ls u uc U.length U _ (h.below B0.out) rfl (by omega) (hU.below B0.out) rfl)
 have HU:=aA hU;have HST:=aA (fun (q:Int) v (hv:Below w.heap.size w v)=>nI u uc U.length U q v (HU.out.below hv) rfl (by omega) HUs.out)
 have HRR:=aA hR;have H4:=aA h4;have HD:=aA hd;have HU8:=aA hu8;clear hd hu8;clear h hU hR hRU hp h4;obtain ⟨al,hal⟩:∃ al,al=ls ++ [U]:=⟨_,rfl⟩;rw[←hal]at HA HRR H4 ⊢;have HALL:=aA hal;clear hal;by_cases hh:eA (aT al) p=0
 ·cases ha:aL (aT al) p with
  | none =>
   have HC:=aA (show wrS (aT al) p=0 by simp[wrS,hh,ha])
   have HFI:=aA (fun v (hv:Below w.heap.size w v)=>sA p d dc zs v (HD.out.below hv) HU8.out hdc hdl)
   obtain ⟨rep,V,hV⟩:=lL U U (dT p zs);have HV:=aA hV;clear hV;go_enter Tryz.func250,Tryz.ntmps250;go_wp2_with fail
   refine HA.out.mono ?_;rintro r w1 ⟨av,cv,rfl,hr1,hb1⟩;have X1:=aA (X0.out.below hb1);have B1:=aA (aB B0.out hb1);have R1:=aA hr1;have hlt:=X1.out.lt;clear hr1 hb1 HA X0 B0;have HHM:=aA (iB av cv _ _ p w1 R1.out rfl H4.out HRR.out HP.out hpl);rw[hh]at HHM;clear hh;go_wp2_with fail
   refine HHM.out.mono ?_;rintro r w2 ⟨rfl,hb2⟩;have X2:=aA (X1.out.below hb2);have B2:=aA (aB B1.out hb2);have R2:=aA (R1.out.below hb2);clear hb2 HHM X1 B1 R1;have HLK:=aA (jN av cv _ _ p w2 R2.out rfl H4.out HRR.out HP.out hpl ha);clear ha;go_wp2_with fail
   refine HLK.out.mono ?_;rintro r w3 ⟨rfl,hb3⟩;have A3:=aA (aC w3 (.cells #[.string ⟨#[]⟩,.int .i64 0,.int .i64 0,.slice none 0 0] 87));have B3:=aA (aB B2.out (aB hb3 A3.out));have X3:=aA (X2.out.below (aB hb3 A3.out));have R3:=aA (R2.out.below (aB hb3 A3.out));obtain ⟨f0,f1,f2,f3⟩:=cP.new w3 (.string ⟨#[]⟩) (.int .i64 0) (.int .i64 0) (.slice none 0 0) 87;clear hb3 A3 HLK X2 B2 R2;go_wp2_with fail
   clear f0 f1 f2 f3;generalize w3.alloc (.cells #[.string ⟨#[]⟩,.int .i64 0,.int .i64 0,.slice none 0 0] 87)=W3 at *;refine (HFI.out W3 B3.out).mono ?_;rintro r w4 ⟨yv,yc,rfl,hO4,hb4⟩;have B4:=aA (aB B3.out hb4);have X4:=aA (X3.out.below hb4);have HFL:=aA (jT u uc U.length U u uc U.length U (dT p zs) yv (cut zs).length yc w4 (HU.out.below B4.out) rfl (by omega) HUs.out (HU.out.below B4.out) rfl (by omega) HUs.out HP.out (jR zs).symm (cY hO4 (jR zs).symm) hpl (by show (lK zs (cut zs).length).length≤1048576;rw[jR,kS];omega) rep V HV.out)
   rw[show (dT p zs).path=p from rfl,show (dT p zs).kind=1 from rfl,show (dT p zs).size=zs.length from rfl]at HFL
   clear hO4 hb4 X3 B3;go_wp2_with fail
   refine HFL.out.mono ?_;rintro r w9 ⟨av9,cv9,rfl,hG9,hb9⟩;have G9:=aA hG9;have B9:=aA (aB B4.out hb9);have hl9:=X4.out.lt;obtain ⟨⟨t0,t1,t2⟩,t3,t4,t5⟩:=X4.out.below hb9;clear hG9 hb9;go_wp2_with fail
   exact bodyPost_ret (v:=.agg #[.int .i64 0,.int .i64 rep,.slice av9 V.length cv9]) (by simp[results,Tryz.results250,go_sem,t0,t1,t2]) rfl ⟨rep,V,WrS.fill HC.out HV.out,eP.of hl9 (Nat.le_refl _) rfl G9.out B9.out⟩
  | some e =>
   by_cases hk:e.kind=2
   ·have HC:=aA (show wrS (aT al) p=9 by simp[wrS,hh,ha,hk])
    have hk2:(e.kind==2)=true:=by simpa using hk
    clear hk;go_enter Tryz.func250,Tryz.ntmps250;go_wp2_with fail
    refine HA.out.mono ?_;rintro r w1 ⟨av,cv,rfl,hr1,hb1⟩;have X1:=aA (X0.out.below hb1);have B1:=aA (aB B0.out hb1);have R1:=aA hr1;have hlt:=X1.out.lt;clear hr1 hb1 HA X0 B0;have HHM:=aA (iB av cv _ _ p w1 R1.out rfl H4.out HRR.out HP.out hpl);rw[hh]at HHM;clear hh;go_wp2_with fail
    refine HHM.out.mono ?_;rintro r w2 ⟨rfl,hb2⟩;have X2:=aA (X1.out.below hb2);have B2:=aA (aB B1.out hb2);have R2:=aA (R1.out.below hb2);clear hb2 HHM X1 B1 R1;have HLK:=aA (fL av cv _ _ p w2 R2.out rfl H4.out HRR.out HP.out hpl e ha);clear ha;go_wp2_with fail
    refine HLK.out.mono ?_;rintro r w3 ⟨x,xc,rfl,-,hb3⟩;have A3:=aA (aC w3 (.cells #[.string (str e.path),.int .i64 e.kind,.int .i64 e.size,.slice x e.chunks.length xc] 87));have B3:=aA (aB B2.out (aB hb3 A3.out));have X3:=aA (X2.out.below (aB hb3 A3.out));have R3:=aA (R2.out.below (aB hb3 A3.out));obtain ⟨f0,f1,f2,f3⟩:=cP.new w3 (.string (str e.path)) (.int .i64 e.kind) (.int .i64 e.size) (.slice x e.chunks.length xc) 87;clear hb3 A3 HLK X2 B2 R2;go_wp2_with fail
    clear f0 f1 f2 f3;generalize w3.alloc (.cells #[.string (str e.path),.int .i64 e.kind,.int .i64 e.size,.slice x e.chunks.length xc] 87)=W3 at *;refine (HST.out 9 W3 B3.out).mono ?_;rintro r w9 ⟨av9,cv9,rfl,hG9,hb9⟩;have G9:=aA hG9;have B9:=aA (aB B3.out hb9);have hl9:=X3.out.lt;obtain ⟨⟨t0,t1,t2⟩,t3,t4,t5⟩:=X3.out.below hb9;clear hG9 hb9;go_wp2_with fail
    exact bodyPost_ret (v:=.agg #[.int .i64 0,.int .i64 9,.slice av9 U.length cv9]) (by simp[results,Tryz.results250,go_sem,t0,t1,t2]) rfl ⟨9,U,WrS.stay HC.out (by decide),eP.of hl9 (Nat.le_refl _) rfl G9.out B9.out⟩
   ·have HC:=aA (show wrS (aT al) p=0 by simp[wrS,hh,ha,hk])
    have hk2:(e.kind==2)=false:=by simpa using hk
    clear hk;have HFI:=aA (fun v (hv:Below w.heap.size w v)=>sA p d dc zs v (HD.out.below hv) HU8.out hdc hdl)
    obtain ⟨rep,V,hV⟩:=lL U U (dT p zs);have HV:=aA hV;clear hV;go_enter Tryz.func250,Tryz.ntmps250;go_wp2_with fail
    refine HA.out.mono ?_;rintro r w1 ⟨av,cv,rfl,hr1,hb1⟩;have X1:=aA (X0.out.below hb1);have B1:=aA (aB B0.out hb1);have R1:=aA hr1;have hlt:=X1.out.lt;clear hr1 hb1 HA X0 B0;have HHM:=aA (iB av cv _ _ p w1 R1.out rfl H4.out HRR.out HP.out hpl);rw[hh]at HHM;clear hh;go_wp2_with fail
    refine HHM.out.mono ?_;rintro r w2 ⟨rfl,hb2⟩;have X2:=aA (X1.out.below hb2);have B2:=aA (aB B1.out hb2);have R2:=aA (R1.out.below hb2);clear hb2 HHM X1 B1 R1;have HLK:=aA (fL av cv _ _ p w2 R2.out rfl H4.out HRR.out HP.out hpl e ha);clear ha;go_wp2_with fail
    refine HLK.out.mono ?_;rintro r w3 ⟨x,xc,rfl,-,hb3⟩;have A3:=aA (aC w3 (.cells #[.string (str e.path),.int .i64 e.kind,.int .i64 e.size,.slice x e.chunks.length xc] 87));have B3:=aA (aB B2.out (aB hb3 A3.out));have X3:=aA (X2.out.below (aB hb3 A3.out));have R3:=aA (R2.out.below (aB hb3 A3.out));obtain ⟨f0,f1,f2,f3⟩:=cP.new w3 (.string (str e.path)) (.int .i64 e.kind) (.int .i64 e.size) (.slice x e.chunks.length xc) 87;clear hb3 A3 HLK X2 B2 R2;go_wp2_with fail
    clear f0 f1 f2 f3;generalize w3.alloc (.cells #[.string (str e.path),.int .i64 e.kind,.int .i64 e.size,.slice x e.chunks.length xc] 87)=W3 at *;refine (HFI.out W3 B3.out).mono ?_;rintro r w4 ⟨yv,yc,rfl,hO4,hb4⟩;have B4:=aA (aB B3.out hb4);have X4:=aA (X3.out.below hb4);have HFL:=aA (jT u uc U.length U u uc U.length U (dT p zs) yv (cut zs).length yc w4 (HU.out.below B4.out) rfl (by omega) HUs.out (HU.out.below B4.out) rfl (by omega) HUs.out HP.out (jR zs).symm (cY hO4 (jR zs).symm) hpl (by show (lK zs (cut zs).length).length≤1048576;rw[jR,kS];omega) rep V HV.out)
    rw[show (dT p zs).path=p from rfl,show (dT p zs).kind=1 from rfl,show (dT p zs).size=zs.length from rfl]at HFL
    clear hO4 hb4 X3 B3;go_wp2_with fail
    refine HFL.out.mono ?_;rintro r w9 ⟨av9,cv9,rfl,hG9,hb9⟩;have G9:=aA hG9;have B9:=aA (aB B4.out hb9);have hl9:=X4.out.lt;obtain ⟨⟨t0,t1,t2⟩,t3,t4,t5⟩:=X4.out.below hb9;clear hG9 hb9;go_wp2_with fail
    exact bodyPost_ret (v:=.agg #[.int .i64 0,.int .i64 rep,.slice av9 V.length cv9]) (by simp[results,Tryz.results250,go_sem,t0,t1,t2]) rfl ⟨rep,V,WrS.fill HC.out HV.out,eP.of hl9 (Nat.le_refl _) rfl G9.out B9.out⟩
 ·have HC:=aA (show wrS (aT al) p=eA (aT al) p by simp[wrS,hh])
  have HH0:=aA hh;obtain ⟨F,hF⟩:∃ F,F=eA (aT al) p:=⟨_,rfl⟩;rw[←hF]at HC HH0;have HFE:=aA hF;have hz2:(F != 0)=true:=by simp;exact HH0.out
  clear hh hF;go_enter Tryz.func250,Tryz.ntmps250;go_wp2_with fail
  refine HA.out.mono ?_;rintro r w1 ⟨av,cv,rfl,hr1,hb1⟩;have X1:=aA (X0.out.below hb1);have B1:=aA (aB B0.out hb1);have R1:=aA hr1;have hlt:=X1.out.lt;clear hr1 hb1 HA X0 B0;have HHM:=aA (iB av cv _ _ p w1 R1.out rfl H4.out HRR.out HP.out hpl);rw[←HFE.out]at HHM;go_wp2_with fail
  refine HHM.out.mono ?_;rintro r w2 ⟨rfl,hb2⟩;have X2:=aA (X1.out.below hb2);have B2:=aA (aB B1.out hb2);have R2:=aA (R1.out.below hb2);clear hb2 HHM X1 B1 R1;go_wp2_with fail
  refine (HST.out F w2 B2.out).mono ?_;rintro r w9 ⟨av9,cv9,rfl,hG9,hb9⟩;have G9:=aA hG9;have B9:=aA (aB B2.out hb9);have hl9:=X2.out.lt;obtain ⟨⟨t0,t1,t2⟩,t3,t4,t5⟩:=X2.out.below hb9;clear hG9 hb9;go_wp2_with fail
  exact bodyPost_ret (v:=.agg #[.int .i64 0,.int .i64 F,.slice av9 U.length cv9]) (by simp[results,Tryz.results250,go_sem,t0,t1,t2]) rfl ⟨F,U,WrS.stay HC.out HH0.out,eP.of hl9 (Nat.le_refl _) rfl G9.out B9.out⟩
end Go.Proofs.YtgaeikgoknoamaaGreat
