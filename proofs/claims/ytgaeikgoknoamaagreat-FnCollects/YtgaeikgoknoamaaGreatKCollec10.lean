/-
  Texts put together: DrawG DrawJ DrawH.
-/
import Derived.Test.YtgaeikgoknoamaaGreatKCollec9
import Derived.Test.YtgaeikgoknoamaaGreatKCollec6
import Derived.Deep.RegionLaw
import Derived.Deep.RegionWith
set_option linter.unusedVariables false
set_option maxHeartbeats 6400000
set_option maxRecDepth 100000
namespace Go.Proofs.YtgaeikgoknoamaaGreat
open Go.RowKit Go.Maps
attribute [local go_sem ↓] Go.wp_at_zero Go.wp_at_succ
theorem mS.kept {S:Nat→Prop} {w w':World} {b:Nat} {u0 u1 u2 u3:Value} (h:mS w b u0 u1 u2 u3) (hk:aE S w w') (hn:¬ S b):mS w' b u0 u1 u2 u3 :=
 ⟨⟨(hk.cell (p:=⟨b,0,none⟩) h.1.lt hn).trans h.1.1,(hk.cell (p:=⟨b,1,none⟩) h.1.lt hn).trans h.1.2.1,(hk.cell (p:=⟨b,2,none⟩) h.1.lt hn).trans h.1.2.2.1,(hk.cell (p:=⟨b,3,none⟩) h.1.lt hn).trans h.1.2.2.2⟩,fun i=>(hk.frozen (p:=⟨b,i,none⟩) h.1.lt hn).trans (h.2 i)⟩
theorem wI (p:Nat) (zs:List Int) (T:Int) (w:World) (h:dH w p zs T) (hu:U8 zs) (hT:T≤700000) (hl:zs.length≤2097152) :
  Calls Tryz.prog 187 #[.pointer (some ⟨p,0,none⟩)] w (zib w p zs (T+30) (fun e=>aH e=0∧e.path.length≤9)):=by
 have hp:=h.lt;have X0:=aA (mS.new w (.string ⟨#[]⟩) (.int .i64 0) (.int .i64 0) (.slice none 0 0) 87);have S0:=aA (h.below (aC w (.cells #[.string ⟨#[]⟩,.int .i64 0,.int .i64 0,.slice none 0 0] 87)));have K0:=aA ((aE.refl (fun b=>b=p) w).alloc (.cells #[.string ⟨#[]⟩,.int .i64 0,.int .i64 0,.slice none 0 0] 87))
 have HU:=aA hu;clear h hu;go_enter Tryz.func187,Tryz.ntmps187;go_wp2_with fail
 refine (zz4 p zs T _ S0.out HU.out (by omega) hl).mono ?_
 rintro r w1 ⟨x,rfl,hf,hxl,s1,k1⟩;have S1:=aA s1;have K1:=aA (K0.out.trans k1);have X1:=aA (X0.out.kept k1 (by omega))
 have HF:=aA hf;clear s1 k1 hf X0 S0 K0;go_wp2_with fail
 refine (eZ p zs _ 7 _ S1.out HU.out (by omega) (by decide) (by decide) hl).mono ?_
 rintro r w2 ⟨i,rfl,hi,s2,k2⟩;have S2:=aA s2;have K2:=aA (K1.out.trans k2);have X2:=aA (X1.out.kept k2 (by omega))
 have hw2:w.heap.size<w2.heap.size:=X2.out.1.lt;clear s2 k2 S1 K1 X1;by_cases h0:i=0
 ·subst h0
  ·obtain ⟨⟨q0,q1,q2,q3⟩,qf⟩:=X2.out
   have qf0:=qf 0;have qf1:=qf 1;have qf2:=qf 2;have qf3:=qf 3;go_wp2_with fail
   have hk:aE (fun b=>b=w.heap.size) w2 ((((w2.setCell ⟨w.heap.size,0,none⟩ (.string (str x))).setCell ⟨w.heap.size,1,none⟩ (.int .i64 3)).setCell ⟨w.heap.size,2,none⟩ (.int .i64 0)).setCell ⟨w.heap.size,3,none⟩ (.slice none 0 0)):=aE.setCell (S:=fun b=>b=w.heap.size) (p:=⟨w.heap.size,3,none⟩) (aE.setCell (S:=fun b=>b=w.heap.size) (p:=⟨w.heap.size,2,none⟩) (aE.two _ _ _ _ _ _) (fun _=>rfl) _) (fun _=>rfl) _
   exact bodyPost_ret (v:=.agg #[.string (str x),.int .i64 3,.int .i64 0,.slice none 0 0]) (by simp[results,Tryz.results187,go_sem,q0,q1,q2,q3]) rfl ⟨⟨x,3,0,[]⟩,none,0,rfl,⟨mF HF.out (by decide),hxl⟩,World.ownsRow_nil _ _ _ _,(S2.out.kept hk (fun b hb e=>by omega)).mono (by omega),K2.out.trans_own hk (fun b hb e=>by omega)⟩
 ·by_cases h1:i=1
  ·subst h1
   obtain ⟨⟨q0,q1,q2,q3⟩,qf⟩:=X2.out;have qf0:=qf 0;have qf1:=qf 1;have qf2:=qf 2;have qf3:=qf 3;go_wp2_with fail
   have hk:aE (fun b=>b=w.heap.size) w2 ((((w2.setCell ⟨w.heap.size,0,none⟩ (.string (str x))).setCell ⟨w.heap.size,1,none⟩ (.int .i64 4)).setCell ⟨w.heap.size,2,none⟩ (.int .i64 0)).setCell ⟨w.heap.size,3,none⟩ (.slice none 0 0)):=aE.setCell (S:=fun b=>b=w.heap.size) (p:=⟨w.heap.size,3,none⟩) (aE.setCell (S:=fun b=>b=w.heap.size) (p:=⟨w.heap.size,2,none⟩) (aE.two _ _ _ _ _ _) (fun _=>rfl) _) (fun _=>rfl) _
   exact bodyPost_ret (v:=.agg #[.string (str x),.int .i64 4,.int .i64 0,.slice none 0 0]) (by simp[results,Tryz.results187,go_sem,q0,q1,q2,q3]) rfl ⟨⟨x,4,0,[]⟩,none,0,rfl,⟨mF HF.out (by decide),hxl⟩,World.ownsRow_nil _ _ _ _,(S2.out.kept hk (fun b hb e=>by omega)).mono (by omega),K2.out.trans_own hk (fun b hb e=>by omega)⟩
  ·by_cases h2:i=2∨i=3
   ·rcases h2 with rfl | rfl
    ·obtain ⟨⟨q0,q1,q2,q3⟩,qf⟩:=X2.out
     have qf0:=qf 0;have qf1:=qf 1;have qf2:=qf 2;have qf3:=qf 3;go_wp2_with fail
     have hk:aE (fun b=>b=w.heap.size) w2 ((((w2.setCell ⟨w.heap.size,0,none⟩ (.string (str x))).setCell ⟨w.heap.size,1,none⟩ (.int .i64 2)).setCell ⟨w.heap.size,2,none⟩ (.int .i64 0)).setCell ⟨w.heap.size,3,none⟩ (.slice none 0 0)):=aE.setCell (S:=fun b=>b=w.heap.size) (p:=⟨w.heap.size,3,none⟩) (aE.setCell (S:=fun b=>b=w.heap.size) (p:=⟨w.heap.size,2,none⟩) (aE.two _ _ _ _ _ _) (fun _=>rfl) _) (fun _=>rfl) _
     exact bodyPost_ret (v:=.agg #[.string (str x),.int .i64 2,.int .i64 0,.slice none 0 0]) (by simp[results,Tryz.results187,go_sem,q0,q1,q2,q3]) rfl ⟨⟨x,2,0,[]⟩,none,0,rfl,⟨mF HF.out (by decide),hxl⟩,World.ownsRow_nil _ _ _ _,(S2.out.kept hk (fun b hb e=>by omega)).mono (by omega),K2.out.trans_own hk (fun b hb e=>by omega)⟩
    ·obtain ⟨⟨q0,q1,q2,q3⟩,qf⟩:=X2.out
     have qf0:=qf 0;have qf1:=qf 1;have qf2:=qf 2;have qf3:=qf 3;go_wp2_with fail
     have hk:aE (fun b=>b=w.heap.size) w2 ((((w2.setCell ⟨w.heap.size,0,none⟩ (.string (str x))).setCell ⟨w.heap.size,1,none⟩ (.int .i64 2)).setCell ⟨w.heap.size,2,none⟩ (.int .i64 0)).setCell ⟨w.heap.size,3,none⟩ (.slice none 0 0)):=aE.setCell (S:=fun b=>b=w.heap.size) (p:=⟨w.heap.size,3,none⟩) (aE.setCell (S:=fun b=>b=w.heap.size) (p:=⟨w.heap.size,2,none⟩) (aE.two _ _ _ _ _ _) (fun _=>rfl) _) (fun _=>rfl) _
     exact bodyPost_ret (v:=.agg #[.string (str x),.int .i64 2,.int .i64 0,.slice none 0 0]) (by simp[results,Tryz.results187,go_sem,q0,q1,q2,q3]) rfl ⟨⟨x,2,0,[]⟩,none,0,rfl,⟨mF HF.out (by decide),hxl⟩,World.ownsRow_nil _ _ _ _,(S2.out.kept hk (fun b hb e=>by omega)).mono (by omega),K2.out.trans_own hk (fun b hb e=>by omega)⟩
   ·have e0:((i:Int)==0)=false:=by simp;omega
    have e1:((i:Int)==1)=false:=by simp;omega
    have e2:((i:Int)==2)=false:=by simp;omega
    have e3:((i:Int)==3)=false:=by simp;omega
    clear h0 h1 h2;go_wp2_with fail
    refine (eZ p zs _ 14 _ S2.out HU.out (by omega) (by decide) (by decide) hl).mono ?_
    rintro r w3 ⟨j,rfl,hj,s3,k3⟩;have S3:=aA s3;have K3:=aA (K2.out.trans k3);have X3:=aA (X2.out.kept k3 (by omega))
    clear s3 k3 S2 K2 X2;go_wp2_with fail
    refine (zce p j zs _ _ S3.out HU.out (by omega) hl (by omega)).mono ?_
    rintro r w4 ⟨da,dc,ds,rfl,hdl,hdu,ho4,s4,k4⟩;subst hdl;have RD:=aA (cY ho4 rfl);have hcap:=nJ ho4;have S4:=aA s4;have K4:=aA (K3.out.trans k4);have X4:=aA (X3.out.kept k4 (by omega))
    have DU:=aA hdu;clear s4 k4 S3 K3 X3 ho4 hdu;go_wp2_with fail
    refine (sA x da dc ds _ RD.out DU.out hcap (by omega)).mono ?_
    rintro r w5 ⟨av,cv,rfl,ho5,hb5⟩;have hls:=jR ds;have S5:=aA (S4.out.below hb5);have K5:=aA (K4.out.trans (aE.of_below hb5));obtain ⟨⟨q0,q1,q2,q3⟩,qf⟩:=X4.out.below hb5;have qf0:=qf 0;have qf1:=qf 1;have qf2:=qf 2;have qf3:=qf 3;have O5:=aA ho5;have hw4:w.heap.size<w4.heap.size:=X4.out.1.lt;clear ho5 hb5 S4 K4 X4 qf;go_wp2_with fail
    have hk:aE (fun b=>b=w.heap.size) w5 ((((w5.setCell ⟨w.heap.size,0,none⟩ (.string (str x))).setCell ⟨w.heap.size,1,none⟩ (.int .i64 1)).setCell ⟨w.heap.size,2,none⟩ (.int .i64 ds.length)).setCell ⟨w.heap.size,3,none⟩ (.slice av (cut ds).length cv)):=aE.setCell (S:=fun b=>b=w.heap.size) (p:=⟨w.heap.size,3,none⟩) (aE.setCell (S:=fun b=>b=w.heap.size) (p:=⟨w.heap.size,2,none⟩) (aE.two _ _ _ _ _ _) (fun _=>rfl) _) (fun _=>rfl) _
    refine bodyPost_ret (v:=.agg #[.string (str x),.int .i64 1,.int .i64 ds.length,.slice av (cut ds).length cv]) (by simp[results,Tryz.results187,go_sem,q0,q1,q2,q3]) rfl ⟨dT x ds,av,cv,by rw[show (dT x ds).chunks.length=(cut ds).length from hls];rfl,⟨zi9 HF.out (by omega),hxl⟩,?_,(S5.out.kept hk (fun b hb e=>by omega)).mono (by omega),K5.out.trans_own hk (fun b hb e=>by omega)⟩
    rw[show (dT x ds).chunks.length=(cut ds).length from hls]
    exact aW (aK O5.out hk (fun b hb hS=>by have:=(O5.out.lt b hb).1;omega)) (by omega)
theorem zv7 (w:World) (a b c:Int) (t:TypeId):∀ i,i<3→(w.alloc (.cells #[.int .i64 a,.int .i64 b,.int .i64 c] t)).cell? ⟨w.heap.size,i,none⟩=some (.int .i64 ([a,b,c].getD i 0)):=by
 intro i hi
 match i,hi with
 | 0,_ | 1,_ | 2,_=>simp
theorem zch (w:World) (a b:Int) (t:TypeId):∀ i,i<2→(w.alloc (.cells #[.int .i64 a,.int .i64 b] t)).cell? ⟨w.heap.size,i,none⟩=some (.int .i64 ([a,b].getD i 0)):=by
 intro i hi
 match i,hi with
 | 0,_ | 1,_=>simp
theorem zvf {w:World} {H:Nat} {u:Value} {t:TypeId} (hH:w.heap.size=H):∀ j x,[u][j]?=some x→(w.alloc (.cells #[u] t)).cell? ((⟨H,0,none⟩:Addr).add j)=some x:=by
 subst hH;intro j x hj;rw[eK,Nat.zero_add,cell_of_row _ w.heap.size j #[u] t (0,0) (heap_alloc_new w _)];simpa using hj
theorem wG (p:Nat) (zs:List Int) (T:Int) (w:World) (h:dH w p zs T) (hu:U8 zs) (hT:T≤600000) (hl:zs.length≤2097152) :
  Calls Tryz.prog 152 #[.pointer (some ⟨p,0,none⟩)] w (zib w p zs (T+40) (fun e=>e.path.length≤9∧e.chunks.length≤4)):=by
 obtain ⟨i0,hi0,hz0,hz1,hz2⟩:=info_parts Tryz.infoI64;have hp:=h.lt;have X0:=aA (mS.new w (.string ⟨#[]⟩) (.int .i64 0) (.int .i64 0) (.slice none 0 0) 87);have S0:=aA (h.below (aC w (.cells #[.string ⟨#[]⟩,.int .i64 0,.int .i64 0,.slice none 0 0] 87)));have K0:=aA ((aE.refl (fun b=>b=p) w).alloc (.cells #[.string ⟨#[]⟩,.int .i64 0,.int .i64 0,.slice none 0 0] 87))
 have HU:=aA hu;have hsw:(w.alloc (.cells #[.string ⟨#[]⟩,.int .i64 0,.int .i64 0,.slice none 0 0] 87)).heap.size=w.heap.size+1:=by simp
 clear h hu;go_enter Tryz.func152,Tryz.ntmps152;go_wp2_with fail
 refine (wI p zs T _ S0.out HU.out (by omega) hl).mono ?_
 rintro r w1 ⟨e,a,c,rfl,⟨hef,hxl⟩,ho1,s1,k1⟩;rw[hsw]at ho1;have hc5:e.chunks.length≤3:=fK hef;have hc3:e.chunks.length≤4:=by omega
 have hw1:w.heap.size<w1.heap.size:=by have:=k1.size;omega
 have AE:=aA (aC w1 (.cells #[.string (str e.path),.int .i64 e.kind,.int .i64 e.size,.slice a e.chunks.length c] 87));have S1:=aA (s1.below AE.out);have K1:=aA ((K0.out.trans k1).alloc (.cells #[.string (str e.path),.int .i64 e.kind,.int .i64 e.size,.slice a e.chunks.length c] 87));have X1:=aA ((X0.out.kept k1 (by omega)).below AE.out)
 have E1:=aA (mS.new w1 (.string (str e.path)) (.int .i64 e.kind) (.int .i64 e.size) (.slice a e.chunks.length c) 87);have O1:=aA (aJ ho1 AE.out);have OL:=aA (fun b hb=>ho1.lt b hb)
 clear s1 k1 hef X0 S0 K0 ho1 hsw AE;go_wp2_with fail
 generalize w1.alloc (.cells #[.string (str e.path),.int .i64 e.kind,.int .i64 e.size,.slice a e.chunks.length c] 87)=W1 at *;obtain ⟨b1,hb1⟩:∃ b1,b1=w1.heap.size:=⟨_,rfl⟩;rw[←hb1]at E1 OL hw1 ⊢;clear hb1;refine (eZ p zs _ 12 _ S1.out HU.out (by omega) (by decide) (by decide) hl).mono ?_
 rintro r w2 ⟨i,rfl,hi,s2,k2⟩;have S2:=aA s2;have K2:=aA (K1.out.trans k2);have E2:=aA (E1.out.kept k2 (by omega))
 have X2:=aA (X1.out.kept k2 (by omega))
 have O2:=aA (aK O1.out k2 (fun b hb e=>by have:=O1.out.lt b hb;omega))
 clear s2 k2 S1 K1 X1 O1 E1;by_cases h0:i=0
 ·subst h0
  ·go_wp2_with fail
   refine (zci p zs _ _ S2.out HU.out (by omega) hl).mono ?_
   rintro r w3 ⟨y,rfl,hyl,s3,k3⟩;have K2':=K2;have E2':=E2;have X2':=X2;have O2':=O2;have S3:=aA s3;have K3:=aA (K2'.out.trans k3);have E3:=aA (E2'.out.kept k3 (by omega))
   have X3:=aA (X2'.out.kept k3 (by omega))
   have O3:=aA (aK O2'.out k3 (fun b hb e=>by have:=O2'.out.lt b hb;omega))
   clear s3 k3;obtain ⟨⟨p0,p1,p2,p3⟩,pf⟩:=E3.out;obtain ⟨⟨q0,q1,q2,q3⟩,qf⟩:=X3.out;have pf0:=pf 0;have pf1:=pf 1;have pf2:=pf 2;have pf3:=pf 3;have qf0:=qf 0;have qf1:=qf 1;have qf2:=qf 2;have qf3:=qf 3;have hlt3:b1<w3.heap.size:=World.block_lt_of_cell? _ _ p0;clear pf qf;go_wp2_with fail
   have hk:aE (fun b=>b=b1∨b=w.heap.size) w3 (((((w3.setCell ⟨b1,0,none⟩ (.string (str y))).setCell ⟨w.heap.size,0,none⟩ (.string (str y))).setCell ⟨w.heap.size,1,none⟩ (.int .i64 e.kind)).setCell ⟨w.heap.size,2,none⟩ (.int .i64 e.size)).setCell ⟨w.heap.size,3,none⟩ (.slice a e.chunks.length c)):=aE.setCell (S:=fun b=>b=b1∨b=w.heap.size) (p:=⟨w.heap.size,3,none⟩) (aE.setCell (S:=fun b=>b=b1∨b=w.heap.size) (p:=⟨w.heap.size,2,none⟩) (aE.setCell (S:=fun b=>b=b1∨b=w.heap.size) (p:=⟨w.heap.size,1,none⟩) (aE.setCell (S:=fun b=>b=b1∨b=w.heap.size) (p:=⟨w.heap.size,0,none⟩) (aE.setCell (S:=fun b=>b=b1∨b=w.heap.size) (p:=⟨b1,0,none⟩) (aE.refl _ _) (fun _=>.inl rfl) _) (fun _=>.inr rfl) _) (fun _=>.inr rfl) _) (fun _=>.inr rfl) _) (fun _=>.inr rfl) _
   refine bodyPost_ret (v:=.agg #[(.string (str y)),(.int .i64 e.kind),(.int .i64 e.size),(.slice a e.chunks.length c)]) (by simp[results,Tryz.results152,go_sem,q0,q1,q2,q3]) rfl ⟨⟨y,e.kind,e.size,e.chunks⟩,a,c,rfl,⟨by first | exact hyl | exact hxl,by first | exact hc3 | exact hc4⟩,?_,(S3.out.kept hk (fun b hb e=>by omega)).mono (by omega),K3.out.trans_own hk (fun b hb e=>by omega)⟩
   exact aW (aK O3.out hk (fun b hb hS=>by have:=OL.out b hb;omega)) (by omega)
 ·by_cases h1:i=1
  ·subst h1
   have K2':=aA (K2.out.alloc (.cells #[.int .i64 0,.int .i64 5,.int .i64 1] 2));have E2':=aA (E2.out.below (aC w2 (.cells #[.int .i64 0,.int .i64 5,.int .i64 1] 2)));have X2':=aA (X2.out.below (aC w2 (.cells #[.int .i64 0,.int .i64 5,.int .i64 1] 2)));have O2':=aA (aJ O2.out (aC w2 (.cells #[.int .i64 0,.int .i64 5,.int .i64 1] 2)));have S2':=aA (S2.out.below (aC w2 (.cells #[.int .i64 0,.int .i64 5,.int .i64 1] 2)));have CC:=aA (zv7 w2 (0) (5) (1) 2);have hw2l:b1<w2.heap.size:=E2.out.1.lt;go_wp2_with fail
   refine (pP p w2.heap.size 3 3 [0,5,1] zs _ _ S2'.out HU.out (by omega) hl (by decide) (by decide) rfl (by omega) (by simp) CC.out).mono ?_
   rintro r w3 ⟨v,hv,rfl,s3,k3⟩;have S3:=aA s3;have K3:=aA (K2'.out.trans k3);have E3:=aA (E2'.out.kept k3 (by omega))
   have X3:=aA (X2'.out.kept k3 (by omega))
   have O3:=aA (aK O2'.out k3 (fun b hb e=>by have:=O2'.out.lt b hb;omega))
   clear s3 k3;obtain ⟨⟨p0,p1,p2,p3⟩,pf⟩:=E3.out;obtain ⟨⟨q0,q1,q2,q3⟩,qf⟩:=X3.out;have pf0:=pf 0;have pf1:=pf 1;have pf2:=pf 2;have pf3:=pf 3;have qf0:=qf 0;have qf1:=qf 1;have qf2:=qf 2;have qf3:=qf 3;have hlt3:b1<w3.heap.size:=World.block_lt_of_cell? _ _ p0;clear pf qf;go_wp2_with fail
   have hk:aE (fun b=>b=b1∨b=w.heap.size) w3 (((((w3.setCell ⟨b1,1,none⟩ (.int .i64 v)).setCell ⟨w.heap.size,0,none⟩ (.string (str e.path))).setCell ⟨w.heap.size,1,none⟩ (.int .i64 v)).setCell ⟨w.heap.size,2,none⟩ (.int .i64 e.size)).setCell ⟨w.heap.size,3,none⟩ (.slice a e.chunks.length c)):=aE.setCell (S:=fun b=>b=b1∨b=w.heap.size) (p:=⟨w.heap.size,3,none⟩) (aE.setCell (S:=fun b=>b=b1∨b=w.heap.size) (p:=⟨w.heap.size,2,none⟩) (aE.setCell (S:=fun b=>b=b1∨b=w.heap.size) (p:=⟨w.heap.size,1,none⟩) (aE.setCell (S:=fun b=>b=b1∨b=w.heap.size) (p:=⟨w.heap.size,0,none⟩) (aE.setCell (S:=fun b=>b=b1∨b=w.heap.size) (p:=⟨b1,1,none⟩) (aE.refl _ _) (fun _=>.inl rfl) _) (fun _=>.inr rfl) _) (fun _=>.inr rfl) _) (fun _=>.inr rfl) _) (fun _=>.inr rfl) _
   refine bodyPost_ret (v:=.agg #[(.string (str e.path)),(.int .i64 v),(.int .i64 e.size),(.slice a e.chunks.length c)]) (by simp[results,Tryz.results152,go_sem,q0,q1,q2,q3]) rfl ⟨⟨e.path,v,e.size,e.chunks⟩,a,c,rfl,⟨by first | exact hyl | exact hxl,by first | exact hc3 | exact hc4⟩,?_,(S3.out.kept hk (fun b hb e=>by omega)).mono (by omega),K3.out.trans_own hk (fun b hb e=>by omega)⟩
   exact aW (aK O3.out hk (fun b hb hS=>by have:=OL.out b hb;omega)) (by omega)
  ·by_cases h2:i=2
   ·subst h2
    have K2':=aA (K2.out.alloc (.cells #[.int .i64 (-1),.int .i64 25,.int .i64 9] 2));have E2':=aA (E2.out.below (aC w2 (.cells #[.int .i64 (-1),.int .i64 25,.int .i64 9] 2)));have X2':=aA (X2.out.below (aC w2 (.cells #[.int .i64 (-1),.int .i64 25,.int .i64 9] 2)));have O2':=aA (aJ O2.out (aC w2 (.cells #[.int .i64 (-1),.int .i64 25,.int .i64 9] 2)));have S2':=aA (S2.out.below (aC w2 (.cells #[.int .i64 (-1),.int .i64 25,.int .i64 9] 2)));have CC:=aA (zv7 w2 (-1) (25) (9) 2);have hw2l:b1<w2.heap.size:=E2.out.1.lt;go_wp2_with fail
    refine (pP p w2.heap.size 3 3 [-1,25,9] zs _ _ S2'.out HU.out (by omega) hl (by decide) (by decide) rfl (by omega) (by simp) CC.out).mono ?_
    rintro r w3 ⟨v,hv,rfl,s3,k3⟩;have S3:=aA s3;have K3:=aA (K2'.out.trans k3);have E3:=aA (E2'.out.kept k3 (by omega))
    have X3:=aA (X2'.out.kept k3 (by omega))
    have O3:=aA (aK O2'.out k3 (fun b hb e=>by have:=O2'.out.lt b hb;omega))
    clear s3 k3;obtain ⟨⟨p0,p1,p2,p3⟩,pf⟩:=E3.out;obtain ⟨⟨q0,q1,q2,q3⟩,qf⟩:=X3.out;have pf0:=pf 0;have pf1:=pf 1;have pf2:=pf 2;have pf3:=pf 3;have qf0:=qf 0;have qf1:=qf 1;have qf2:=qf 2;have qf3:=qf 3;have hlt3:b1<w3.heap.size:=World.block_lt_of_cell? _ _ p0;clear pf qf;go_wp2_with fail
    have hk:aE (fun b=>b=b1∨b=w.heap.size) w3 (((((w3.setCell ⟨b1,2,none⟩ (.int .i64 v)).setCell ⟨w.heap.size,0,none⟩ (.string (str e.path))).setCell ⟨w.heap.size,1,none⟩ (.int .i64 e.kind)).setCell ⟨w.heap.size,2,none⟩ (.int .i64 v)).setCell ⟨w.heap.size,3,none⟩ (.slice a e.chunks.length c)):=aE.setCell (S:=fun b=>b=b1∨b=w.heap.size) (p:=⟨w.heap.size,3,none⟩) (aE.setCell (S:=fun b=>b=b1∨b=w.heap.size) (p:=⟨w.heap.size,2,none⟩) (aE.setCell (S:=fun b=>b=b1∨b=w.heap.size) (p:=⟨w.heap.size,1,none⟩) (aE.setCell (S:=fun b=>b=b1∨b=w.heap.size) (p:=⟨w.heap.size,0,none⟩) (aE.setCell (S:=fun b=>b=b1∨b=w.heap.size) (p:=⟨b1,2,none⟩) (aE.refl _ _) (fun _=>.inl rfl) _) (fun _=>.inr rfl) _) (fun _=>.inr rfl) _) (fun _=>.inr rfl) _) (fun _=>.inr rfl) _
    refine bodyPost_ret (v:=.agg #[(.string (str e.path)),(.int .i64 e.kind),(.int .i64 v),(.slice a e.chunks.length c)]) (by simp[results,Tryz.results152,go_sem,q0,q1,q2,q3]) rfl ⟨⟨e.path,e.kind,v,e.chunks⟩,a,c,rfl,⟨by first | exact hyl | exact hxl,by first | exact hc3 | exact hc4⟩,?_,(S3.out.kept hk (fun b hb e=>by omega)).mono (by omega),K3.out.trans_own hk (fun b hb e=>by omega)⟩
    exact aW (aK O3.out hk (fun b hb hS=>by have:=OL.out b hb;omega)) (by omega)
   ·by_cases h3:i=3
    ·subst h3
     have BD:=aA ((aC w2 (.cells #[.int .i64 (-1),.int .i64 5] 2)).drew);have K2':=(K2.out.alloc (.cells #[.int .i64 (-1),.int .i64 5] 2)).drew;have E2':=aA (E2.out.below BD.out);have X2':=aA (X2.out.below BD.out);have O2':=aA (aJ O2.out BD.out);have S2':=aA (S2.out.below BD.out);have CC:Hid (∀ i,i<2→(w2.alloc (.cells #[.int .i64 (-1),.int .i64 5] 2)).drew.cell? ⟨w2.heap.size,i,none⟩=some (.int .i64 (([-1,5]:List Int).getD i 0))):=aA (zch w2 (-1) 5 2);have hw2l:b1<w2.heap.size:=E2.out.1.lt;obtain ⟨⟨p0,p1,p2,p3⟩,pf⟩:=E2.out;have pf3:=pf 3;have hm1:e.chunks.length+1≤maxLen:=by unfold maxLen;omega
     have hm1':(e.chunks.length+1) * 8≤140737488355328:=by omega
     go_wp2_with fail
     go_region_law
      ((
       first
       | (have hO3:=O3;clear hO3;refine aY (by rfl) (.tmp 28) (.tmp 32) 48 (by rfl) (w.heap.size+1) 2 i0 (.int .i64 0) 1 8 Tryz.underlying48 hi0 hz0 hz1 hz2 rfl (by decide) (.slice a e.chunks.length c) e.chunks.length (e.chunks.map (Value.int .i64)) (by rfl) (O3.out.alloc _) ⟨w3.heap.size,0,none⟩ 1 1 [.int .i64 v] (by rfl) (by rfl) (zvf rfl) (by intro u hu;simp at hu;subst hu;rfl) (e.chunks.length+1) rfl hm1 hm1' (by have:=K3.out.size;simp;omega) ?_;intro av4 cv4 w4 hown4 hk4;have O4:=aA hown4;have K4:=aA hk4;have E4:=(E3.out.below (aC w3 _)).kept hk4 (fun hq=>by have:=OL.out b1 hq;omega);have c5:=E4.1.2.2.2;have f5:=E4.2 3;have E4:=aA E4;clear hown4 hk4)
       | (go_simp;go_wp2_with (go_at_call 97;refine (pP p w2.heap.size 2 2 [-1,5] zs _ _ S2'.out HU.out (by omega) hl (by decide) (by decide) rfl (by omega) (by show w2.heap.size<(w2.alloc (.cells #[.int .i64 (-1),.int .i64 5] 2)).heap.size;simp) CC.out).mono ?_;rintro r w3 ⟨v,hv,rfl,s3,k3⟩;have c3:=(E2'.out.kept k3 (by omega)).1.2.2.2;have c4:∀ o,(w3.alloc o).cell? ⟨b1,3,none⟩=some (.slice a e.chunks.length c):=(fun o=>((E2'.out.kept k3 (by omega)).below (aC w3 o)).1.2.2.2);have S3:=aA s3;have K3:=aA (K2'.trans k3);have E3:=aA (E2'.out.kept k3 (by omega));have X3:=aA (X2'.out.kept k3 (by omega));have O3:=aA (aK O2'.out k3 (fun b hb e=>by have:=O2'.out.lt b hb;omega));clear s3 k3))))
     all_goals
      have X4:=aA ((X3.out.below (aC w3 (.cells #[.int .i64 v] 2))).kept K4.out (fun hq=>by have:=OL.out _ hq;omega))
      have S4:=aA ((S3.out.below (aC w3 (.cells #[.int .i64 v] 2))).kept K4.out (fun b hb hq=>by have:=OL.out b hq;omega))
      have K5:=aA ((K3.out.alloc (.cells #[.int .i64 v] 2)).trans_own K4.out (fun b hb hq=>by have:=OL.out b hq;omega))
      have hnl:(e.chunks ++ [v]).length=e.chunks.length+1:=by simp
      have Q4:Hid (w4.ownsRow (w.heap.size+1) 2 1 (.slice av4 (e.chunks ++ [v]).length cv4) (e.chunks ++ [v]).length ((e.chunks ++ [v]).map (Value.int .i64))):=aA (by rw[hnl,List.map_append];exact O4.out)
      have hne:∀ b,(Value.slice av4 (e.chunks ++ [v]).length cv4).ownBlock=some b→b≠b1∧b≠w.heap.size:=by
       intro b hb;have hge:=Q4.out.lt b hb;refine ⟨fun hbb=>?_,by omega⟩
       obtain ⟨g,cap,hv,h1,h2,h3,h4⟩:=pO Q4.out rfl (by omega)
       rw[hv]at hb;have hg:g=b:=by simpa [Value.ownBlock] using hb
       have h5:=h3 0 (by omega)
       rw[hg,hbb,E4.out.1.1]at h5;cases h5
      clear p0 p1 p2 p3 pf pf3;obtain ⟨⟨p0,p1,p2,p3⟩,pf⟩:=E4.out;obtain ⟨⟨q0,q1,q2,q3⟩,qf⟩:=X4.out;have pf0:=pf 0;have pf1:=pf 1;have pf2:=pf 2;have pf3:=pf 3;have qf0:=qf 0;have qf1:=qf 1;have qf2:=qf 2;have qf3:=qf 3;have hlt3:b1<w4.heap.size:=World.block_lt_of_cell? _ _ p0;clear pf qf;go_wp2_with fail
      have hk:aE (fun b=>b=b1∨b=w.heap.size) w4 (((((w4.setCell ⟨b1,3,none⟩ (.slice av4 (e.chunks.length+1) cv4)).setCell ⟨w.heap.size,0,none⟩ (.string (str e.path))).setCell ⟨w.heap.size,1,none⟩ (.int .i64 e.kind)).setCell ⟨w.heap.size,2,none⟩ (.int .i64 e.size)).setCell ⟨w.heap.size,3,none⟩ (.slice av4 (e.chunks.length+1) cv4)):=aE.setCell (S:=fun b=>b=b1∨b=w.heap.size) (p:=⟨w.heap.size,3,none⟩) (aE.setCell (S:=fun b=>b=b1∨b=w.heap.size) (p:=⟨w.heap.size,2,none⟩) (aE.setCell (S:=fun b=>b=b1∨b=w.heap.size) (p:=⟨w.heap.size,1,none⟩) (aE.setCell (S:=fun b=>b=b1∨b=w.heap.size) (p:=⟨w.heap.size,0,none⟩) (aE.setCell (S:=fun b=>b=b1∨b=w.heap.size) (p:=⟨b1,3,none⟩) (aE.refl _ _) (fun _=>.inl rfl) _) (fun _=>.inr rfl) _) (fun _=>.inr rfl) _) (fun _=>.inr rfl) _) (fun _=>.inr rfl) _
      refine bodyPost_ret (v:=.agg #[(.string (str e.path)),(.int .i64 e.kind),(.int .i64 e.size),(.slice av4 (e.chunks.length+1) cv4)]) (by simp[results,Tryz.results152,go_sem,q0,q1,q2,q3]) rfl ⟨⟨e.path,e.kind,e.size,e.chunks ++ [v]⟩,av4,cv4,by rw[hnl],⟨hxl,by rw[hnl];omega⟩,?_,(S4.out.kept hk (fun b hb e=>by omega)).mono (by omega),K5.out.trans_own hk (fun b hb e=>by omega)⟩
      exact aW (aK Q4.out hk (fun b hb hS=>by have:=hne b hb;omega)) (by omega)
    ·have e0:((i:Int)==0)=false:=by simp;omega
     have e1:((i:Int)==1)=false:=by simp;omega
     have e2:((i:Int)==2)=false:=by simp;omega
     have e3:((i:Int)==3)=false:=by simp;omega
     clear h0 h1 h2 h3;have S3:=S2;have K3:=K2;have E3:=E2;have X3:=X2;have O3:=O2;obtain ⟨⟨p0,p1,p2,p3⟩,pf⟩:=E3.out;obtain ⟨⟨q0,q1,q2,q3⟩,qf⟩:=X3.out;have pf0:=pf 0;have pf1:=pf 1;have pf2:=pf 2;have pf3:=pf 3;have qf0:=qf 0;have qf1:=qf 1;have qf2:=qf 2;have qf3:=qf 3;have hlt3:b1<w2.heap.size:=World.block_lt_of_cell? _ _ p0;clear pf qf;go_wp2_with fail
     have hk:aE (fun b=>b=b1∨b=w.heap.size) w2 ((((w2.setCell ⟨w.heap.size,0,none⟩ (.string (str e.path))).setCell ⟨w.heap.size,1,none⟩ (.int .i64 e.kind)).setCell ⟨w.heap.size,2,none⟩ (.int .i64 e.size)).setCell ⟨w.heap.size,3,none⟩ (.slice a e.chunks.length c)):=aE.setCell (S:=fun b=>b=b1∨b=w.heap.size) (p:=⟨w.heap.size,3,none⟩) (aE.setCell (S:=fun b=>b=b1∨b=w.heap.size) (p:=⟨w.heap.size,2,none⟩) (aE.setCell (S:=fun b=>b=b1∨b=w.heap.size) (p:=⟨w.heap.size,1,none⟩) (aE.setCell (S:=fun b=>b=b1∨b=w.heap.size) (p:=⟨w.heap.size,0,none⟩) (aE.refl _ _) (fun _=>.inr rfl) _) (fun _=>.inr rfl) _) (fun _=>.inr rfl) _) (fun _=>.inr rfl) _
     refine bodyPost_ret (v:=.agg #[(.string (str e.path)),(.int .i64 e.kind),(.int .i64 e.size),(.slice a e.chunks.length c)]) (by simp[results,Tryz.results152,go_sem,q0,q1,q2,q3]) rfl ⟨⟨e.path,e.kind,e.size,e.chunks⟩,a,c,rfl,⟨by first | exact hyl | exact hxl,by first | exact hc3 | exact hc4⟩,?_,(S3.out.kept hk (fun b hb e=>by omega)).mono (by omega),K3.out.trans_own hk (fun b hb e=>by omega)⟩
     exact aW (aK O3.out hk (fun b hb hS=>by have:=OL.out b hb;omega)) (by omega)
theorem za2 {p q:Bs} {i:Nat} (hp:aG p=0) (h:(bH (bB p.tail))[i]?=some q) :
  aG q=0∧((aF q=[]∧i=0)∨∃ j,i=j+1∧(bH (bB p.tail))[j]?=some (aF q)):=by
 obtain ⟨ns,hN,hpe,hc,hs⟩:=eY hp;rw[hc]at h ⊢;have hi:i<ns.length - 1:=by have:=(List.getElem?_eq_some_iff.1 h).1;rwa [gS]at this
 have hq:q=bL (ns.take (i+1)):=by
  have:=h;unfold bH at this;rw[List.getElem?_map,List.getElem?_range hi]at this
  simpa using this.symm
 have hNt:mC (ns.take (i+1)):=oR hN (by omega)
 have hcq:bB q.tail=ns.take (i+1):=by rw[hq];exact pE hNt.1 (sJ hNt)
 refine ⟨by rw[hq];exact nU hNt,?_⟩
 have hlen:(ns.take (i+1)).length=i+1:=by rw[List.length_take];omega
 have hpar:aF q=(bH (ns.take (i+1))).getLastD []:=by rw[aF,hcq]
 cases i with
 | zero =>
  refine .inl ⟨?_,rfl⟩;rw[hpar,bH,hlen];rfl
 | succ j =>
  refine .inr ⟨j,rfl,?_⟩;rw[hpar];unfold bH;rw[hlen,List.getElem?_map,List.getElem?_range (by omega),show j+1+1 - 1=j+1 by omega,List.range_succ,List.map_append,List.map_cons,List.map_nil]
  simp[List.getLastD_eq_getLast?,List.take_take]
theorem sO {p:Bs} (h:aG p=0):p.length≤15:=by
 obtain ⟨ns,hN,hpe,_,_⟩:=eY h;have:=rY ns 4 hN.2.2.1;have:=hN.2.2.2;rw[hpe];omega
theorem cS {es:List En} (h:bD es):bJ es:=fun e he=>by
 have h1:=sO (bO (h.ent e he));have h2:=fK (h.ent e he);omega
theorem zta {es:List En} (h:bD es) (e:En):dR es e=eT es e:=by
 rw[dR,eT,mZ.2 h,dM.2 h,lM h.rise]
theorem GE.keptP {p B:Nat} {w w':World} {v:Value} {es:List En} (h:GE B w.heap.size w v es) (hk:aE (fun b=>b=p) w w') (hp:p<B):GE B w'.heap.size w' v es :=
 (h.kept hk (fun b h1 _ e=>by omega)).wide hk.size
theorem zw7 (w:World) (a b c:Int) (t:TypeId):∀ i,i<3→(w.alloc (.cells #[.int .i64 a,.int .i64 b,.int .i64 c] t)).cell? ⟨w.heap.size,i,none⟩=some (.int .i64 ([a,b,c].getD i 0)):=by
 intro i hi
 match i,hi with
 | 0,_ | 1,_ | 2,_=>simp
def zo8 (up:List Bs) (es:List En) (j:Nat):Prop:=es.length<12→j=0∨∃ q,up[j - 1]?=some q∧cU es q=true
theorem yP {es:List En} {d:En} {q:Bs} (h:d∈es) (hq:d.path=q) (hk:cG d.kind=true):cU es q=true:=by
 rw[cU,List.any_eq_true];exact ⟨d,h,by simp[hq,hk]⟩
theorem zr9 {es:List En} {q:Bs} (h:cU es q=true):∃ d∈es,d.path=q∧cG d.kind=true:=by
 rw[cU,List.any_eq_true]at h;obtain ⟨d,hd,h⟩:=h;simp only[Bool.and_eq_true,decide_eq_true_eq]at h;exact ⟨d,hd,h⟩
theorem zj8 {p q:Bs} {es:List En} {j:Nat} {k:Int} (hp:aG p=0) (hq:(bH (bB p.tail))[j]?=some q) (hR:bD es) (hU:zo8 (bH (bB p.tail)) es j) (hl:es.length<12) (hk:k=2∨k=4) :
  bD (cZ es ⟨q,k,0,[]⟩)∧zo8 (bH (bB p.tail)) (cZ es ⟨q,k,0,[]⟩) (j+1):=by
 obtain ⟨hf,hpar⟩:=za2 hp hq;have hef:aH ⟨q,k,0,[]⟩=0:=mF hf (by rcases hk with rfl | rfl <;> decide)
 have hhome:cI es q=true:=by
  rw[dS];rcases hpar with ⟨h0,_⟩ | ⟨i,rfl,hi⟩
  ·exact .inl h0
  ·rcases hU hl with h | ⟨q',h1,h2⟩
   ·omega
   ·rw[Nat.add_sub_cancel,hi]at h1
    cases h1
    exact .inr (zr9 h2)
 have hlen:(cZ es ⟨q,k,0,[]⟩).length≤12:=by
  have:(cZ es ⟨q,k,0,[]⟩).length=(gZ es ⟨q,k,0,[]⟩).length+1:=by
   unfold cZ dK;rw[List.length_append,List.length_cons,List.length_take,List.length_drop];omega
  have:=tO es ⟨q,k,0,[]⟩;omega
 refine ⟨zt1 hR hef hhome hlen,fun _=>.inr ⟨q,by rw[Nat.add_sub_cancel];exact hq,?_⟩⟩
 exact yP (jC.2 (.inl rfl)) rfl (decide_eq_true hk)
theorem kV (p:Nat) (zs:List Int) (T:Int) (w:World) (h:dH w p zs T) (hu:U8 zs) (hT:T≤500000) (hl:zs.length≤2097152) :
  Calls Tryz.prog 145 #[.pointer (some ⟨p,0,none⟩)] w fun r w'=>∃ (es:List En) (av:Option Addr) (cv:Nat),r=.returned (.slice av es.length cv)∧bD es∧GE w.heap.size w'.heap.size w' (.slice av es.length cv) es∧dH w' p zs (T+1000)∧aE (fun b=>b=p) w w':=by
 have hp:=h.lt;have S0:=aA (h.below (aC w (.cells #[] 87)));have G0:=aA (GE.made w);have K0:=aA ((aE.refl (fun b=>b=p) w).alloc (.cells #[] 87))
 have HU:=aA hu;clear h hu;go_enter Tryz.func145,Tryz.ntmps145;go_wp2_with fail
 refine (eZ p zs T 10 _ S0.out HU.out (by omega) (by decide) (by decide) hl).mono ?_
 rintro r w1 ⟨m0,rfl,hm0,s1,k1⟩;have S1:=aA s1;have K1:=aA (K0.out.trans k1);have G1:=aA (G0.out.keptP k1 hp);clear s1 k1 S0 K0 G0;go_wp2_with fail
 go_loopw [3,4] (fun v k wr=>∃ (m:Nat) (es:List En),k=.int .i64 m∧m≤9∧Hid (bD es)∧Hid (GE w.heap.size wr.heap.size wr v es)∧Hid (dH wr p zs (T+1+60 * (9 - (m:Int))))∧Hid (aE (fun b=>b=p) w wr)) (fun _ k _=>(intOf k).toNat)
 case atStart=>exact ⟨m0,[],rfl,by omega,aA zs1,G1,aA (S1.out.mono (by omega)),K1⟩
 case round =>
  obtain ⟨m,es,rfl,hm9,HRi,HG,HSr,HK⟩:=hrel;obtain ⟨lv,lc,hv⟩:=HG.out.shape;subst hv;by_cases hm:0<m
  ·have hm':(0:Int)<(m:Int):=by omega
   have hwr:=HK.out.size;go_wp2_with fail
   refine (wI p zs _ _ HSr.out HU.out (by omega) hl).mono ?_
   rintro r w2 ⟨e,a,c,rfl,⟨hef,hxl⟩,ho2,s2,k2⟩;have hpz:=bO hef;have AE:=aA (aC w2 (.cells #[.string (str e.path),.int .i64 e.kind,.int .i64 e.size,.slice a e.chunks.length c] 87));have F2:=aA (cP.new w2 (.string (str e.path)) (.int .i64 e.kind) (.int .i64 e.size) (.slice a e.chunks.length c) 87);have S2:=aA (s2.below AE.out);have K2:=aA ((HK.out.trans k2).alloc (.cells #[.string (str e.path),.int .i64 e.kind,.int .i64 e.size,.slice a e.chunks.length c] 87));have G2:=aA (((HG.out.keptP k2 hp).below AE.out).wide AE.out.size);have R2:=aA ((cY ho2 rfl).below AE.out)
   have hRb:=aA (fun b (hb:(Value.slice a e.chunks.length c).ownBlock=some b)=>(ho2.lt b hb).1)
   have HEF:=aA hef;have HPZ:=aA hpz;have hs2:=k2.size;clear s2 k2 ho2 HG HSr HK hef;have hcl:e.chunks.length≤3:=fK HEF.out;go_wp2_with fail
   have hb2:w2.heap.size<(w2.alloc (.cells #[.string (str e.path),.int .i64 e.kind,.int .i64 e.size,.slice a e.chunks.length c] 87)).heap.size:=F2.out.lt;generalize w2.alloc (.cells #[.string (str e.path),.int .i64 e.kind,.int .i64 e.size,.slice a e.chunks.length c] 87)=W2 at *;obtain ⟨b2,hb2e⟩:∃ b2,b2=w2.heap.size:=⟨_,rfl⟩;rw[←hb2e]at F2 hb2 hs2 ⊢;clear hb2e AE;refine (nH _ _ (by rw[aN];exact sN hpz) (by rw[aN];omega)).mono ?_
   rintro r w3 ⟨uv,rfl,hO3,hb3⟩;rw[aV]at hO3;obtain ⟨ua,uc,rfl⟩:=hO3.shape;have UR:=aA hO3.reads;have hUB:=aA (fun b hb=>(hO3.lt b hb).1)
   have F3:=aA (F2.out.below hb3);have S3:=aA (S2.out.below hb3);have K3:=aA (K2.out.trans (aE.of_below hb3));have G3:=aA ((G2.out.below hb3).wide hb3.size);have R3:=aA (R2.out.below hb3);have hs3:=hb3.size;clear hb3 hO3 F2 S2 K2 G2 R2 hpz;have hul:(bH (bB e.path.tail)).length≤2:=by
    obtain ⟨ns,hN,_,hc,_⟩:=eY HPZ.out;rw[hc,gS];have:=hN.2.2.2;omega
   have hpw3:p<w3.heap.size:=S3.out.lt;obtain ⟨up,hup⟩:∃ up,up=bH (bB e.path.tail):=⟨_,rfl⟩;rw[←hup]at UR hUB hul ⊢;have HUPE:=aA hup;clear hup;go_wp2_with fail
   go_loopw [3,7] (fun v i wr2=>∃ (j:Nat) (fs:List En),i=.int .i64 j∧j≤up.length∧Hid (bD fs)∧Hid (zo8 (bH (bB e.path.tail)) fs j)∧Hid (GE w.heap.size wr2.heap.size wr2 v fs)∧Hid (dH wr2 p zs (T+1+60 * (9 - (m:Int))+30+j))∧Hid (aE (fun b=>b=p) w3 wr2)) (fun _ i _=>up.length - (intOf i).toNat)
   case atStart=>exact ⟨0,es,rfl,Nat.zero_le _,HRi,aA (fun _=>.inl rfl),G3,aA (by simpa using S3.out),aA (aE.refl _ _)⟩
   case round =>
    obtain ⟨j,fs,rfl,hj,HR2,HUp,HG2,HS2,HK2⟩:=hrel;obtain ⟨fv,fc,hv⟩:=HG2.out.shape;subst hv;have hf12:=HR2.out.len;have hsz2:=HK2.out.size;have UR2:=aA (UR.out.kept HK2.out (fun hz x hx e=>by subst hx;have:=hUB.out x.block rfl;omega))
    by_cases hlt:j<up.length
    ·obtain ⟨bu,ou,q,rfl,hbu,hqu,hcq⟩:=UR2.out.at hlt
     have hbup:bu≠p:=by have:=hUB.out bu rfl;omega
     have hq:(bH (bB e.path.tail))[j]?=some q:=by rw[←HUPE.out];exact hqu
     have HFQ:=aA (za2 HPZ.out hq).1;clear hqu;go_wp2_with fail
     refine (gU fv fc fs.length fs q _ HG2.out.rd rfl (by omega)).mono ?_
     rintro r wr2 ⟨rfl,rfl⟩;cases hat:atE fs q with
     | none =>
      simp only[cD];by_cases hl12:fs.length<12
      ·have hl12':(fs.length:Int)<12:=by omega
       have BD:=aA ((aC wr2 (.cells #[.int .i64 2,.int .i64 2,.int .i64 4] 2)).drew);have S5:=aA (HS2.out.below BD.out);have K5:=((HK2.out.alloc (.cells #[.int .i64 2,.int .i64 2,.int .i64 4] 2)).drew);have G5:=aA ((HG2.out.below BD.out).wide BD.out.size);have CC:Hid (∀ i,i<3→(wr2.alloc (.cells #[.int .i64 2,.int .i64 2,.int .i64 4] 2)).drew.cell? ⟨wr2.heap.size,i,none⟩=some (.int .i64 (([2,2,4]:List Int).getD i 0))):=aA (zw7 wr2 2 2 4 2);have cqd:=(BD.out.cell (p:=⟨bu,ou+j,none⟩) hbu).trans hcq;have HFS:=aA (cS HR2.out);go_wp2_with fail
       go_region_held3 (fun w'=>w'.cell? ⟨bu,ou+j,none⟩=some (.string (str q))) (first | exact c6 | exact c7 | go_keep)
        ((
         first
         | (go_at_call 97;refine (pP p wr2.heap.size 3 3 [2,2,4] zs _ _ S5.out HU.out (by omega) hl (by decide) (by decide) rfl (by omega) (by show wr2.heap.size<(wr2.alloc (.cells #[.int .i64 2,.int .i64 2,.int .i64 4] 2)).heap.size;simp) CC.out).mono ?_;rintro r w6 ⟨kv,hkv,rfl,s6,k6⟩;have hlt6:bu<(wr2.alloc (.cells #[.int .i64 2,.int .i64 2,.int .i64 4] 2)).drew.heap.size:=(Nat.lt_of_lt_of_le hbu BD.out.size);have c6:=(k6.cell (p:=⟨bu,ou+j,none⟩) hlt6 (by omega)).trans cqd;have hlt7:bu<w6.heap.size:=Nat.lt_of_lt_of_le hlt6 k6.size;have S6:=aA s6;have K6:=aA (K5.trans k6);have G6:=aA (G5.out.keptP k6 hp);have HKV:=aA (show kv=2∨kv=4 from by simp at hkv;omega);have hs6:=k6.size;clear s6 k6 hkv)
         | (go_at_call 191;refine (nX fv fc fs.length fs ⟨q,kv,0,[]⟩ none 0 0 _ G6.out.rd rfl (by omega) HFS.out rfl (fun h=>absurd rfl h) (by show q.length≤1048576;have:=sO HFQ.out;omega) (by simp)).mono ?_;rintro r w7 ⟨g7,cv7,rfl,hG7,hb7⟩;have c7:=(hb7.cell (p:=⟨bu,ou+j,none⟩) hlt7).trans c6;have S7:=aA (S6.out.below hb7);have K7:=aA (K6.out.trans (aE.of_below hb7));have G7:=aA (hG7.mono (B':=w.heap.size) (by have:=K6.out.size;have:=K3.out.size;omega));clear hG7 hb7)))
       have HPD:=aA (zj8 (k:=kv) HPZ.out hq HR2.out HUp.out hl12 HKV.out);go_wp2_with fail
       go_roundw
       case rel=>exact ⟨j+1,cZ fs ⟨q,kv,0,[]⟩,by go_num,by omega,aA HPD.out.1,aA HPD.out.2,G7,aA (S7.out.mono (by omega)),K7⟩
       case measure=>simp[intOf];omega
      ·have hl12':¬ (fs.length:Int)<12:=by omega
       go_wp2_with fail
       go_roundw
       case rel=>exact ⟨j+1,fs,by go_num,by omega,HR2,aA (fun h=>absurd h (by omega)),HG2,aA (HS2.out.mono (by omega)),HK2⟩
       case measure=>simp[intOf];omega
     | some k =>
      have hkl:=nO hat;have hfk:=mV fs q;rw[hat]at hfk;obtain ⟨bf,off,d,xd,cd,rfl,hbf,hd,d0,d1,d2,d3,hrd⟩:=HG2.out.rd.at hkl;rw[Option.bind_some,hd]at hfk;obtain ⟨hdm,hdp⟩:=eR hfk;simp only[cD];have hk0:¬ (k:Int)<0:=by omega
      have hk1:(k:Int)<(fs.length:Int):=by omega
      clear hfk hrd d0 d2 d3 hat;cases hdk:cG d.kind
      ·go_wp2_with fail
       refine (cR _ _ d.kind _ d1).mono ?_;rintro r wr2 ⟨rfl,rfl⟩;rw[hdk];clear d1;obtain ⟨fv,hfv⟩:∃ fv:Option Addr,fv=some ⟨bf,off,none⟩:=⟨_,rfl⟩;rw[←hfv]at HG2 ⊢;clear hfv;by_cases hl12:fs.length<12
       ·have hl12':(fs.length:Int)<12:=by omega
        have BD:=aA ((aC wr2 (.cells #[.int .i64 2,.int .i64 2,.int .i64 4] 2)).drew);have S5:=aA (HS2.out.below BD.out);have K5:=((HK2.out.alloc (.cells #[.int .i64 2,.int .i64 2,.int .i64 4] 2)).drew);have G5:=aA ((HG2.out.below BD.out).wide BD.out.size);have CC:Hid (∀ i,i<3→(wr2.alloc (.cells #[.int .i64 2,.int .i64 2,.int .i64 4] 2)).drew.cell? ⟨wr2.heap.size,i,none⟩=some (.int .i64 (([2,2,4]:List Int).getD i 0))):=aA (zw7 wr2 2 2 4 2);have cqd:=(BD.out.cell (p:=⟨bu,ou+j,none⟩) hbu).trans hcq;have HFS:=aA (cS HR2.out);go_wp2_with fail
        go_region_held3 (fun w'=>w'.cell? ⟨bu,ou+j,none⟩=some (.string (str q))) (first | exact c6 | exact c7 | go_keep)
         ((
          first
          | (go_at_call 97;refine (pP p wr2.heap.size 3 3 [2,2,4] zs _ _ S5.out HU.out (by omega) hl (by decide) (by decide) rfl (by omega) (by show wr2.heap.size<(wr2.alloc (.cells #[.int .i64 2,.int .i64 2,.int .i64 4] 2)).heap.size;simp) CC.out).mono ?_;rintro r w6 ⟨kv,hkv,rfl,s6,k6⟩;have hlt6:bu<(wr2.alloc (.cells #[.int .i64 2,.int .i64 2,.int .i64 4] 2)).drew.heap.size:=(Nat.lt_of_lt_of_le hbu BD.out.size);have c6:=(k6.cell (p:=⟨bu,ou+j,none⟩) hlt6 (by omega)).trans cqd;have hlt7:bu<w6.heap.size:=Nat.lt_of_lt_of_le hlt6 k6.size;have S6:=aA s6;have K6:=aA (K5.trans k6);have G6:=aA (G5.out.keptP k6 hp);have HKV:=aA (show kv=2∨kv=4 from by simp at hkv;omega);have hs6:=k6.size;clear s6 k6 hkv)
          | (go_at_call 191;refine (nX fv fc fs.length fs ⟨q,kv,0,[]⟩ none 0 0 _ G6.out.rd rfl (by omega) HFS.out rfl (fun h=>absurd rfl h) (by show q.length≤1048576;have:=sO HFQ.out;omega) (by simp)).mono ?_;rintro r w7 ⟨g7,cv7,rfl,hG7,hb7⟩;have c7:=(hb7.cell (p:=⟨bu,ou+j,none⟩) hlt7).trans c6;have S7:=aA (S6.out.below hb7);have K7:=aA (K6.out.trans (aE.of_below hb7));have G7:=aA (hG7.mono (B':=w.heap.size) (by have:=K6.out.size;have:=K3.out.size;omega));clear hG7 hb7)))
        have HPD:=aA (zj8 (k:=kv) HPZ.out hq HR2.out HUp.out hl12 HKV.out);go_wp2_with fail
        go_roundw
        case rel=>exact ⟨j+1,cZ fs ⟨q,kv,0,[]⟩,by go_num,by omega,aA HPD.out.1,aA HPD.out.2,G7,aA (S7.out.mono (by omega)),K7⟩
        case measure=>simp[intOf];omega
       ·have hl12':¬ (fs.length:Int)<12:=by omega
        go_wp2_with fail
        go_roundw
        case rel=>exact ⟨j+1,fs,by go_num,by omega,HR2,aA (fun h=>absurd h (by omega)),HG2,aA (HS2.out.mono (by omega)),HK2⟩
        case measure=>simp[intOf];omega
      ·have HUq:=aA (show zo8 (bH (bB e.path.tail)) fs (j+1) from fun _=>.inr ⟨q,by rw[Nat.add_sub_cancel];exact hq,yP hdm hdp hdk⟩)
       go_wp2_with fail
       refine (cR _ _ d.kind _ d1).mono ?_;rintro r wr2 ⟨rfl,rfl⟩;rw[hdk];clear d1;go_wp2_with fail
       go_roundw
       case rel=>exact ⟨j+1,fs,by go_num,by omega,HR2,HUq,HG2,aA (HS2.out.mono (by omega)),HK2⟩
       case measure=>simp[intOf];omega
    ·have F9:=F3.out
     have R9:=aA (R3.out.kept HK2.out (fun hz x hx e=>by subst hx;have:=hRb.out x.block rfl;omega))
     have hbw3:b2<w3.heap.size:=F3.out.lt;have n0:¬ b2=p:=by omega
     have g0:=(HK2.out.cell (p:=⟨b2,0,none⟩) hbw3 n0).trans F9.1;have g1:=(HK2.out.cell (p:=⟨b2,1,none⟩) hbw3 n0).trans F9.2.1;have g2:=(HK2.out.cell (p:=⟨b2,2,none⟩) hbw3 n0).trans F9.2.2.1;have g3:=(HK2.out.cell (p:=⟨b2,3,none⟩) hbw3 n0).trans F9.2.2.2;clear F9;go_wp2_with fail
     refine (yD fv fc fs.length fs e a e.chunks.length c _ HG2.out.rd rfl (by omega) (cS HR2.out) rfl R9.out (by omega) (by omega)).mono ?_
     rintro r w5 ⟨av5,cv5,rfl,hG5,hb5⟩;have HPE:=aA (zta HR2.out e);have AR:=aA (aC w5 (.cells #[.int .i64 (dR fs e),.slice av5 (fQ fs e).length cv5] 190));have S9:=aA ((HS2.out.below hb5).below AR.out);have K9:=aA (((K3.out.trans HK2.out).trans (aE.of_below hb5)).alloc (.cells #[.int .i64 (dR fs e),.slice av5 (fQ fs e).length cv5] 190));have GO:=aA ((((HG2.out.below hb5).wide hb5.size).below AR.out).wide AR.out.size);have GN:=aA (((hG5.mono (B':=w.heap.size) (by have:=K3.out.size;omega)).below AR.out).wide AR.out.size)
     clear hG5 hb5 g0 g1 g2 g3;by_cases hc:dR fs e=0
     ·have hcP:eT fs e=0:=by rw[←HPE.out];exact hc
      have hPL:fQ fs e=cZ fs e:=by rw[fQ,if_pos hc]
      have HRN:=aA (uS hcP).2.2.2.2;rw[hc,hPL]at S9 K9 GO GN AR ⊢;clear hc hcP hPL;go_wp2_with fail
      go_roundw
      case rel=>exact ⟨m - 1,cZ fs e,by go_num,by omega,HRN,GN,aA (S9.out.mono (by omega)),K9⟩
      case measure=>simp[intOf];omega
     ·have hcn:(dR fs e==0)=false:=by simp;exact hc
      clear hc;generalize dR fs e=pc at *;generalize fQ fs e=pl at *;go_wp2_with fail
      go_roundw
      case rel=>exact ⟨m - 1,fs,by go_num,by omega,HR2,GO,aA (S9.out.mono (by omega)),K9⟩
      case measure=>simp[intOf];omega
  ·have hm':¬ (0:Int)<(m:Int):=by omega
   go_wp2_with fail
   go_ret
   exact ⟨es,lv,lc,rfl,HRi.out,HG.out,HSr.out.mono (by omega),HK.out⟩
end Go.Proofs.YtgaeikgoknoamaaGreat
