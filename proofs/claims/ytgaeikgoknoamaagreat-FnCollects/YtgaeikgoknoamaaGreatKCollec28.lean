/-
  Texts put together: ColT IteG ColU ColY.
-/
import Derived.Test.YtgaeikgoknoamaaGreatKCollec27
import Derived.Test.YtgaeikgoknoamaaGreatKCollec2
import Derived.Test.YtgaeikgoknoamaaGreatKCollec6
import Derived.Test.YtgaeikgoknoamaaGreatKCollec9
set_option linter.unusedVariables false
set_option maxHeartbeats 6400000
set_option maxRecDepth 100000
namespace Go.Proofs.YtgaeikgoknoamaaGreat
open Go.RowKit Go.Maps
attribute [local go_sem ↓] Go.wp_at_zero Go.wp_at_succ
theorem Box.lt' {w:World} {b:Nat} {u v:Value} (h:Box w b u v):b<w.heap.size:=h.1.lt
theorem wU (a:Option Addr) (c n:Nat) (l:List Sn) (w:World) (h:RdS w a l) (hn:n=l.length) (hl:l.length≤1048576) (hs:∀ s∈l,s.name.length≤1048576) :
  Calls Tryz.prog 30 #[.slice a n c] w fun r w'=>∃ x d,r=.returned (.slice x l.length d)∧bR w.heap.size w' (.slice x l.length d) (l.map Sn.name)∧Below w.heap.size w w':=by
 subst hn;obtain ⟨i1,ki,kz0,kz1,kz2⟩:=info_parts mI;have RD:=aA h;have HS:=aA hs;clear h hs;go_enter Tryz.func30,Tryz.ntmps30;go_wp2_with fail
 go_loopw [3,8] (fun v i wr=>∃ (k:Nat),k≤l.length∧i=.int .i64 k∧Hid (bR w.heap.size wr v ((l.take k).map Sn.name))∧Hid (Below w.heap.size w wr)) (fun _ i _=>l.length - (intOf i).toNat)
 case atStart=>exact ⟨0,by omega,rfl,aA (bR.nil _ _),aA (Below.refl _ _)⟩
 case round =>
  obtain ⟨k,hk,rfl,HO,HB⟩:=hrel;obtain ⟨va,vc,rfl⟩:=HO.out.shape;have hsz:=HB.out.size;by_cases hlt:k<l.length
  ·have hlt2:(k:Int)<(l.length:Int):=by omega
   obtain ⟨b,off,s,x,cc,rfl,hb,he,c0,c1,c2,c3,c4,hr⟩:=(RD.out.below HB.out).at hlt;have hpl:s.name.length≤1048576:=HS.out s (List.mem_of_getElem? he);have HST:=aA (show (l.take (k+1)).map Sn.name=(l.take k).map Sn.name ++ [s.name] by rw[List.take_add_one,he,List.map_append];rfl)
   have hfl:((l.take k).map Sn.name).length≤k:=by simp;omega
   have hps:(str s.name).size≤281474976710656:=by rw[aN];omega
   have BA:=aA (aC wr (.cells #[.string (str s.name),.string (str s.parent),.int .i64 s.kind,.bool s.lease,.slice x s.layer.length cc] 42));have F5:=aA (fF.new wr (.string (str s.name)) (.string (str s.parent)) (.int .i64 s.kind) (.bool s.lease) (.slice x s.layer.length cc) 42);obtain ⟨f0,f1,f2,f3,f4⟩:=F5.out;generalize (l.take k).map Sn.name=F at *;have hm1:F.length+1≤maxLen:=by unfold maxLen;omega
   have hm2:(F.length+1) * 16≤140737488355328:=by omega
   clear he hr;go_wp2_with fail
   refine (nQ (str s.name) _ hps).mono ?_;rintro e w2 ⟨rfl,hb2⟩;have B2:=aA (aB HB.out (aB BA.out hb2));have O2:=aA ((HO.out.below BA.out).below hb2);have hsz2:=B2.out.size;clear hb2 c0 c1 c2 c3 c4 f0 f1 f2 f3 f4 F5 BA HO HB;go_wp2_with (at_builtin;refine cH rfl (.tmp 12) (.tmp 16) 25 rfl w.heap.size 9 i1 (.string ⟨#[]⟩) 1 16 Tryz.underlying25 ki kz0 kz1 kz2 rfl (by decide) _ _ _ rfl O2.out rfl rfl (by intro u hu;simp at hu;subst hu;rfl) hm1 hm2 hsz2 ?_;intro v' w7 hown7 hkept;have O7:=aA hown7;have K7:=aA hkept;clear hown7 hkept)
   go_roundw
   case rel=>exact ⟨k+1,by omega,by go_num,by rw[HST.out];exact aA (bR.snoc O7.out rfl),aA (aE.below_own B2.out hsz2 O2.out K7.out)⟩
   case measure=>simp[intOf];omega
  ·have hke:l.take k=l:=List.take_of_length_le (by omega)
   have hlt2:¬ (k:Int)<(l.length:Int):=by omega
   rw[hke,List.length_map]at HO;rw[hke,List.length_map];clear hke;go_wp2_with fail
   go_ret
   exact ⟨va,vc,rfl,HO.out,HB.out⟩
theorem vW (a:Option Addr) (c n:Nat) (l:List Sn) (ra:Option Addr) (rc rn:Nat) (rs:List Bs) (w:World) (h:RdS w a l) (hn:n=l.length) (hs:bW l) (hrn:rn=rs.length) (hq:eM l rs≠0) :
  Calls Tryz.prog 8 #[.slice a n c,.slice ra rn rc] w (mD (eM l rs) [] w):=by
 subst hn;subst hrn;have X0:=aA (Box.new w (.int .i64 0) (.slice none 0 0) 32);have B0:=aA (aC w (.cells #[.int .i64 0,.slice none 0 0] 32));have HC:=aA (sM a c l.length l ra rc rs.length rs _ (h.below B0.out) rfl hs rfl hq);obtain ⟨q,hqe⟩:∃ q,q=eM l rs:=⟨_,rfl⟩;rw[←hqe]at HC hq ⊢;have hqb:(q==0)=false:=by simpa using hq
 clear h hs hqe;go_enter Tryz.func8,Tryz.ntmps8;go_wp2_with fail
 refine HC.out.mono ?_;rintro r w1 ⟨rfl,hb1⟩;have B1:=aA (aB B0.out hb1);have hlt:w.heap.size<w1.heap.size:=(X0.out.below hb1).lt';obtain ⟨⟨t0,t1⟩,t2,t3⟩:=X0.out.below hb1;clear hb1;go_wp2_with fail
 exact bodyPost_ret (v:=.agg #[.int .i64 q,.slice none 0 0]) (by simp[results,Tryz.results8,go_sem,t0,t1]) rfl (mD.of (B:=w1.heap.size) hlt (Nat.le_refl _) rfl (bR.nil _ _) B1.out)
theorem xJ (a:Option Addr) (c n:Nat) (l:List Sn) (ra:Option Addr) (rc rn:Nat) (rs:List Bs) (w:World) (h:RdS w a l) (hn:n=l.length) (hR:aP l) (hs:bW l) (hr:aU w ra rs) (hrn:rn=rs.length) (hrl:rs.length≤20) :
  Calls Tryz.prog 8 #[.slice a n c,.slice ra rn rc] w (mD 0 ((bX l rs).map Sn.name) w):=by
 subst hn;subst hrn;have X0:=aA (Box.new w (.int .i64 0) (.slice none 0 0) 32);have B0:=aA (aC w (.cells #[.int .i64 0,.slice none 0 0] 32));have HC:=aA (qC a c l.length l ra rc rs.length rs _ (h.below B0.out) rfl hR hs (hr.below B0.out) rfl hrl);have hll:(bX l rs).length≤10:=Nat.le_trans (List.length_filter_le ..) hR.len;have HNM:=aA (show ∀ s∈bX l rs,s.name.length≤1048576 from fun s hm=>(hs.2 s (List.mem_filter.1 hm).1).1)
 clear h hs hr hR;go_enter Tryz.func8,Tryz.ntmps8;go_wp2_with fail
 refine HC.out.mono ?_;rintro r w1 ⟨x1,c1,x2,c2,rfl,hL,hD,hb1⟩;have RD:=aA (hL.rd hb1);have B1:=aA (aB B0.out hb1);have X1:=aA (X0.out.below hb1);clear hb1 hL hD;obtain ⟨⟨t0,t1⟩,t2,t3⟩:=X1.out;go_wp2_with fail
 refine (wU x1 _ (bX l rs).length (bX l rs) w1 RD.out rfl (by omega) HNM.out).mono ?_
 rintro r w2 ⟨y,d,rfl,hO,hb2⟩;have HO:=aA hO;have B2:=aA (aB B1.out hb2);have hlt:w.heap.size<w1.heap.size:=X1.out.lt';obtain ⟨⟨t0,t1⟩,t2,t3⟩:=X1.out.below hb2;clear hO hb2;go_wp2_with fail
 exact bodyPost_ret (v:=.agg #[.int .i64 0,.slice y (bX l rs).length d]) (by simp[results,Tryz.results8,go_sem,t0,t1]) rfl (mD.of (B:=w1.heap.size) hlt (Nat.le_refl _) (by rw[List.length_map]) HO.out B2.out)
theorem zX (a:Option Addr) (c n:Nat) (l:List Sn) (ra:Option Addr) (rc rn:Nat) (rs:List Bs) (w:World) (h:RdS w a l) (hn:n=l.length) (hs:bW l) (hrn:rn=rs.length) (hq:eM l rs≠0) :
  Calls Tryz.prog 9 #[.slice a n c,.slice ra rn rc] w (mD (eM l rs) [] w):=by
 subst hn;subst hrn;have X0:=aA (Box.new w (.int .i64 0) (.slice none 0 0) 32);have B0:=aA (aC w (.cells #[.int .i64 0,.slice none 0 0] 32));have HC:=aA (sM a c l.length l ra rc rs.length rs _ (h.below B0.out) rfl hs rfl hq);obtain ⟨q,hqe⟩:∃ q,q=eM l rs:=⟨_,rfl⟩;rw[←hqe]at HC hq ⊢;have hqb:(q==0)=false:=by simpa using hq
 clear h hs hqe;go_enter Tryz.func9,Tryz.ntmps9;go_wp2_with fail
 refine HC.out.mono ?_;rintro r w1 ⟨rfl,hb1⟩;have B1:=aA (aB B0.out hb1);have hlt:w.heap.size<w1.heap.size:=(X0.out.below hb1).lt';obtain ⟨⟨t0,t1⟩,t2,t3⟩:=X0.out.below hb1;clear hb1;go_wp2_with fail
 exact bodyPost_ret (v:=.agg #[.int .i64 q,.slice none 0 0]) (by simp[results,Tryz.results9,go_sem,t0,t1]) rfl (mD.of (B:=w1.heap.size) hlt (Nat.le_refl _) rfl (bR.nil _ _) B1.out)
theorem zj2 (a:Option Addr) (c n:Nat) (l:List Sn) (ra:Option Addr) (rc rn:Nat) (rs:List Bs) (w:World) (h:RdS w a l) (hn:n=l.length) (hR:aP l) (hs:bW l) (hr:aU w ra rs) (hrn:rn=rs.length) (hrl:rs.length≤20) :
  Calls Tryz.prog 9 #[.slice a n c,.slice ra rn rc] w (mD 0 ((kE l rs).map Sn.name) w):=by
 subst hn;subst hrn;have X0:=aA (Box.new w (.int .i64 0) (.slice none 0 0) 32);have B0:=aA (aC w (.cells #[.int .i64 0,.slice none 0 0] 32));have HC:=aA (qC a c l.length l ra rc rs.length rs _ (h.below B0.out) rfl hR hs (hr.below B0.out) rfl hrl);have hll:(kE l rs).length≤10:=Nat.le_trans (List.length_filter_le ..) hR.len;have HNM:=aA (show ∀ s∈kE l rs,s.name.length≤1048576 from fun s hm=>(hs.2 s (List.mem_filter.1 hm).1).1)
 clear h hs hr hR;go_enter Tryz.func9,Tryz.ntmps9;go_wp2_with fail
 refine HC.out.mono ?_;rintro r w1 ⟨x1,c1,x2,c2,rfl,hL,hD,hb1⟩;have RD:=aA (hD.rd hb1);have B1:=aA (aB B0.out hb1);have X1:=aA (X0.out.below hb1);clear hb1 hL hD;obtain ⟨⟨t0,t1⟩,t2,t3⟩:=X1.out;go_wp2_with fail
 refine (wU x2 _ (kE l rs).length (kE l rs) w1 RD.out rfl (by omega) HNM.out).mono ?_
 rintro r w2 ⟨y,d,rfl,hO,hb2⟩;have HO:=aA hO;have B2:=aA (aB B1.out hb2);have hlt:w.heap.size<w1.heap.size:=X1.out.lt';obtain ⟨⟨t0,t1⟩,t2,t3⟩:=X1.out.below hb2;clear hO hb2;go_wp2_with fail
 exact bodyPost_ret (v:=.agg #[.int .i64 0,.slice y (kE l rs).length d]) (by simp[results,Tryz.results9,go_sem,t0,t1]) rfl (mD.of (B:=w1.heap.size) hlt (Nat.le_refl _) (by rw[List.length_map]) HO.out B2.out)
theorem rW (a:Option Addr) (c n:Nat) (l:List Sn) (ra:Option Addr) (rc rn:Nat) (rs:List Bs) (w:World) (h:RdS w a l) (hn:n=l.length) (hs:bW l) (hrn:rn=rs.length) (hq:eM l rs≠0) :
  Calls Tryz.prog 7 #[.slice a n c,.slice ra rn rc] w (zO (eM l rs) 0 [] w):=by
 subst hn;subst hrn;have X0:=aA (dE.new w (.int .i64 0) (.int .i64 0) (.slice none 0 0) 29);have B0:=aA (aC w (.cells #[.int .i64 0,.int .i64 0,.slice none 0 0] 29));have HC:=aA (sM a c l.length l ra rc rs.length rs _ (h.below B0.out) rfl hs rfl hq);obtain ⟨q,hqe⟩:∃ q,q=eM l rs:=⟨_,rfl⟩;rw[←hqe]at HC hq ⊢;have hqb:(q==0)=false:=by simpa using hq
 clear h hs hqe;go_enter Tryz.func7,Tryz.ntmps7;go_wp2_with fail
 refine HC.out.mono ?_;rintro r w1 ⟨rfl,hb1⟩;have B1:=aA (aB B0.out hb1);have hlt:w.heap.size<w1.heap.size:=(X0.out.below hb1).lt;obtain ⟨⟨t0,t1,t2⟩,t3,t4,t5⟩:=X0.out.below hb1;clear hb1;go_wp2_with fail
 exact bodyPost_ret (v:=.agg #[.int .i64 q,.int .i64 0,.slice none 0 0]) (by simp[results,Tryz.results7,go_sem,t0,t1,t2]) rfl (zO.of (B:=w1.heap.size) hlt (Nat.le_refl _) rfl (nC.nil _ _ _) B1.out)
theorem mP (a:Option Addr) (c n:Nat) (l:List Sn) (ra:Option Addr) (rc rn:Nat) (rs:List Bs) (w:World) (h:RdS w a l) (hn:n=l.length) (hR:aP l) (hs:bW l) (hr:aU w ra rs) (hrn:rn=rs.length) (hrl:rs.length≤20) :
  Calls Tryz.prog 7 #[.slice a n c,.slice ra rn rc] w (zO 0 0 (bX l rs) w):=by
 subst hn;subst hrn;have X0:=aA (dE.new w (.int .i64 0) (.int .i64 0) (.slice none 0 0) 29);have B0:=aA (aC w (.cells #[.int .i64 0,.int .i64 0,.slice none 0 0] 29));have HC:=aA (qC a c l.length l ra rc rs.length rs _ (h.below B0.out) rfl hR hs (hr.below B0.out) rfl hrl);have hll:(bX l rs).length≤10:=Nat.le_trans (List.length_filter_le ..) hR.len;have HSM:=aA (show bW (bX l rs) from ⟨by omega,fun s hm=>hs.2 s (List.mem_filter.1 hm).1⟩)
 clear h hs hr hR;go_enter Tryz.func7,Tryz.ntmps7;go_wp2_with fail
 refine HC.out.mono ?_;rintro r w1 ⟨x1,c1,x2,c2,rfl,hL,hD,hb1⟩;have RD:=aA (hL.rd hb1);have B1:=aA (aB B0.out hb1);have X1:=aA (X0.out.below hb1);clear hb1 hL hD;obtain ⟨⟨t0,t1,t2⟩,t3,t4,t5⟩:=X1.out;go_wp2_with fail
 refine (yK x1 _ (bX l rs).length (bX l rs) w1 RD.out rfl (by omega) HSM.out).mono ?_
 rintro r w2 ⟨y,d,rfl,hO,hb2⟩;have HO:=aA hO;have B2:=aA (aB B1.out hb2);have hlt:w.heap.size<w1.heap.size:=X1.out.lt;obtain ⟨⟨t0,t1,t2⟩,t3,t4,t5⟩:=X1.out.below hb2;clear hO hb2;go_wp2_with fail
 exact bodyPost_ret (v:=.agg #[.int .i64 0,.int .i64 0,.slice y (bX l rs).length d]) (by simp[results,Tryz.results7,go_sem,t0,t1,t2]) rfl (zO.of (B:=w1.heap.size) hlt (Nat.le_refl _) rfl HO.out B2.out)
theorem zhb (a:Option Addr) (c:Nat) (ms:List Int) (z:Int) (w:World) (h:aZ .i64 w a ms) (hl:ms.length≤1048576) :
  Calls Tryz.prog 106 #[.slice a ms.length c,.int .i64 z] w fun e w'=>(∃ i:Int,e=.returned (.int .i64 i)∧decide (0≤i)=ms.contains z∧-1≤i∧i≤1048576)∧w'=w:=by
 have HA:=aA h;clear h;generalize hr:ms.contains z=r;have HR:=aA hr;clear hr;go_enter Tryz.func106,Tryz.ntmps106;go_wp2
 go_loop [5,8] (fun _ i=>∃ k:Nat,k≤ms.length∧i=.int .i64 k∧∀ j,j<k→ms.getD j 0≠z) (fun _ i=>ms.length - (intOf i).toNat)
 case atStart=>exact ⟨0,Nat.zero_le _,rfl,fun j hj=>absurd hj (by omega)⟩
 case round =>
  obtain ⟨k,hk,rfl,hF⟩:=hrel;have HF:=aA hF;clear hF;by_cases hlt:k<ms.length
  ·obtain ⟨b,off,rfl,hb1,hc⟩:=HA.out (by intro e;simp[e]at hlt)
   have hc1:=hc k hlt;generalize hy:ms.getD k 0=y at hc1;have HY:=aA hy;clear hy hc;by_cases e:y=z
   ·have e':(z==y)=true:=by simpa using e.symm
    have HE:=aA e;clear e;go_wp2
    go_ret
    exact ⟨⟨_,rfl,by rw[←HR.out,zd8 hlt (HY.out.trans HE.out)];simp,by omega,by omega⟩,rfl⟩
   ·have e':(z==y)=false:=by simpa using fun h=>e h.symm
    go_wp2
    go_round
    case rel=>exact ⟨k+1,by omega,by go_num,fun j hj=>by
     by_cases ej:j=k
     ·subst ej;rw[HY.out];exact e
     ·exact HF.out j (by omega)⟩
    case measure=>simp[intOf];omega
  ·go_wp2
   go_ret
   exact ⟨⟨_,rfl,by rw[←HR.out,zq3 (fun j hj=>HF.out j (by omega))];simp,by omega,by omega⟩,rfl⟩
theorem tH (a:Option Addr) (c:Nat) (ms:List Int) (z:Int) (w:World) (h:aZ .i64 w a ms) (hl:ms.length≤1048576) :
  Calls Tryz.prog 62 #[.slice a ms.length c,.int .i64 z] w fun e w'=>e=.returned (.bool (ms.contains z))∧w'=w:=by
 have HC:=aA (zhb a c ms z w h hl);clear h;generalize ms.contains z=r at *;go_enter Tryz.func62,Tryz.ntmps62;go_wp2_with fail
 refine HC.out.mono ?_;rintro e w1 ⟨⟨i,rfl,hi,h1,h2⟩,rfl⟩;subst hi;go_wp2_with fail
 go_ret
 exact ⟨rfl,rfl⟩
def jA (es:List En):List Int:=if aQ es=0 then dU (eF es) else []
theorem xI (a:Option Addr) (c n:Nat) (es:List En) (w:World) (h:RdE w a es) (hn:n=es.length) (hl:es.length≤1048576) (hs:bJ es) :
  Calls Tryz.prog 25 #[.slice a n c] w (xB (aQ es) (jA es) w):=by
 subst hn;obtain ⟨i0,hi0,hz0,hz1,hz2⟩:=info_parts Tryz.infoI64;have X0:=aA (Box.new w (.int .i64 0) (.slice none 0 0) 50);have B0:=aA (aC w (.cells #[.int .i64 0,.slice none 0 0] 50));have HR:=aA h;have HS:=aA hs;clear h hs;go_enter Tryz.func25,Tryz.ntmps25;go_wp2_with fail
 refine (gK a c es.length es _ (HR.out.below B0.out) rfl hl HS.out).mono ?_;rintro r w1 ⟨rfl,hb1⟩;have B1:=aA (aB B0.out hb1);have X1:=aA (X0.out.below hb1);clear hb1 X0 B0;by_cases hz:aQ es=0
 ·have HCC:=aA (show aQ es=0∧jA es=dU (eF es) from ⟨hz,by rw[jA,if_pos hz]⟩)
  have HRi:=aA (dM.1 hz);have hl12:=HRi.out.len;have HCh:=aA (fun e he=>fK (HRi.out.ent e he))
  rw[hz];clear hz;have hb0:w.heap.size<w1.heap.size:=X1.out.1.lt;have HA:=aA (HR.out.below B1.out);go_wp2_with fail
  go_loopw [4,17] (fun v i wr=>∃ j:Nat,j≤es.length∧i=.int .i64 j∧Hid (wr.ownsRow w1.heap.size 2 1 v (dU (eF (es.take j))).length ((dU (eF (es.take j))).map (Value.int .i64)))∧Hid (Below w1.heap.size w1 wr)) (fun _ i _=>es.length - (intOf i).toNat)
  case atStart=>exact ⟨0,Nat.zero_le _,rfl,aA (World.ownsRow_nil _ _ _ _),aA (Below.refl _ _)⟩
  case round =>
   obtain ⟨j,hj,rfl,HO,HW⟩:=hrel;by_cases hlt:j<es.length
   ·obtain ⟨b,off,e,x,cc,rfl,hb0',he,c0',c1',c2',c3',hr⟩:=HA.out.at hlt
    have c0:=(HW.out.cell (p:=⟨b,off+j * 4,none⟩) hb0').trans c0';have c1:=(HW.out.cell (p:=⟨b,off+j * 4+1,none⟩) hb0').trans c1';have c2:=(HW.out.cell (p:=⟨b,off+j * 4+2,none⟩) hb0').trans c2';have c3:=(HW.out.cell (p:=⟨b,off+j * 4+3,none⟩) hb0').trans c3';clear c0' c1' c2' c3';have HX:=aA he;have BA:=aA (aC wr (.cells #[.string (str e.path),.int .i64 e.kind,.int .i64 e.size,.slice x e.chunks.length cc] 87));have HRc:=aA hr;have hsm:=HCh.out e (List.mem_of_getElem? he);clear he hr;rw[←zz1 es j e]at HO;have HO1:=aA (aJ HO.out BA.out);have HW1:=aA (aB HW.out BA.out)
    go_wp2_with fail
    clear c0 c1 c2 c3;generalize wr.alloc (.cells #[.string (str e.path),.int .i64 e.kind,.int .i64 e.size,.slice x e.chunks.length cc] 87)=W at *;have hct:(eF (es.take j)).length≤12 * 1024:=by
     have h1:=xD (es:=es.take j) (fun y hy=>by have:=HCh.out y (List.mem_of_mem_take hy);omega)
     have h2:=eW hj;omega
    go_loopw [4,24] (fun v i w2=>∃ k:Nat,k≤e.chunks.length∧i=.int .i64 k∧Hid (w2.ownsRow w1.heap.size 2 1 v (dU (jW es j e k)).length ((dU (jW es j e k)).map (Value.int .i64)))∧Hid (Below w1.heap.size w1 w2)) (fun _ i _=>e.chunks.length - (intOf i).toNat)
    case atStart=>exact ⟨0,Nat.zero_le _,rfl,HO1,HW1⟩
    case round =>
     obtain ⟨k,hk,rfl,HO2,HW2⟩:=hrel;by_cases hkl:k<e.chunks.length
     ·obtain ⟨p1,r1,rfl,hp1,hy1⟩:=(HRc.out.below HW2.out) (by intro e;simp[e]at hkl)
      have y1:=hy1 k hkl;have z1:e.chunks[k]?=some (e.chunks.getD k 0):=by rw[List.getD_eq_getElem?_getD,List.getElem?_eq_getElem hkl];rfl
      generalize e.chunks.getD k 0=z at y1 z1;have HU:=aA ((congrArg dU (zy1 (es:=es) (j:=j) z1)).trans (zG _ z));have hcl:=xQ (jW es j e k);have hcu:(jW es j e k).length≤12 * 1024+1024:=by unfold jW;rw[List.length_append,List.length_take];omega
      clear hy1 z1;generalize dU (jW es j e k)=ms at *;obtain ⟨av,cv,rfl⟩:=aR HO2.out;have RM:=aA (cY HO2.out rfl);have HAm:=aA (tH av cv ms z _ RM.out (by omega))
      have hm1:ms.length+1≤maxLen:=by unfold maxLen;omega
      have hm2:(ms.length+1) * 8≤140737488355328:=by omega
      have hsz:=HW2.out.size;cases hcn:ms.contains z
      ·have HN:=aA (show dW ms z=ms ++ [z] from by unfold dW;rw[hcn];rfl)
       rw[hcn]at HAm;clear hcn;go_wp2_with (first | (go_at_call 62;refine HAm.out.mono ?_;rintro r w9 ⟨rfl,rfl⟩) | (at_builtin;refine cH rfl (.tmp 32) (.tmp 34) 48 rfl w1.heap.size 2 i0 (.int .i64 0) 1 8 Tryz.underlying48 hi0 hz0 hz1 hz2 rfl (by decide) _ _ _ rfl HO2.out rfl rfl (by intro u hu;simp at hu;subst hu;rfl) hm1 hm2 hsz ?_;intro v' w3 hown2 hkept;have O2:=aA hown2;have K2:=aA hkept;clear hown2 hkept))
       go_roundw
       case rel=>exact ⟨k+1,by omega,by go_num,aA (by rw[HU.out,HN.out];simpa using O2.out),aA (HW2.out.trans (K2.out.below hsz (fun q hq hS=>by have:=(HO2.out.lt _ hS).1;omega)))⟩
       case measure=>simp[intOf];omega
      ·have HN:=aA (show dW ms z=ms from by unfold dW;rw[hcn];rfl)
       rw[hcn]at HAm;clear hcn;go_wp2_with (go_at_call 62;refine HAm.out.mono ?_;rintro r w9 ⟨rfl,rfl⟩)
       go_roundw
       case rel=>exact ⟨k+1,by omega,by go_num,aA (by rw[HU.out,HN.out];exact HO2.out),HW2⟩
       case measure=>simp[intOf];omega
     ·have HU:=aA (zs5 (k:=k) HX.out (by omega))
      go_wp2_with fail
      go_roundw
      case rel=>exact ⟨j+1,by omega,by go_num,aA (by rw[←HU.out];exact HO2.out),HW2⟩
      case measure=>simp[intOf];omega
   ·have hE:es.take j=es:=List.take_of_length_le (by omega)
    rw[hE]at HO;clear hE;obtain ⟨av,cv,rfl⟩:=aR HO.out;obtain ⟨⟨t0,t1⟩,t2,t3⟩:=X1.out.below HW.out;have B3:=aA (aB B1.out HW.out);go_wp2_with fail
    refine bodyPost_ret (v:=.agg #[.int .i64 0,.slice av (dU (eF es)).length cv]) (by simp[results,Tryz.results25,go_sem,t0,t1]) rfl ?_
    rw[HCC.out.1,HCC.out.2];refine ⟨av,cv,rfl,?_,(B3.out.setCell (Nat.le_refl _) _).setCell (Nat.le_refl _) _⟩;exact aW (aK (S:=fun b=>b=w.heap.size) HO.out (aE.two _ _ _ _ _ _) (fun b hb e=>by have:=(HO.out.lt b hb).1;omega)) (by omega)
 ·have HCC:=aA (show jA es=[] from by rw[jA,if_neg hz])
  generalize aQ es=F at *;have hz2:(F != 0)=true:=by simp;exact hz
  clear hz;obtain ⟨⟨t0,t1⟩,t2,t3⟩:=X1.out;go_wp2_with fail
  refine bodyPost_ret (v:=.agg #[.int .i64 F,.slice none 0 0]) (by simp[results,Tryz.results25,go_sem,t0,t1]) rfl ?_
  rw[HCC.out];exact ⟨none,0,rfl,World.ownsRow_nil _ _ _ _,(B1.out.setCell (Nat.le_refl _) _).setCell (Nat.le_refl _) _⟩
theorem xC (zs acc:List Int):(zs.foldl dW acc).length≤acc.length+zs.length:=by
 induction zs generalizing acc with
 | nil=>simp
 | cons z zs ih =>
  rw[List.foldl_cons];have h1:=ih (dW acc z);have h2:(dW acc z).length≤acc.length+1:=by
   unfold dW;split <;> simp
  simp
  omega
theorem zm0 {zs acc:List Int} {j:Nat} (h:j<zs.length):(zs.take (j+1)).foldl dW acc=dW ((zs.take j).foldl dW acc) (zs.getD j 0):=by
 have hg:zs[j]?=some (zs.getD j 0):=by rw[List.getD_eq_getElem?_getD,List.getElem?_eq_getElem h];rfl
 rw[List.take_add_one,hg,List.foldl_append];rfl
theorem sK {es:List En} (h:bD es):(dU (eF es)).length≤12288:=by
 have h1:=xQ (eF es);have h2:=xD (es:=es) (fun e he=>by have:=fK (h.ent e he);omega)
 have:=h.len;omega
theorem oC:∀ {l:List Sn},(∀ s∈l,bD s.layer)→(cV l).length≤l.length * 12288:=by
 have key:∀ (l:List Sn) (acc:List Int),(∀ s∈l,bD s.layer)→(l.foldl (fun acc s=>(dU (eF s.layer)).foldl dW acc) acc).length≤acc.length+l.length * 12288:=by
  intro l
  induction l with
  | nil=>intro acc _;simp
  | cons s l ih =>
   intro acc h;rw[List.foldl_cons];have h1:=ih ((dU (eF s.layer)).foldl dW acc) (fun y hy=>h y (List.mem_cons_of_mem _ hy))
   have h2:=xC (dU (eF s.layer)) acc;have h3:=sK (h s (List.mem_cons_self ..));simp only[List.length_cons];omega
 intro l h;have:=key l [] h;unfold cV;simpa using this
def zn8 (a:Option Addr) (v:Value):Prop:=∀ x,a=some x→∀ g,v.ownBlock=some g→g≠x.block
theorem vU (a:Option Addr) (c n:Nat) (l:List Sn) (w:World) (h:RdS w a l) (hn:n=l.length) (hl:l.length≤10) (hs:∀ s∈l,bD s.layer) :
  Calls Tryz.prog 49 #[.slice a n c] w fun r w'=>∃ x d,r=.returned (.slice x (cV l).length d)∧w'.ownsRow w.heap.size 2 1 (.slice x (cV l).length d) (cV l).length ((cV l).map (Value.int .i64))∧Below w.heap.size w w':=by
 subst hn;obtain ⟨i1,ki,kz0,kz1,kz2⟩:=info_parts Tryz.infoI64;have RD:=aA h;have HS:=aA hs;clear h hs;go_enter Tryz.func49,Tryz.ntmps49;go_wp2_with fail
 go_loopw [3,10] (fun v i wr=>∃ (k:Nat),k≤l.length∧i=.int .i64 k∧Hid (wr.ownsRow w.heap.size 2 1 v (cV (l.take k)).length ((cV (l.take k)).map (Value.int .i64)))∧Hid (Below w.heap.size w wr)) (fun _ i _=>l.length - (intOf i).toNat)
 case atStart=>exact ⟨0,by omega,rfl,aA (World.ownsRow_nil _ _ _ _),aA (Below.refl _ _)⟩
 case round =>
  obtain ⟨k,hk,rfl,HO,HB⟩:=hrel;obtain ⟨va,vc,hv⟩:=aR HO.out;subst hv;have hsz:=HB.out.size;by_cases hlt:k<l.length
  ·have hlt2:(k:Int)<(l.length:Int):=by omega
   obtain ⟨b,off,s,x,cc,rfl,hb,he,c0,c1,c2,c3,c4,hr⟩:=(RD.out.below HB.out).at hlt;have hRl:=HS.out s (List.mem_of_getElem? he);have HST:=aA (show cV (l.take (k+1))=(dU (eF s.layer)).foldl dW (cV (l.take k)) by rw[List.take_add_one,he];exact tP _ _)
   have HDL:=aA (oC (l:=l.take k) (fun y hy=>HS.out y (List.mem_of_mem_take hy)))
   have htk:(l.take k).length=k:=by rw[List.length_take];omega
   have BA:=aA (aC wr (.cells #[.string (str s.name),.string (str s.parent),.int .i64 s.kind,.bool s.lease,.slice x s.layer.length cc] 42));have F5:=aA (fF.new wr (.string (str s.name)) (.string (str s.parent)) (.int .i64 s.kind) (.bool s.lease) (.slice x s.layer.length cc) 42);have HCI:=aA (xI x cc s.layer.length s.layer _ (hr.below BA.out) rfl (by have:=hRl.len;omega) (cS hRl))
   rw[dM.2 hRl,show jA s.layer=dU (eF s.layer) by rw[jA,if_pos (dM.2 hRl)]]at HCI
   have hzl:=sK hRl;generalize dU (eF s.layer)=zs at *;obtain ⟨DK,hDK⟩:∃ DK,DK=cV (l.take k):=⟨_,rfl⟩;rw[←hDK]at HO HST HDL ⊢;have hdl:DK.length≤122880:=by have:=HDL.out;omega
   clear hDK HDL htk;obtain ⟨f0,f1,f2,f3,f4⟩:=F5.out;clear he hr hRl;go_wp2_with fail
   refine HCI.out.mono ?_;rintro e w2 ⟨za,zc,rfl,hOz,hb2⟩;have hfd:∀ u:World,(Instr.field 50 (.agg #[.int .i64 0,.slice za zs.length zc]) 1).run Tryz.prog u=.ok (.slice za zs.length zc) u:=fun _=>by kernel_rfl
   have B2:=aA (aB HB.out (aB BA.out hb2));have O2:=aA (aJ (aJ HO.out BA.out) hb2);have RZ:=aA (cY hOz rfl);have HZB:=aA (show ∀ y,za=some y→y.block<w2.heap.size∧wr.heap.size≤y.block from fun y hy=>by
    subst hy;have h9:=hOz.lt y.block rfl;have h8:=BA.out.size;exact ⟨h9.2,by omega⟩)
   have HFZ:Hid (zn8 za (.slice va DK.length vc)):=aA (fun y hy g hg e=>by
    have h9:=(HO.out.lt g hg).2;have h8:=(HZB.out y hy).2;omega)
   clear hb2 hOz c0 c1 c2 c3 c4 f0 f1 f2 f3 f4 F5 HO HB BA HCI;go_wp2_with fail
   go_loopw [3,19] (fun v i wx=>∃ (j:Nat),j≤zs.length∧i=.int .i64 j∧Hid (wx.ownsRow w.heap.size 2 1 v ((zs.take j).foldl dW DK).length (((zs.take j).foldl dW DK).map (Value.int .i64)))∧Hid (aZ .i64 wx za zs)∧Hid (zn8 za v)∧Hid (∀ y,za=some y→y.block<wx.heap.size)∧Hid (Below w.heap.size w wx)) (fun _ i _=>zs.length - (intOf i).toNat)
   case atStart=>exact ⟨0,by omega,rfl,O2,RZ,HFZ,aA (fun y hy=>(HZB.out y hy).1),B2⟩
   case round =>
    obtain ⟨j,hj,rfl,HOx,HRx,HAx,HLx,HBx⟩:=hrel;obtain ⟨xa,xc,hv⟩:=aR HOx.out;subst hv;have hszx:=HBx.out.size;by_cases hltj:j<zs.length
    ·have hltj2:(j:Int)<(zs.length:Int):=by omega
     obtain ⟨zb,zo,rfl,hzb,hzc⟩:=HRx.out (by intro e;simp[e]at hltj)
     have hz:=hzc j hltj;clear hzc;have HAT:=aA (zm0 (acc:=DK) hltj);obtain ⟨z,hze⟩:∃ z,z=zs.getD j 0:=⟨_,rfl⟩;rw[←hze]at hz HAT;have hDl:=xC (zs.take j) DK;have htl:(zs.take j).length=j:=by rw[List.length_take];omega
     obtain ⟨D,hD⟩:∃ D,D=(zs.take j).foldl dW DK:=⟨_,rfl⟩;rw[←hD]at HOx HAT hDl HAx ⊢;have hDb:D.length≤200000:=by omega
     clear hD hDl htl hze;have hm1:D.length+1≤maxLen:=by unfold maxLen;omega
     have hm2:(D.length+1) * 8≤140737488355328:=by omega
     go_wp2_with fail
     refine (tH xa xc D z _ (cY HOx.out rfl) (by omega)).mono ?_
     rintro e w6 ⟨rfl,hw6⟩;subst hw6;cases hcn:D.contains z with
     | true =>
      have HST2:=aA (HAT.out.trans (show dW D z=D by unfold dW;rw[if_pos hcn]))
      clear hcn;go_wp2_with fail
      go_roundw
      case rel=>exact ⟨j+1,by omega,by go_num,by rw[HST2.out];exact HOx,HRx,HAx,HLx,HBx⟩
      case measure=>simp[intOf];omega
     | false =>
      have HST2:=aA (HAT.out.trans (show dW D z=D ++ [z] by unfold dW;rw[hcn];rfl))
      clear hcn;go_wp2_with (at_builtin;refine eE rfl (.tmp 27) (.tmp 29) 48 rfl w.heap.size 2 i1 (.int .i64 0) 1 8 Tryz.underlying48 ki kz0 kz1 kz2 rfl (by decide) _ _ _ rfl HOx.out rfl rfl (by intro u hu;simp at hu;subst hu;rfl) hm1 hm2 hszx ?_;intro v' w7 hown7 hkept hat;have O7:=aA hown7;have K7:=aA hkept;have A7:=aA hat;clear hown7 hkept hat)
      go_roundw
      case rel =>
       refine ⟨j+1,by omega,by go_num,by rw[HST2.out];exact aA (by simpa using O7.out),aA ?_,aA ?_,aA (fun y hy=>Nat.lt_of_lt_of_le (HLx.out y hy) K7.out.size),aA (aE.below_own HBx.out hszx HOx.out K7.out)⟩
       ·exact HRx.out.kept K7.out (fun hz y hy e=>HAx.out y hy _ e rfl)
       ·intro y hy g hg e9
        rcases A7.out with e | ⟨g2,e,hg2⟩
        ·exact HAx.out y hy g (e.symm.trans hg) e9
        ·rw[e]at hg
         have h7:=Option.some.inj hg;have h8:=HLx.out y hy;omega
      case measure=>simp[intOf];omega
    ·have hje:zs.take j=zs:=List.take_of_length_le (by omega)
     have hltj2:¬ (j:Int)<(zs.length:Int):=by omega
     rw[hje]at HOx ⊢;clear hje;go_wp2_with fail
     go_roundw
     case rel=>exact ⟨k+1,by omega,by go_num,by rw[HST.out];exact HOx,HBx⟩
     case measure=>simp[intOf];omega
  ·have hke:l.take k=l:=List.take_of_length_le (by omega)
   have hlt2:¬ (k:Int)<(l.length:Int):=by omega
   rw[hke]at HO ⊢;clear hke;go_wp2_with fail
   go_ret
   exact ⟨va,vc,rfl,HO.out,HB.out⟩
theorem xB.of' {q:Int} {zs:List Int} {w w3:World} {B b n:Nat} {av:Option Addr} {cv:Nat} {u v:Value} (hB:b<B) (hw:w.heap.size≤b) (hn:n=zs.length) (hG:w3.ownsRow B 2 1 (.slice av n cv) n (zs.map (Value.int .i64))) (hb:Below w.heap.size w w3) :
  xB q zs w (.returned (.agg #[.int .i64 q,.slice av n cv])) ((w3.setCell ⟨b,0,none⟩ u).setCell ⟨b,1,none⟩ v):=by
 subst hn;exact ⟨av,cv,rfl,aW (aK hG (aE.two w3 b 0 1 u v) (fun g hg e=>by have:=(hG.lt g hg).1;omega)) (by omega),(hb.setCell (p:=⟨b,0,none⟩) hw _).setCell (p:=⟨b,1,none⟩) hw _⟩
theorem vV (a:Option Addr) (c n:Nat) (l:List Sn) (ra:Option Addr) (rc rn:Nat) (rs:List Bs) (w:World) (h:RdS w a l) (hn:n=l.length) (hR:aP l) (hs:bW l) (hr:aU w ra rs) (hrn:rn=rs.length) (hrl:rs.length≤20) :
  Calls Tryz.prog 18 #[.slice a n c,.slice ra rn rc] w (xB 0 (cV (bX l rs)) w):=by
 subst hn;subst hrn;have X0:=aA (Box.new w (.int .i64 0) (.slice none 0 0) 50);have B0:=aA (aC w (.cells #[.int .i64 0,.slice none 0 0] 50));have HC:=aA (qC a c l.length l ra rc rs.length rs _ (h.below B0.out) rfl hR hs (hr.below B0.out) rfl hrl);have hll:(bX l rs).length≤10:=Nat.le_trans (List.length_filter_le ..) hR.len;have HRT:=aA (show ∀ s∈bX l rs,bD s.layer from fun s hm=>dM.1 (hR.own s (List.mem_filter.1 hm).1).2.2)
 clear h hs hr hR;go_enter Tryz.func18,Tryz.ntmps18;go_wp2_with fail
 refine HC.out.mono ?_;rintro r w1 ⟨x1,c1,x2,c2,rfl,hL,hD,hb1⟩;have RD:=aA (hL.rd hb1);have B1:=aA (aB B0.out hb1);have X1:=aA (X0.out.below hb1);clear hb1 hL hD;obtain ⟨⟨t0,t1⟩,t2,t3⟩:=X1.out;go_wp2_with fail
 refine (vU x1 _ (bX l rs).length (bX l rs) w1 RD.out rfl hll HRT.out).mono ?_;rintro r w2 ⟨y,d,rfl,hO,hb2⟩;have HO:=aA hO;have B2:=aA (aB B1.out hb2);have hlt:w.heap.size<w1.heap.size:=X1.out.lt';obtain ⟨⟨t0,t1⟩,t2,t3⟩:=X1.out.below hb2;clear hO hb2;go_wp2_with fail
 exact bodyPost_ret (v:=.agg #[.int .i64 0,.slice y (cV (bX l rs)).length d]) (by simp[results,Tryz.results18,go_sem,t0,t1]) rfl (xB.of' (B:=w1.heap.size) hlt (Nat.le_refl _) rfl HO.out B2.out)
theorem yB (a:Option Addr) (c n:Nat) (l:List Sn) (ra:Option Addr) (rc rn:Nat) (rs:List Bs) (w:World) (h:RdS w a l) (hn:n=l.length) (hR:aP l) (hs:bW l) (hr:aU w ra rs) (hrn:rn=rs.length) (hrl:rs.length≤20) :
  Calls Tryz.prog 13 #[.slice a n c,.slice ra rn rc] w (mD 0 ((bX l rs).map Sn.name) w):=by
 have X0:=aA (Box.new w (.int .i64 0) (.slice none 0 0) 32);have B0:=aA (aC w (.cells #[.int .i64 0,.slice none 0 0] 32));have HC:=aA (zu6 a c n l ra rc rn rs _ (h.below B0.out) hn hR hs (hr.below B0.out) hrn hrl);subst hn;subst hrn;clear h hr hR hs;go_enter Tryz.func13,Tryz.ntmps13;go_wp2_with fail
 refine HC.out.mono ?_;rintro r w1 ⟨va,vc,rfl,hO,hb1⟩;have HO:=aA hO;have hs0:(w.alloc (.cells #[.int .i64 0,.slice none 0 0] 32)).heap.size=w.heap.size+1:=by simp
 rw[hs0]at HO;have B1:=aA (aB B0.out hb1);obtain ⟨⟨t0,t1⟩,t2,t3⟩:=X0.out.below hb1;clear hO hb1 hs0;go_wp2_with fail
 exact bodyPost_ret (v:=.agg #[.int .i64 0,.slice va _ vc]) (by simp[results,Tryz.results13,go_sem,t0,t1]) rfl (mD.of (B:=w.heap.size+1) (by omega) (Nat.le_refl _) rfl HO.out B1.out)
theorem zd0 (a:Option Addr) (c n:Nat) (l:List Sn) (ra:Option Addr) (rc rn:Nat) (rs:List Bs) (w:World) (h:RdS w a l) (hn:n=l.length) (hR:aP l) (hs:bW l) (hr:aU w ra rs) (hrn:rn=rs.length) (hrl:rs.length≤20) :
  Calls Tryz.prog 32 #[.slice a n c,.slice ra rn rc] w fun r w'=>∃ av cv,r=.returned (.slice av (bX l rs).length cv)∧GS w.heap.size w' (.slice av (bX l rs).length cv) (bX l rs)∧Below w.heap.size w w':=by
 subst hn;subst hrn;obtain ⟨i1,ki,kz0,kz1,kz2⟩:=info_parts Tryz.infoSn;have hl:=hR.len;have B0:=aA (aC w (.cells #[] 42));have O0:=aA (show (w.alloc (.cells #[] 42)).ownsRow w.heap.size 42 5 (.slice (some ⟨w.heap.size,0,none⟩) 0 0) 0 (aS []) from World.ownsRow_made w #[] 0 (Nat.le_refl _) (Nat.zero_le _) rfl)
 have HC:=aA (wO a c l.length l ra rc rs.length rs _ (h.below B0.out) rfl hR (hr.below B0.out) rfl (by omega))
 have RD:=aA h;have HSM:=aA (show bW (bX l rs) from ⟨Nat.le_trans (List.length_filter_le ..) hs.1,fun s hm=>hs.2 s (List.mem_filter.1 hm).1⟩)
 clear h hr hs hR;go_enter Tryz.func32,Tryz.ntmps32;go_wp2_with fail
 have hw1:(w.alloc (.cells #[] 42)).heap.size=w.heap.size+1:=by simp
 have HW1:=aA hw1;clear hw1;generalize w.alloc (.cells #[] 42)=W1 at *;refine HC.out.mono ?_;rintro r w3 ⟨rfl,⟨M,hM,hML⟩,hb3⟩;have HM:=aA hM;have HML:=aA hML;have B3:=aA (aB B0.out hb3);have LN0:Hid (LN w.heap.size w w3 (.slice (some ⟨w.heap.size,0,none⟩) 0 0) []):=aA ⟨[],rfl,aJ O0.out hb3,fun r hr=>by simp at hr⟩
 have hfar:Far (.slice (some ⟨w.heap.size,0,none⟩) 0 0) (.slice (some ⟨W1.heap.size,0,none⟩) l.length l.length):=fun g hg e=>by
  have h1:=HW1.out;simp[Value.ownBlock]at hg e
  omega
 have HF0:=aA hfar;have hs3:w.heap.size≤w3.heap.size:=B3.out.size;clear hM hML hb3 O0 HC B0 hfar;go_wp2_with fail
 go_loopw [5,7] (fun v i wr=>∃ (k:Nat),k≤l.length∧i=.int .i64 k∧Hid (LN w.heap.size w wr v ((l.take k).filter (dA l rs)))∧Hid (Far v (.slice (some ⟨W1.heap.size,0,none⟩) l.length l.length))∧Hid (wr.ownsRow W1.heap.size 4 1 (.slice (some ⟨W1.heap.size,0,none⟩) l.length l.length) l.length (lC l.length M))∧Hid (Below w.heap.size w wr)) (fun _ i _=>l.length - (intOf i).toNat)
 case atStart=>exact ⟨0,Nat.zero_le _,rfl,LN0,HF0,HM,B3⟩
 case round =>
  obtain ⟨k,hk,rfl,HL,HF,HMr,HB⟩:=hrel;obtain ⟨lv,lc,hv⟩:=HL.out.shape;subst hv;have hsz:=HB.out.size;by_cases hlt:k<l.length
  ·have hlt':(k:Int)<(l.length:Int):=by omega
   have hk0:¬ (k:Int)<0:=by omega
   obtain ⟨b,off,s,x,cc,rfl,hb,he,c0,c1,c2,c3,c4,hr⟩:=(RD.out.below HB.out).at hlt;obtain ⟨b',off',s',x',cc',hbb,hb',he',d0,d1,d2,d3,d4,hr'⟩:=RD.out.at hlt;simp only[Option.some.injEq,Addr.mk.injEq,and_true]at hbb;obtain ⟨rfl,rfl⟩:=hbb;have:s'=s:=Option.some.inj (he'.symm.trans he);subst this;have d1':=(HB.out.cell (p:=⟨b,off+k * 5+4,none⟩) hb').trans d4;rw[c4]at d1';simp only[Option.some.injEq,Value.slice.injEq,true_and]at d1';obtain ⟨rfl,rfl⟩:=d1';have HX:=aA he;have HRc:=aA hr';have t5:=(HMr.out.cellAt k (by omega)).trans (nA hlt)
   rw[HML.out k s' he]at t5;clear he hr hr' he' d0 d1 d2 d3 d4;have hrl1:=List.length_filter_le (dA l rs) (l.take k);rw[List.length_take]at hrl1;cases hq:dA l rs s' with
   | false =>
    rw[hq]at t5;have HN:=aA (nF (f:=dA l rs) HX.out hq);clear hq;go_wp2_with fail
    go_roundw
    case rel=>exact ⟨k+1,by omega,by go_num,by rw[HN.out];exact HL,HF,HMr,HB⟩
    case measure=>simp[intOf];omega
   | true =>
    rw[hq]at t5;have HN:=aA (oN (f:=dA l rs) HX.out hq);clear hq;obtain ⟨rr,g1,g2,g3⟩:=HL.out;have G1:=aA g1;have G2:=aA g2;have G3:=aA g3;clear g1 g2 g3;obtain ⟨L,hL⟩:∃ L,L=((l.take k).filter (dA l rs)).length:=⟨_,rfl⟩;rw[←hL]at hrl1 G2 HF ⊢;have HLn:=aA hL;clear hL;have hm1:L+1≤maxLen:=by unfold maxLen;omega
    have hm1':(L+1) * 72≤140737488355328:=by omega
    go_wp2_with (at_builtin;refine eE rfl (.tmp 22) (.tmp 27) 24 rfl w.heap.size 42 i1 (.agg #[.string ⟨#[]⟩,.string ⟨#[]⟩,.int .i64 0,.bool false,.slice none 0 0]) 5 72 Tryz.underlying24 ki kz0 kz1 kz2 rfl (by decide) _ _ _ rfl G2.out rfl rfl (by intro u hu;simp at hu;rcases hu with rfl | rfl | rfl | rfl | rfl <;> rfl) hm1 hm1' hsz ?_;intro v6 w6 hown6 hk6 hat6;have O6:=aA hown6;have K6:=aA hk6;have A6:=aA hat6;clear hown6 hk6 hat6)
    go_roundw
    case rel =>
     refine ⟨k+1,by omega,by go_num,aA ?_,aA ?_,aA ?_,aA ?_⟩
     ·obtain ⟨av6,cv6,hv6⟩:=aR O6.out
      rw[HN.out,hv6];rw[hv6]at O6;exact LN.push (s:=s') (a:=x) (c:=cc) G1.out HLn.out G3.out HRc.out O6.out
     ·intro g hg he
      rcases A6.out with h1 | ⟨g2,h1,h2⟩
      ·exact HF.out g (h1.symm.trans hg) he
      ·rw[h1]at hg
       obtain rfl:=Option.some.inj hg;have:=(HMr.out.lt _ he).2;omega
     ·exact aK HMr.out K6.out (fun q hq e=>HF.out q e hq)
     ·exact HB.out.trans (K6.out.below (by omega) (fun q hq hS=>by have:=(G2.out.lt q hS).1;omega))
    case measure=>simp[intOf];omega
  ·have hlt':¬ (k:Int)<(l.length:Int):=by omega
   have HE:=aA (show l.take k=l from List.take_of_length_le (by omega))
   rw[HE.out]at HL ⊢;clear HE;have RL:=aA (HL.out.rd HB.out);go_wp2_with fail
   refine (dI lv lc (bX l rs).length (bX l rs) wr RL.out rfl HSM.out.1 HSM.out).mono ?_;rintro r w9 ⟨av,cv,rfl,hG,hb9⟩;have HG:=aA (hG.mono hsz);have B9:=aA (aB HB.out hb9);clear hG hb9;go_wp2_with fail
   go_ret
   exact ⟨av,cv,rfl,HG.out,B9.out⟩
theorem zk2 (a:Option Addr) (c n:Nat) (l:List Sn) (w:World) (h:RdS w a l) (hn:n=l.length) (hl:l.length≤10) (hs:∀ s∈l,bD s.layer) :
  Calls Tryz.prog 50 #[.slice a n c] w fun r w'=>∃ x d,r=.returned (.slice x (cV l).length d)∧w'.ownsRow w.heap.size 2 1 (.slice x (cV l).length d) (cV l).length ((cV l).map (Value.int .i64))∧Below w.heap.size w w':=by
 subst hn;obtain ⟨i1,ki,kz0,kz1,kz2⟩:=info_parts Tryz.infoI64;have RD:=aA h;have O0:=aA (show (w.alloc (.cells #[] 2)).ownsRow w.heap.size 2 1 (.slice (some ⟨w.heap.size,0,none⟩) 0 0) ([]:List Int).length (([]:List Int).map (Value.int .i64)) from World.ownsRow_made w #[] 0 (Nat.le_refl _) (Nat.zero_le _) rfl)
 have B0:=aA (aC w (.cells #[] 2));have HS:=aA hs;clear h hs;go_enter Tryz.func50,Tryz.ntmps50;go_wp2_with fail
 go_loopw [3,4] (fun v i wr=>∃ (k:Nat),k≤l.length∧i=.int .i64 k∧Hid (wr.ownsRow w.heap.size 2 1 v (cV (l.take k)).length ((cV (l.take k)).map (Value.int .i64)))∧Hid (Below w.heap.size w wr)) (fun _ i _=>l.length - (intOf i).toNat)
 case atStart=>exact ⟨0,by omega,rfl,O0,B0⟩
 case round =>
  obtain ⟨k,hk,rfl,HO,HB⟩:=hrel;obtain ⟨va,vc,hv⟩:=aR HO.out;subst hv;have hsz:=HB.out.size;by_cases hlt:k<l.length
  ·have hlt2:(k:Int)<(l.length:Int):=by omega
   obtain ⟨b,off,s,x,cc,rfl,hb,he,c0,c1,c2,c3,c4,hr⟩:=(RD.out.below HB.out).at hlt;have hRl:=HS.out s (List.mem_of_getElem? he);have HST:=aA (show cV (l.take (k+1))=(dU (eF s.layer)).foldl dW (cV (l.take k)) by rw[List.take_add_one,he];exact tP _ _)
   have HDL:=aA (oC (l:=l.take k) (fun y hy=>HS.out y (List.mem_of_mem_take hy)))
   have htk:(l.take k).length=k:=by rw[List.length_take];omega
   have HCI:=aA (zb4 x cc s.layer.length s.layer wr hr rfl (by have:=hRl.len;omega) (fun e he=>by have:=fK (hRl.ent e he);omega))
   have hzl:=sK hRl;generalize dU (eF s.layer)=zs at *;obtain ⟨DK,hDK⟩:∃ DK,DK=cV (l.take k):=⟨_,rfl⟩;rw[←hDK]at HO HST HDL ⊢;have hdl:DK.length≤122880:=by have:=HDL.out;omega
   clear hDK HDL htk;clear he hr hRl;go_wp2_with fail
   refine HCI.out.mono ?_;rintro e w2 ⟨v,rfl,hOz,hb2⟩;obtain ⟨za,zc,hv⟩:=aR hOz;subst hv;have B2:=aA (aB HB.out hb2);have O2:=aA (aJ HO.out hb2);have RZ:=aA (cY hOz rfl);have HZB:=aA (show ∀ y,za=some y→y.block<w2.heap.size∧wr.heap.size≤y.block from fun y hy=>by
    subst hy;have h9:=hOz.lt y.block rfl;exact ⟨h9.2,by omega⟩)
   have HFZ:Hid (zn8 za (.slice va DK.length vc)):=aA (fun y hy g hg e=>by
    have h9:=(HO.out.lt g hg).2;have h8:=(HZB.out y hy).2;omega)
   clear hb2 hOz c0 c1 c2 c3 c4 HO HB HCI;go_wp2_with fail
   go_loopw [3,6] (fun v i wx=>∃ (j:Nat),j≤zs.length∧i=.int .i64 j∧Hid (wx.ownsRow w.heap.size 2 1 v ((zs.take j).foldl dW DK).length (((zs.take j).foldl dW DK).map (Value.int .i64)))∧Hid (aZ .i64 wx za zs)∧Hid (zn8 za v)∧Hid (∀ y,za=some y→y.block<wx.heap.size)∧Hid (Below w.heap.size w wx)) (fun _ i _=>zs.length - (intOf i).toNat)
   case atStart=>exact ⟨0,by omega,rfl,O2,RZ,HFZ,aA (fun y hy=>(HZB.out y hy).1),B2⟩
   case round =>
    obtain ⟨j,hj,rfl,HOx,HRx,HAx,HLx,HBx⟩:=hrel;obtain ⟨xa,xc,hv⟩:=aR HOx.out;subst hv;have hszx:=HBx.out.size;by_cases hltj:j<zs.length
    ·have hltj2:(j:Int)<(zs.length:Int):=by omega
     obtain ⟨zb,zo,rfl,hzb,hzc⟩:=HRx.out (by intro e;simp[e]at hltj)
     have hz:=hzc j hltj;clear hzc;have HAT:=aA (zm0 (acc:=DK) hltj);obtain ⟨z,hze⟩:∃ z,z=zs.getD j 0:=⟨_,rfl⟩;rw[←hze]at hz HAT;have hDl:=xC (zs.take j) DK;have htl:(zs.take j).length=j:=by rw[List.length_take];omega
     obtain ⟨D,hD⟩:∃ D,D=(zs.take j).foldl dW DK:=⟨_,rfl⟩;rw[←hD]at HOx HAT hDl HAx ⊢;have hDb:D.length≤200000:=by omega
     clear hD hDl htl hze;have hm1:D.length+1≤maxLen:=by unfold maxLen;omega
     have hm2:(D.length+1) * 8≤140737488355328:=by omega
     go_wp2_with fail
     refine (zB xa xc D z _ (cY HOx.out rfl) (by omega)).mono ?_
     rintro e w6 ⟨rfl,hw6⟩;subst hw6;cases hcn:D.contains z with
     | true =>
      have HST2:=aA (HAT.out.trans (show dW D z=D by unfold dW;rw[if_pos hcn]))
      clear hcn;go_wp2_with fail
      go_roundw
      case rel=>exact ⟨j+1,by omega,by go_num,by rw[HST2.out];exact HOx,HRx,HAx,HLx,HBx⟩
      case measure=>simp[intOf];omega
     | false =>
      have HST2:=aA (HAT.out.trans (show dW D z=D ++ [z] by unfold dW;rw[hcn];rfl))
      clear hcn;go_wp2_with (at_builtin;refine eE rfl (.tmp 33) (.tmp 38) 48 rfl w.heap.size 2 i1 (.int .i64 0) 1 8 Tryz.underlying48 ki kz0 kz1 kz2 rfl (by decide) _ _ _ rfl HOx.out rfl rfl (by intro u hu;simp at hu;subst hu;rfl) hm1 hm2 hszx ?_;intro v' w7 hown7 hkept hat;have O7:=aA hown7;have K7:=aA hkept;have A7:=aA hat;clear hown7 hkept hat)
      go_roundw
      case rel =>
       refine ⟨j+1,by omega,by go_num,by rw[HST2.out];exact aA (by simpa using O7.out),aA ?_,aA ?_,aA (fun y hy=>Nat.lt_of_lt_of_le (HLx.out y hy) K7.out.size),aA (aE.below_own HBx.out hszx HOx.out K7.out)⟩
       ·exact HRx.out.kept K7.out (fun hz y hy e=>HAx.out y hy _ e rfl)
       ·intro y hy g hg e9
        rcases A7.out with e | ⟨g2,e,hg2⟩
        ·exact HAx.out y hy g (e.symm.trans hg) e9
        ·rw[e]at hg
         have h7:=Option.some.inj hg;have h8:=HLx.out y hy;omega
      case measure=>simp[intOf];omega
    ·have hje:zs.take j=zs:=List.take_of_length_le (by omega)
     have hltj2:¬ (j:Int)<(zs.length:Int):=by omega
     rw[hje]at HOx ⊢;clear hje;go_wp2_with fail
     go_roundw
     case rel=>exact ⟨k+1,by omega,by go_num,by rw[HST.out];exact HOx,HBx⟩
     case measure=>simp[intOf];omega
  ·have hke:l.take k=l:=List.take_of_length_le (by omega)
   have hlt2:¬ (k:Int)<(l.length:Int):=by omega
   rw[hke]at HO ⊢;clear hke;go_wp2_with fail
   go_ret
   exact ⟨va,vc,rfl,HO.out,HB.out⟩
theorem wB (a:Option Addr) (c n:Nat) (l:List Sn) (ra:Option Addr) (rc rn:Nat) (rs:List Bs) (w:World) (h:RdS w a l) (hn:n=l.length) (hR:aP l) (hs:bW l) (hr:aU w ra rs) (hrn:rn=rs.length) (hrl:rs.length≤20) :
  Calls Tryz.prog 19 #[.slice a n c,.slice ra rn rc] w (xB 0 (cV (bX l rs)) w):=by
 subst hn;subst hrn;have X0:=aA (Box.new w (.int .i64 0) (.slice none 0 0) 50);have B0:=aA (aC w (.cells #[.int .i64 0,.slice none 0 0] 50));have HA:=aA (pK a c l.length l ra rc rs.length rs _ (h.below B0.out) rfl hs (fun s hs=>by rw[mZ.2 (dM.1 (hR.own s hs).2.2),(hR.own s hs).2.2]) rfl)
 rw[oJ.2 ⟨hR,hrl⟩]at HA;have HC:=aA (fun (u:World) (hu:Below w.heap.size w u)=>zd0 a c l.length l ra rc rs.length rs u (h.below hu) rfl hR hs (hr.below hu) rfl hrl)
 have hll:(bX l rs).length≤10:=Nat.le_trans (List.length_filter_le ..) hR.len;have HRT:=aA (show ∀ s∈bX l rs,bD s.layer from fun s hm=>dM.1 (hR.own s (List.mem_filter.1 hm).1).2.2)
 clear h hs hr hR;go_enter Tryz.func19,Tryz.ntmps19;go_wp2_with fail
 refine HA.out.mono ?_;rintro r w1 ⟨rfl,hb1⟩;have B1:=aA (aB B0.out hb1);have X1:=aA (X0.out.below hb1);clear hb1;obtain ⟨⟨t0,t1⟩,t2,t3⟩:=X1.out;go_wp2_with fail
 clear t0 t1 t2 t3;refine (HC.out _ B1.out).mono ?_;rintro r w2 ⟨x1,c1,rfl,hG,hb2⟩;have RD:=aA hG.rd;have B2:=aA (aB B1.out hb2);have X2:=aA (X1.out.below hb2);clear hG hb2;obtain ⟨⟨t0,t1⟩,t2,t3⟩:=X2.out;go_wp2_with fail
 clear t0 t1 t2 t3;refine (zk2 x1 _ (bX l rs).length (bX l rs) w2 RD.out rfl hll HRT.out).mono ?_;rintro r w3 ⟨y,d,rfl,hO,hb3⟩;have HO:=aA hO;have B3:=aA (aB B2.out hb3);have hlt:w.heap.size<w2.heap.size:=X2.out.lt';obtain ⟨⟨t0,t1⟩,t2,t3⟩:=X2.out.below hb3;clear hO hb3;go_wp2_with fail
 exact bodyPost_ret (v:=.agg #[.int .i64 0,.slice y (cV (bX l rs)).length d]) (by simp[results,Tryz.results19,go_sem,t0,t1]) rfl (xB.of' (B:=w2.heap.size) hlt (Nat.le_refl _) rfl HO.out B3.out)
end Go.Proofs.YtgaeikgoknoamaaGreat
