/-
  Texts put together: SnqH SnqI SnqA SnqJ SnpU.
-/
import Derived.Test.YtgaeikgoknoamaaGreatKKeeps15
import Derived.Test.YtgaeikgoknoamaaGreatKKeeps14
import Derived.RangeFuncNested
import Derived.RangeFuncBound
import Derived.RangeFuncCalls
import Derived.RangeFuncLeaves
import Derived.RangeFuncBox
import Derived.Shelf.Abstract
import Derived.Shelf.RegionOpen
import Derived.OwnWalkIn
import Derived.TacticsInMore
import Derived.LoopNIn
import Derived.LoopIn
import Derived.Maps.AppendAt
import Derived.Test.YtgaeikgoknoamaaGreatKKeeps12
import Derived.Test.YtgaeikgoknoamaaGreatKKeeps2
set_option linter.unusedVariables false
set_option maxHeartbeats 6400000
set_option maxRecDepth 100000
namespace Go.Proofs.YtgaeikgoknoamaaGreat
open Go.RowKit Go.Maps
attribute [local go_sem ↓] Go.wp_at_zero Go.wp_at_succ
theorem wZ {P:Program} {w:World} {ops:Array Oper} {rest:List Oper} {o:Oper} {a:Act} {Q:Exit→Act→World→Prop} (hgd:o.guard=none) (s x:Operand) (t:TypeId)
  (ho:o.op=.call { callee:=.builtin .append,args:=#[s,x],argTypes:=#[t,t] })
  (e:TypeId) (i:TypeInfo) (hu:P.underlying t=some (.slice e)) (hi:P.info? e=some i)
  (g c n cap:Nat) (hc:n≤c) (hs:a.eval s=.slice (some ⟨g,0,none⟩) n c) (hx:a.eval x=.slice none 0 cap)
  (h:wpList P ops Q rest (a.put o.dst (.slice (some ⟨g,0,none⟩) n c)) w) :
  wpList P ops Q (o :: rest) a w:=by
 have hrun:(Builtin.append_ #[t,t] o.type #[.slice (some ⟨g,0,none⟩) n c,.slice none 0 cap]).run P w=.ok (.slice (some ⟨g,0,none⟩) n c) w:=by
  simp[Builtin.append_,run_underlying hu,sizeOf,typeInfo,hi,Builtin.lenOf,Builtin.firstCells,storeCells,hc]
 refine wpList_plain hgd fun K hK=>?_
 unfold Oper.wp execOp;simp only[ho,resolve,invoke,builtin,Sem.run_bind,Sem.run_pure,Result.andThen_ok,List.map_toArray,List.map_cons,List.map_nil,hs,hx,hrun];exact hK _ _ h
theorem zV {P:Program} {w:World} {ops:Array Oper} {o:Oper} {a:Act} {K:Act→World→Prop} {Q:Exit→Act→World→Prop} {E:Prop} (hgd:o.guard=none) (s x:Operand) (t:TypeId)
  (ho:o.op=.call { callee:=.builtin .append,args:=#[s,x],argTypes:=#[t,t] })
  (e:TypeId) (i:TypeInfo) (hu:P.underlying t=some (.slice e)) (hi:P.info? e=some i)
  (g c n cap:Nat) (hc:n≤c) (hs:a.eval s=.slice (some ⟨g,0,none⟩) n c) (hx:a.eval x=.slice none 0 cap)
  (h:K (a.put o.dst (.slice (some ⟨g,0,none⟩) n c)) w) :
  if Region.wanted o (yielded ops a.tmps)=true then Oper.wp P o a w K Q else E:=by
 have hw:Region.wanted o (yielded ops a.tmps)=true:=by simp[Region.wanted,hgd]
 rw[if_pos hw];have hrun:(Builtin.append_ #[t,t] o.type #[.slice (some ⟨g,0,none⟩) n c,.slice none 0 cap]).run P w=.ok (.slice (some ⟨g,0,none⟩) n c) w:=by
  simp[Builtin.append_,run_underlying hu,sizeOf,typeInfo,hi,Builtin.lenOf,Builtin.firstCells,storeCells,hc]
 unfold Oper.wp execOp;simp only[ho,resolve,invoke,builtin,Sem.run_bind,Sem.run_pure,Result.andThen_ok,List.map_toArray,List.map_cons,List.map_nil,hs,hx,hrun];exact h
theorem zr8 (s:Sn) (x:Option Addr) (cc:Nat) (w:World) (hx:RdE w x s.layer) (hs1:s.name.length≤1048576) (hs2:s.parent.length≤1048576) (hs3':s.layer.length≤1048576) (hs4:cG s.layer) :
  Calls Tryz.prog 186 #[.slice none 0 0,.agg #[.string (str s.name),.string (str s.parent),.int .i64 s.kind,.bool s.lease,.slice x s.layer.length cc]] w fun r w'=>(cW [] s≠0∧bI 0 (cW [] s) [] w r w')∨(cW [] s=0∧bI 0 0 (dK [] s) w r w'):=by
 obtain ⟨i1,ki,kz0,kz1,kz2⟩:=info_parts Tryz.infoSn;have X5:=aA ((kX.new w (.string (str s.name)) (.string (str s.parent)) (.int .i64 s.kind) (.bool s.lease) (.slice x s.layer.length cc) 42).below (aC _ (.cells #[.int .i64 0,.int .i64 0,.slice none 0 0] 29)));have X3:=aA (fB.new (w.alloc (.cells #[.string (str s.name),.string (str s.parent),.int .i64 s.kind,.bool s.lease,.slice x s.layer.length cc] 42)) (.int .i64 0) (.int .i64 0) (.slice none 0 0) 29);have hsa:(w.alloc (.cells #[.string (str s.name),.string (str s.parent),.int .i64 s.kind,.bool s.lease,.slice x s.layer.length cc] 42)).heap.size=w.heap.size+1:=by simp
 rw[hsa]at X3;clear hsa;have B0:=aA (aB (aC w (.cells #[.string (str s.name),.string (str s.parent),.int .i64 s.kind,.bool s.lease,.slice x s.layer.length cc] 42)) (aC _ (.cells #[.int .i64 0,.int .i64 0,.slice none 0 0] 29)));have hW0:((w.alloc (.cells #[.string (str s.name),.string (str s.parent),.int .i64 s.kind,.bool s.lease,.slice x s.layer.length cc] 42)).alloc (.cells #[.int .i64 0,.int .i64 0,.slice none 0 0] 29)).heap.size=w.heap.size+2:=by simp
 have HXR:=aA (hx.below B0.out);have HS4:=aA hs4;clear hs4 hx;go_enter Tryz.func186,Tryz.ntmps186;go_upto_region 1 with fail
 generalize (w.alloc (.cells #[.string (str s.name),.string (str s.parent),.int .i64 s.kind,.bool s.lease,.slice x s.layer.length cc] 42)).alloc (.cells #[.int .i64 0,.int .i64 0,.slice none 0 0] 29)=W0 at *;obtain ⟨f0,f1,f2,f3,f4⟩:=X5.out.1;go_wp2_with fail
 refine (sG s.name W0 hs1).mono ?_;rintro r w1 ⟨rfl,hw1⟩;subst hw1;cases hnm:fL s.name
 ·have HNK:=aA hnm
  clear hnm;go_wp2_with fail
  have HQ:Hid (cW [] s=5):=aA (by unfold cW;rw[HNK.out];rfl)
  refine (cC none 0 0 [] 5 _ (RdS.nil _ _) rfl (by simp) ⟨by simp,fun y hy=>by simp at hy⟩).mono ?_
  rintro r w9 ⟨av,cv,rfl,hG,hb9⟩;have G9:=aA hG;have B9:=aA (aB B0.out hb9);obtain ⟨⟨t0,t1,t2⟩,t3,t4,t5⟩:=X3.out.below hb9;clear hG hb9;simp only[List.length_nil]at G9 ⊢;go_wp2_with fail
  exact bodyPost_ret (v:=.agg #[.int .i64 0,.int .i64 5,.slice av 0 cv]) (by simp[results,Tryz.results186,go_sem,t0,t1,t2]) rfl (.inl ⟨by rw[HQ.out];decide,by rw[HQ.out];exact bI.of (B:=w1.heap.size) (by omega) (by omega) rfl G9.out B9.out⟩)
 ·have HNK:=aA hnm
  clear hnm;go_wp2_with fail
  refine (gW none 0 0 [] s.name w1 (RdS.nil _ _) rfl (by simp)).mono ?_
  rintro r w2 ⟨rfl,hw2⟩;subst hw2;simp only[show plS [] s.name=none from rfl,cR]
  by_cases hpa:s.parent=[]
  ·have hpe:(str s.parent).toList.isEmpty=true:=by rw[hpa,aN];rfl
   have hdz:eQ [] s.parent=0:=by unfold eQ;rw[if_pos hpa,jC];rfl
   have HQ0:Hid (cW [] s=0):=aA (by unfold cW;rw[HNK.out,hdz];simp only[if_true,atS,List.find?_nil,Option.isSome_none,Bool.false_eq_true,if_false];rw[if_pos hpa];rfl)
   clear hpa;go_wp2_with fail
   refine (oK none 0 0 [] s.parent w2 (RdS.nil _ _) rfl (by simp) (fun y hy=>by simp at hy)).mono ?_
   rintro r w3 ⟨rfl,hw3⟩;subst hw3;rw[hdz];clear hdz;go_wp2_with fail
   obtain ⟨W1,hW1⟩:∃ W1,W1=w3:=⟨_,rfl⟩;subst hW1;go_loopw [6] (fun i wr=>i=.int .i64 0∧Hid (Below W1.heap.size W1 wr)) (fun i _=>0)
   case atStart=>exact ⟨rfl,aA (Below.refl _ _)⟩
   case round =>
    obtain ⟨rfl,HW⟩:=hrel;go_wp2_with fail
    go_quiet (fail)
    have HWk:=aA (below_drewN HW.out nq);clear HW;generalize wr.drewN nq=W2 at HWk ⊢;have hsW:=HWk.out.size;go_wp2_with (at_builtin;refine wZ rfl (.tmp 68) (.tmp 71) 24 rfl 42 i1 Tryz.underlying24 ki W2.heap.size 0 0 0 (Nat.le_refl _) rfl rfl ?_)
    have BW3:=aA (aC W2 (.cells #[] 42));have OWN0:Hid ((W2.alloc (.cells #[] 42)).ownsRow W2.heap.size 42 5 (.slice (some ⟨W2.heap.size,0,none⟩) 0 0) 0 []):=World.ownsRow_made W2 #[] 0 (Nat.le_refl _) (Nat.zero_le _) rfl;have hs3:W2.heap.size≤(W2.alloc (.cells #[] 42)).heap.size:=BW3.out.size;generalize W2.alloc (.cells #[] 42)=w3 at *;have B3:=aA (aB HWk.out BW3.out);have KC:Hid (∀ w5:World,Below W2.heap.size W2 w5→w5.cell? ⟨w.heap.size,0,none⟩=some (.string (str s.name))∧w5.cell? ⟨w.heap.size,1,none⟩=some (.string (str s.parent))∧w5.cell? ⟨w.heap.size,2,none⟩=some (.int .i64 s.kind)∧w5.cell? ⟨w.heap.size,3,none⟩=some (.bool s.lease)∧w5.cell? ⟨w.heap.size,4,none⟩=some (.slice x s.layer.length cc)):=fun w5 hb5=>(X5.out.below (aB HWk.out hb5)).1
    obtain ⟨p0,p1,p2,p3,p4⟩:=(X5.out.below B3.out).1;have OWN1:Hid ((w3.alloc (.cells #[.string (str s.name),.string (str s.parent),.int .i64 s.kind,.bool s.lease,.slice x s.layer.length cc] 42)).drew.ownsRow W2.heap.size 42 5 (.slice (some ⟨W2.heap.size,0,none⟩) 0 0) 0 []):=aG OWN0.out (aC _ _).drew;have NEWS1:Hid (∀ j u,(bU ⟨s,x,cc⟩)[j]?=some u→(w3.alloc (.cells #[.string (str s.name),.string (str s.parent),.int .i64 s.kind,.bool s.lease,.slice x s.layer.length cc] 42)).drew.cell? ((⟨w3.heap.size,0,none⟩:Addr).add j)=some u):=pD (t:=42) rfl;have hm1:0+1≤maxLen:=by unfold maxLen;omega
    have HSm:Hid (dF [s]):=aA ⟨by simp,fun y hy=>by simp only[List.mem_singleton]at hy;subst hy;exact ⟨hs1,hs2,hs3',HS4.out⟩⟩
    go_region_held3 (fun w'=>w'.cell? ⟨w.heap.size,0,none⟩=some (.string (str s.name))∧w'.cell? ⟨w.heap.size,1,none⟩=some (.string (str s.parent))∧w'.cell? ⟨w.heap.size,2,none⟩=some (.int .i64 s.kind)∧w'.cell? ⟨w.heap.size,3,none⟩=some (.bool s.lease)∧w'.cell? ⟨w.heap.size,4,none⟩=some (.slice x s.layer.length cc)) (first | exact KC.out _ BB4.out | exact KC.out _ B6.out | go_keep)
     ((
      first
      | (refine bB (by rfl) (.tmp 73) (.tmp 75) 24 (by rfl) W2.heap.size 42 i1 (.agg #[.string ⟨#[]⟩,.string ⟨#[]⟩,.int .i64 0,.bool false,.slice none 0 0]) 5 72 Tryz.underlying24 ki kz0 kz1 kz2 rfl (by decide) (.slice (some ⟨W2.heap.size,0,none⟩) 0 0) 0 [] (by rfl) OWN1.out ⟨w3.heap.size,0,none⟩ 1 1 (bU ⟨s,x,cc⟩) (by rfl) (by rfl) NEWS1.out (dW [⟨s,x,cc⟩]) 1 rfl hm1 (by decide) (by simp;omega) ?_;intro av4 cv4 w4 hown4 hk4;obtain ⟨g4,hg4,hcv4⟩:=jO hown4 (.inl (by decide));subst hg4;have O4:=aA hown4;have BB4:=aA (BW3.out.trans ((((aD.refl (fun q=>(Value.slice (some ⟨W2.heap.size,0,none⟩) 0 0).ownBlock=some q) w3).alloc _).drew.trans hk4).below hs3 (fun q hq hS=>by have:=(OWN0.out.lt q hS).1;omega)));have RD4:Hid (RdS w4 (some ⟨g4,0,none⟩) [s]):=aA (lJ (rs:=[]) (l:=[]) (k:=0) rfl (Nat.le_refl _) rfl (fun r hr=>by simp at hr) HXR.out (aB HWk.out BB4.out) (by simpa [aW] using hown4));clear hown4 hk4)
      | (refine zV (by rfl) (.tmp 76) (.tmp 79) 24 (by rfl) 42 i1 Tryz.underlying24 ki g4 cv4 1 0 hcv4 (by rfl) (by rfl) ?_)
      | (go_at_call 79;refine (dV (some ⟨g4,0,none⟩) cv4 1 [s] w4 RD4.out rfl (by simp) HSm.out).mono ?_;rintro r w6 ⟨av6,cv6,rfl,hG6,hb6⟩;have GG6:=aA (hG6.mono BB4.out.size);have B6:=aA (aB BB4.out hb6);obtain ⟨⟨t0,t1,t2⟩,t3,t4,t5⟩:=X3.out.below (aB HWk.out B6.out);clear hG6 hb6)))
    simp only[List.length_cons,List.length_nil,Nat.zero_add]at GG6 ⊢;go_wp2_with fail
    exact bodyPost_ret (v:=.agg #[.int .i64 0,.int .i64 0,.slice av6 1 cv6]) (by simp[results,Tryz.results186,go_sem,t0,t1,t2]) rfl (.inr ⟨HQ0.out,bI.of (B:=W2.heap.size) (l:=dK [] s) (by omega) (by omega) rfl GG6.out (aB B0.out (aB HWk.out B6.out))⟩)
  ·have hpe:(str s.parent).toList.isEmpty=false:=by
    rw[aN];cases hq:s.parent with | nil=>exact absurd hq hpa | cons _ _=>rfl
   have HPA:=aA hpa;clear hpa;go_wp2_with fail
   refine (gW none 0 0 [] s.parent w2 (RdS.nil _ _) rfl (by simp)).mono ?_
   rintro r w7 ⟨rfl,hw7⟩;subst hw7;simp only[show plS [] s.parent=none from rfl,cR]
   go_wp2_with fail
   have HQ:Hid (cW [] s=4):=aA (by unfold cW;rw[HNK.out];simp only[if_true,atS,List.find?_nil,Option.isSome_none,Bool.false_eq_true,if_false];rw[if_neg HPA.out])
   refine (cC none 0 0 [] 4 _ (RdS.nil _ _) rfl (by simp) ⟨by simp,fun y hy=>by simp at hy⟩).mono ?_
   rintro r w9 ⟨av,cv,rfl,hG,hb9⟩;have G9:=aA hG;have B9:=aA (aB B0.out hb9);obtain ⟨⟨t0,t1,t2⟩,t3,t4,t5⟩:=X3.out.below hb9;clear hG hb9;simp only[List.length_nil]at G9 ⊢;go_wp2_with fail
   exact bodyPost_ret (v:=.agg #[.int .i64 0,.int .i64 4,.slice av 0 cv]) (by simp[results,Tryz.results186,go_sem,t0,t1,t2]) rfl (.inl ⟨by rw[HQ.out];decide,by rw[HQ.out];exact bI.of (B:=w7.heap.size) (by omega) (by omega) rfl G9.out B9.out⟩)
theorem zt0 (a:Option Addr) (c n:Nat) (l:List Sn) (s:Sn) (x:Option Addr) (cc:Nat) (w:World) (h:RdS w a l) (hP:Plc a c l) (hn:n=l.length) (hl:l.length<1048576) (hri:fM l) (hne:∀ y∈l,y.name≠[]) (hs:dF l) (hx:RdE w x s.layer) (hs1:s.name.length≤1048576) (hs2:s.parent.length≤1048576) (hs3':s.layer.length≤1048576) (hs4:cG s.layer) :
  Calls Tryz.prog 186 #[.slice a n c,.agg #[.string (str s.name),.string (str s.parent),.int .i64 s.kind,.bool s.lease,.slice x s.layer.length cc]] w fun r w'=>(cW l s≠0∧bI 0 (cW l s) l w r w')∨(cW l s=0∧bI 0 0 (dK l s) w r w'):=by
 rcases hP with ⟨rfl,rfl,rfl⟩ | ⟨b,off,rfl,hc⟩
 ·subst hn
  exact zr8 s x cc w hx hs1 hs2 hs3' hs4
 ·exact zs8 b off c n l s x cc w h hc hn hl hri hne hs hx hs1 hs2 hs3' hs4
theorem wQ (a:Option Addr) (c n:Nat) (l:List Sn) (nm pa:Bs) (w:World) (h:RdS w a l) (hP:Plc a c l) (hn:n=l.length) (hR:bH l) (hs:dF l) (hn1:nm.length≤1048576) (hn2:pa.length≤1048576) :
  Calls Tryz.prog 146 #[.slice a n c,.string (str nm),.string (str pa)] w fun r w'=>(cW l ⟨nm,pa,1,false,[]⟩≠0∧bI 0 (cW l ⟨nm,pa,1,false,[]⟩) l w r w')∨(cW l ⟨nm,pa,1,false,[]⟩=0∧bI 0 0 (dK l ⟨nm,pa,1,false,[]⟩) w r w'):=by
 subst hn;have hl:=hR.len;have X0:=aA (fB.new w (.int .i64 0) (.int .i64 0) (.slice none 0 0) 29);have B0:=aA (aC w (.cells #[.int .i64 0,.int .i64 0,.slice none 0 0] 29));have HC:=aA (gX a c l.length l _ (h.below B0.out) rfl (by omega) hs)
 rw[hR.good]at HC;have HRd:=aA h;have HRI:=aA hR.rise;have HNE:=aA (show ∀ y∈l,y.name≠[] from fun y hy=>iC (hR.own y hy).1)
 have HSM:=aA hs;have HP:=aA hP;clear h hs hR hP;go_enter Tryz.func146,Tryz.ntmps146;go_wp2_with fail
 have hsz0:(w.alloc (.cells #[.int .i64 0,.int .i64 0,.slice none 0 0] 29)).heap.size=w.heap.size+1:=by simp
 generalize w.alloc (.cells #[.int .i64 0,.int .i64 0,.slice none 0 0] 29)=W0 at *;refine HC.out.mono ?_;rintro r w1 ⟨rfl,hb1⟩;have B1:=aA (aB B0.out hb1);have X1:=aA (X0.out.below hb1);have hs1:=hb1.size;clear hb1;go_wp2_with fail
 refine (zt0 a c l.length l ⟨nm,pa,1,false,[]⟩ none 0 w1 (HRd.out.below B1.out) HP.out rfl (by omega) HRI.out HNE.out HSM.out (fun e=>absurd rfl e) hn1 hn2 (by simp) (fun y hy=>by simp at hy)).mono ?_
 rintro r w9 (⟨hg,av,cv,rfl,hG,hb9⟩ | ⟨hg,av,cv,rfl,hG,hb9⟩)
 ·have HQ:=aA hg
  have G9:=aA hG;have B9:=aA (aB B1.out hb9);obtain ⟨⟨t0,t1,t2⟩,t3,t4,t5⟩:=X1.out.below hb9;clear hG hb9 hg;go_wp2_with fail
  exact bodyPost_ret (v:=.agg #[.int .i64 0,.int .i64 (cW l ⟨nm,pa,1,false,[]⟩),.slice av l.length cv]) (by simp[results,Tryz.results146,go_sem,t0,t1,t2]) rfl (.inl ⟨HQ.out,bI.of (B:=w1.heap.size) (by omega) (Nat.le_refl _) rfl G9.out B9.out⟩)
 ·have HQ:=aA hg
  have G9:=aA hG;have B9:=aA (aB B1.out hb9);obtain ⟨⟨t0,t1,t2⟩,t3,t4,t5⟩:=X1.out.below hb9;clear hG hb9 hg;go_wp2_with fail
  exact bodyPost_ret (v:=.agg #[.int .i64 0,.int .i64 0,.slice av (dK l ⟨nm,pa,1,false,[]⟩).length cv]) (by simp[results,Tryz.results146,go_sem,t0,t1,t2]) rfl (.inr ⟨HQ.out,bI.of (B:=w1.heap.size) (by omega) (Nat.le_refl _) rfl G9.out B9.out⟩)
theorem ze2 (a:Option Addr) (c n:Nat) (l:List Sn) (nm pa:Bs) (xa:Option Addr) (xc m:Nat) (es:List En) (hm:m=es.length) (w:World) (h:RdS w a l) (hP:Plc a c l) (hn:n=l.length) (hR:bH l) (hs:dF l) (hn1:nm.length≤1048576) (hn2:pa.length≤1048576) (hx:RdE w xa es) (hs3':es.length≤1048576) (hs4:cG es) (hz:cD es=0) :
  Calls Tryz.prog 144 #[.slice a n c,.string (str nm),.string (str pa),.slice xa m xc] w fun r w'=>(cW l ⟨nm,pa,2,false,es⟩≠0∧bI 0 (cW l ⟨nm,pa,2,false,es⟩) l w r w')∨(cW l ⟨nm,pa,2,false,es⟩=0∧bI 0 0 (dK l ⟨nm,pa,2,false,es⟩) w r w'):=by
 subst hn;subst hm;have hl:=hR.len;have X0:=aA (fB.new w (.int .i64 0) (.int .i64 0) (.slice none 0 0) 29);have B0:=aA (aC w (.cells #[.int .i64 0,.int .i64 0,.slice none 0 0] 29));have HC:=aA (gX a c l.length l _ (h.below B0.out) rfl (by omega) hs)
 rw[hR.good]at HC;have HRd:=aA h;have HRI:=aA hR.rise;have HNE:=aA (show ∀ y∈l,y.name≠[] from fun y hy=>iC (hR.own y hy).1)
 have HSM:=aA hs;have HP:=aA hP;have HXR:=aA hx;have HS4:=aA hs4;clear hx hs4;clear h hs hR hP;go_enter Tryz.func144,Tryz.ntmps144;go_wp2_with fail
 have hsz0:(w.alloc (.cells #[.int .i64 0,.int .i64 0,.slice none 0 0] 29)).heap.size=w.heap.size+1:=by simp
 generalize w.alloc (.cells #[.int .i64 0,.int .i64 0,.slice none 0 0] 29)=W0 at *;refine HC.out.mono ?_;rintro r w1 ⟨rfl,hb1⟩;have B1:=aA (aB B0.out hb1);have X1:=aA (X0.out.below hb1);have hs1:=hb1.size;clear hb1;go_wp2_with fail
 refine (mB xa xc es.length es w1 (HXR.out.below B1.out) rfl hs3' HS4.out).mono ?_;rintro r w2 ⟨rfl,hb2⟩;rw[hz];clear hz;have B1:=aA (aB B1.out hb2);have X1:=aA (X1.out.below hb2);have hs1:=Nat.le_trans hs1 hb2.size;clear hb2;go_wp2_with fail
 refine (zt0 a c l.length l ⟨nm,pa,2,false,es⟩ xa xc w2 (HRd.out.below B1.out) HP.out rfl (by omega) HRI.out HNE.out HSM.out (HXR.out.below B1.out) hn1 hn2 hs3' HS4.out).mono ?_
 rintro r w9 (⟨hg,av,cv,rfl,hG,hb9⟩ | ⟨hg,av,cv,rfl,hG,hb9⟩)
 ·have HQ:=aA hg
  have G9:=aA hG;have B9:=aA (aB B1.out hb9);obtain ⟨⟨t0,t1,t2⟩,t3,t4,t5⟩:=X1.out.below hb9;clear hG hb9 hg;go_wp2_with fail
  exact bodyPost_ret (v:=.agg #[.int .i64 0,.int .i64 (cW l ⟨nm,pa,2,false,es⟩),.slice av l.length cv]) (by simp[results,Tryz.results144,go_sem,t0,t1,t2]) rfl (.inl ⟨HQ.out,bI.of (B:=w2.heap.size) (by omega) (Nat.le_refl _) rfl G9.out B9.out⟩)
 ·have HQ:=aA hg
  have G9:=aA hG;have B9:=aA (aB B1.out hb9);obtain ⟨⟨t0,t1,t2⟩,t3,t4,t5⟩:=X1.out.below hb9;clear hG hb9 hg;go_wp2_with fail
  exact bodyPost_ret (v:=.agg #[.int .i64 0,.int .i64 0,.slice av (dK l ⟨nm,pa,2,false,es⟩).length cv]) (by simp[results,Tryz.results144,go_sem,t0,t1,t2]) rfl (.inr ⟨HQ.out,bI.of (B:=w2.heap.size) (by omega) (Nat.le_refl _) rfl G9.out B9.out⟩)
def zoc (t:Sn) (b:Bool):Sn:=⟨t.name,t.parent,t.kind,b,t.layer⟩
def wH (l:List Sn) (t:Sn):Int:=if t.lease||l.any (fun s=>s.parent==t.name) then 7 else 0
theorem zyj {l:List Sn} {k:Nat} {s:Sn} (hr:fM l) (hs:l[k]?=some s):pK l s.name=l.take k++l.drop (k+1):=by
 have hdec:l=l.take k++s :: l.drop (k+1):=by rw[←eS hs,List.take_append_drop]
 have h9:=hr;rw[hdec]at h9;have hrl:∀ x∈l.take k,(!(x.name==s.name))=true:=fun x hx=>by
  have:=kB ((List.pairwise_append.1 h9).2.2 x hx s (by simp))
  simpa using this
 have hrr:∀ x∈l.drop (k+1),(!(x.name==s.name))=true:=fun x hx=>by
  have:=kB ((List.pairwise_cons.1 (List.pairwise_append.1 h9).2.1).1 x hx);simpa using fun e=>this e.symm
 unfold pK
 conv=>lhs;rw[hdec]
 rw[List.filter_append,List.filter_cons,List.filter_eq_self.2 hrl,List.filter_eq_self.2 hrr];simp
theorem zi3 {w0 w5:World} {B:Nat} {rs:List Rs} {l:List Sn} {k n:Nat} {av:Option Addr} {cv:Nat} (g1:rs.map Rs.s=l) (hk:k<l.length) (hn:n+1=l.length)
  (g3:∀ r∈rs,RdE w0 r.a r.s.layer) (hb:Below w0.heap.size w0 w5)
  (ho:w5.ownsRow B 42 5 (.slice av n cv) n (([]++aW (rs.take k))++aW (rs.drop (k+1)))):RdS w5 av (l.take k++l.drop (k+1)):=by
 refine zb2 (rs:=rs.take k++rs.drop (k+1)) ?_ ?_ (fun r hr=>?_) (B:=B) (n:=n) (c:=cv)
 ·rw[List.map_append,List.map_take,List.map_drop,g1]
 ·have e1:(l.take k++l.drop (k+1)).length=n:=by simp;omega
  rw[e1];have e2:aW (rs.take k++rs.drop (k+1))=([]++aW (rs.take k))++aW (rs.drop (k+1)):=by
   rw[oO];simp
  rw[e2];exact ho
 ·rcases List.mem_append.1 hr with hr | hr
  ·exact (g3 r (List.mem_of_mem_take hr)).below hb
  ·exact (g3 r (List.mem_of_mem_drop hr)).below hb
theorem zy5 (a:Option Addr) (c n:Nat) (l:List Sn) (nm:Bs) (w:World) (h:RdS w a l) (hn:n=l.length) (hl:l.length≤1048576) :
  Calls Tryz.prog 194 #[.slice a n c,.string (str nm)] w fun r w'=>r=.returned (.bool (l.any fun s=>s.parent==nm))∧w'=w:=by
 subst hn;have HR:=aA h;clear h;go_enter Tryz.func194,Tryz.ntmps194;go_wp2_with fail
 go_loop [5] (fun i=>∃ k:Nat,k≤l.length∧i=.int .i64 k∧Hid ((l.any fun s=>s.parent==nm)=((l.drop k).any fun s=>s.parent==nm))) (fun i=>l.length - (intOf i).toNat)
 case atStart=>exact ⟨0,Nat.zero_le _,rfl,aA (by simp)⟩
 case round =>
  obtain ⟨k,hk,rfl,HA⟩:=hrel;by_cases hlt:k<l.length
  ·obtain ⟨b,off,e,x,cc,rfl,hb,he,c0,c1,c2,c3,c4,hr⟩:=HR.out.at hlt
   have HX:=aA he;clear he hr;by_cases hp:e.parent=nm
   ·have HE:=aA (show (l.any fun s=>s.parent==nm)=true by rw[HA.out,eS HX.out];simp[hp])
    have hs:=kN hp;clear hp;go_wp2_with fail
    go_ret
    exact ⟨dD HE.out.symm,rfl⟩
   ·have HE:=aA (show (l.any fun s=>s.parent==nm)=((l.drop (k+1)).any fun s=>s.parent==nm) by rw[HA.out,eS HX.out];simp[hp])
    have hs:=mE hp;clear hp;go_wp2_with fail
    go_round
    case rel=>exact ⟨k+1,by omega,by go_num,HE⟩
    case measure=>simp[intOf];omega
  ·have HE:=aA (show (l.any fun s=>s.parent==nm)=false by rw[HA.out,List.drop_eq_nil_of_le (by omega)];rfl)
   go_wp2_with fail
   go_ret
   exact ⟨dD HE.out.symm,rfl⟩
theorem xT (a:Option Addr) (c n:Nat) (l:List Sn) (nm:Bs) (w:World) (h:RdS w a l) (hP:Plc a c l) (hn:n=l.length) (hR:bH l) (hs:dF l) :
  Calls Tryz.prog 149 #[.slice a n c,.string (str nm)] w fun r w'=>(atS l nm=none∧bI 0 4 l w r w')∨∃ t,atS l nm=some t∧((wH l t=7∧bI 0 7 l w r w')∨(wH l t=0∧bI 0 0 (pK l nm) w r w')):=by
 subst hn;have hl:=hR.len;obtain ⟨i1,ki,kz0,kz1,kz2⟩:=info_parts Tryz.infoSn;have X0:=aA (fB.new w (.int .i64 0) (.int .i64 0) (.slice none 0 0) 29);have B0:=aA (aC w (.cells #[.int .i64 0,.int .i64 0,.slice none 0 0] 29));have HC:=aA (gX a c l.length l _ (h.below B0.out) rfl (by omega) hs)
 rw[hR.good]at HC;have HRd:=aA h;have HRI:=aA hR.rise;have HSM:=aA hs;have HP:=aA hP;clear h hs hR hP;go_enter Tryz.func149,Tryz.ntmps149;go_wp2_with fail
 have hsz0:(w.alloc (.cells #[.int .i64 0,.int .i64 0,.slice none 0 0] 29)).heap.size=w.heap.size+1:=by simp
 generalize w.alloc (.cells #[.int .i64 0,.int .i64 0,.slice none 0 0] 29)=W0 at *;refine HC.out.mono ?_;rintro r w1 ⟨rfl,hb1⟩;have B1:=aA (aB B0.out hb1);have X1:=aA (X0.out.below hb1);have hs1:=hb1.size;clear hb1;go_wp2_with fail
 refine (gW a c l.length l nm w1 (HRd.out.below B1.out) rfl (by omega)).mono ?_
 rintro r w2 ⟨rfl,hw2⟩;subst hw2;cases hp:plS l nm with
 | none =>
  have HN:=aA (jK hp);clear hp;simp only[cR];go_wp2_with fail
  refine (cC _ c l.length l 4 _ (HRd.out.below B1.out) rfl (by omega) HSM.out).mono ?_
  rintro r w9 ⟨av,cv,rfl,hG,hb9⟩;have G9:=aA hG;have B9:=aA (aB B1.out hb9);obtain ⟨⟨t0,t1,t2⟩,t3,t4,t5⟩:=X1.out.below hb9;clear hG hb9;go_wp2_with fail
  exact bodyPost_ret (v:=.agg #[.int .i64 0,.int .i64 4,.slice av l.length cv]) (by simp[results,Tryz.results149,go_sem,t0,t1,t2]) rfl (.inl ⟨HN.out,bI.of (B:=w2.heap.size) (by omega) (Nat.le_refl _) rfl G9.out B9.out⟩)
 | some j =>
  obtain ⟨s,hq,hat⟩:=nR hp;have hjl:=(List.getElem?_eq_some_iff.1 hq).1;obtain ⟨b2,off2,e,x2,cc2,hbb,hb2,he,d0,d1,d2,d3,d4,hr2⟩:=(HRd.out.below B1.out).at hjl;subst hbb;have heq:e=s:=by rw[hq]at he;exact (Option.some.inj he).symm
  subst heq;have HAT:=aA hat;have HEN:=aA (cI hat).2;have HQ:=aA hq;have hPc:l.length≤c:=by
   rcases HP.out with ⟨e1,-⟩ | ⟨b5,off5,e1,hc5⟩
   ·cases e1
   ·exact hc5
  have hj0:¬ (j:Int)<0:=by omega
  have hj1:(j:Int)<(l.length:Int):=by omega
  clear hp hq hat he hr2 d0 d1 d2 d4;simp only[cR];go_wp2_with fail
  refine (zy5 _ c l.length l nm w2 (HRd.out.below B1.out) rfl (by omega)).mono ?_
  rintro r w3 ⟨rfl,hw3⟩;subst hw3;have HRM:=aA (show wH l e=if e.lease||l.any (fun s=>s.parent==nm) then 7 else 0 by unfold wH;rw[HEN.out])
  cases hch:(l.any fun s=>s.parent==nm)
  ·cases hle:e.lease
   ·have HQ0:=aA (show wH l e=0 by rw[HRM.out,hch,hle];rfl)
    rw[hle]at d3;clear hch hle;obtain ⟨rs,g1,g3,g4⟩:=ze7 (HRd.out.below B1.out);have G1:=aA g1;have G3:=aA g3;have hrsl:rs.length=l.length:=by rw[←g1,List.length_map]
    have NS:=aA (show ∀ w',Below w3.heap.size w3 w'→∀ i u,(aW rs)[i]?=some u→w'.cell? ⟨b2,off2+i,none⟩=some u from fun w' hb' i u hu=>by
     have hln:l≠[]:=fun e=>by rw[e]at hjl;simp at hjl
     obtain ⟨b1,off1,e1,hb1,hc1⟩:=g4 hln;simp only[Option.some.injEq,Addr.mk.injEq,and_true]at e1;obtain ⟨rfl,rfl⟩:=e1;exact (hb'.cell (p:=⟨b2,off2+i,none⟩) hb1).trans (hc1 i u hu))
    clear g1 g3 g4;have HOF:=aA (show pK l nm=l.take j++l.drop (j+1) by rw[←HEN.out];exact zyj HRI.out HQ.out)
    have HLn:=aA (show l.length - 1=(l.take j++l.drop (j+1)).length from by simp;omega)
    have HL1:=aA (show l.length - 1+1=l.length by omega)
    have HSm:=aA (show dF (l.take j++l.drop (j+1)) from ⟨by simp;omega,fun y hy=>by
     rcases List.mem_append.1 hy with hy | hy
     ·exact HSM.out.2 y (List.mem_of_mem_take hy)
     ·exact HSM.out.2 y (List.mem_of_mem_drop hy)⟩)
    have OWN0:Hid ((w3.alloc (.cells #[] 42)).drew.ownsRow w3.heap.size 42 5 (.slice (some ⟨w3.heap.size,0,none⟩) 0 0) 0 []):=World.ownsRow_made w3 #[] 0 (Nat.le_refl _) (Nat.zero_le _) rfl;have NEWS0:Hid (∀ q u,(aW (rs.take j))[q]?=some u→(w3.alloc (.cells #[] 42)).drew.cell? ((⟨b2,off2,none⟩:Addr).add q)=some u):=aA (fun q u hj=>by
     rw[eU];refine NS.out _ (aC w3 (.cells #[] 42)).drew q u ?_;rw[←mX,List.getElem?_take]at hj;split at hj
     ·exact hj
     ·cases hj)
    have hln0:(aW (rs.take j)).length=j * 5:=by rw[dB,List.length_take];congr 1;omega
    have hm0:0+j≤maxLen:=by unfold maxLen;omega
    have hm0':(0+j) * 72≤140737488355328:=by omega
    have hk0i:(0:Int)≤(j:Int):=by omega
    have hk0':(0:Int)≤(j:Int)+1:=by omega
    have hwr:IntKind.i64.wrap ((j:Int)+1)=(j:Int)+1:=by simp[IntKind.wrap,IntKind.signed,IntKind.bits];omega
    have htn:((j:Int)+1).toNat=j+1:=by omega
    have hI1:(j:Int)≤(c:Int):=by omega
    have hI2:(j:Int)+1≤(l.length:Int):=by omega
    have hI3:(l.length:Int)≤(c:Int):=by omega
    have hI4:(j:Int)≤(l.length:Int):=by omega
    by_cases hck:c=j+1
    ·subst hck
     have hI5:(j:Int)≤(j:Int)+1:=by omega
     have hI6:(l.length:Int)≤(j:Int)+1:=by omega
     have hnl0:(aW (rs.drop (j+1))).length=0 * 5:=by rw[dB,List.length_drop,hrsl];omega
     have hk0:j+0=l.length - 1:=by omega
     have hm3:j+0≤maxLen:=by unfold maxLen;omega
     have hm3':(j+0) * 72≤140737488355328:=by omega
     have NEWS2:Hid (∀ w5:World,Below w3.heap.size w3 w5→∀ q u,(aW (rs.drop (j+1)))[q]?=some u→w5.cell? ((⟨b2,off2,none⟩:Addr).add q)=some u):=fun w5 hb5 q u hj=>by rw[←jG,List.drop_eq_nil_of_le (by rw[dB];omega)]at hj;simp at hj
     go_wp2_with fail
     go_region_held3 (fun _=>True) (trivial)
      ((
       first
       | (refine bB (by rfl) (.tmp 32) (.tmp 35) 24 (by rfl) w3.heap.size 42 i1 (.agg #[.string ⟨#[]⟩,.string ⟨#[]⟩,.int .i64 0,.bool false,.slice none 0 0]) 5 72 Tryz.underlying24 ki kz0 kz1 kz2 rfl (by decide) (.slice (some ⟨w3.heap.size,0,none⟩) 0 0) 0 [] (by rfl) OWN0.out ⟨b2,off2,none⟩ j (j+1) (aW (rs.take j)) (by rfl) hln0 NEWS0.out (dW _) j (by simp) hm0 hm0' (by simp) ?_;intro av4 cv4 w4 hown4 hk4;have O4:=aA hown4;have BB4:=aA ((aC w3 (.cells #[] 42)).drew.trans (hk4.below (by simp) (fun q hq hS=>by simp[Value.ownBlock]at hS;omega)));clear hown4 hk4)
       | (refine bB (by rfl) (.tmp 36) (.tmp 40) 24 (by rfl) w3.heap.size 42 i1 (.agg #[.string ⟨#[]⟩,.string ⟨#[]⟩,.int .i64 0,.bool false,.slice none 0 0]) 5 72 Tryz.underlying24 ki kz0 kz1 kz2 rfl (by decide) (.slice av4 j cv4) j ([]++aW (rs.take j)) (by rfl) O4.out ⟨b2,off2,none⟩ 0 0 (aW (rs.drop (j+1))) (by rfl) hnl0 (NEWS2.out w4 BB4.out) (dW _) (l.length - 1) hk0 hm3 hm3' BB4.out.size ?_;intro av5 cv5 w5 hown5 hk5;have BB5:=aA (BB4.out.trans (hk5.below BB4.out.size (fun q hq hS=>by have:=(O4.out.lt q hS).1;omega)));have RD5:=aA (zi3 G1.out hjl HL1.out G3.out BB5.out hown5);clear hown5 hk5)
       | (go_at_call 79;refine (dV av5 cv5 (l.length - 1) _ w5 RD5.out HLn.out (by rw[←HLn.out];omega) HSm.out).mono ?_;rw[←HLn.out];rintro r w6 ⟨av6,cv6,rfl,hG6,hb6⟩;have GG6:=aA (hG6.mono BB5.out.size);have B6:=aA (aB BB5.out hb6);obtain ⟨⟨t0,t1,t2⟩,t3,t4,t5⟩:=X1.out.below B6.out;clear hG6 hb6)))
     go_wp2_with fail
     have hpl:(pK l nm).length=l.length - 1:=by rw[HOF.out];exact HLn.out.symm
     exact bodyPost_ret (v:=.agg #[.int .i64 0,.int .i64 0,.slice av6 (l.length - 1) cv6]) (by first | (simp[results,Tryz.results149,go_sem,t0,t1,t2];done) | (simp[results,Tryz.results149,go_sem,t0,t1,t2];omega)) rfl (.inr ⟨e,HAT.out,.inr ⟨HQ0.out,bI.of (B:=w3.heap.size) (by omega) (Nat.le_refl _) hpl.symm (by rw[HOF.out];exact GG6.out) (aB B1.out B6.out)⟩⟩)
    ·have hck2:¬ j+1=c:=fun e=>hck e.symm
     have hnl:(aW (rs.drop (j+1))).length=(l.length - (j+1)) * 5:=by rw[dB,List.length_drop,hrsl]
     have hN':j+(l.length - (j+1))=l.length - 1:=by omega
     have hm2:j+(l.length - (j+1))≤maxLen:=by unfold maxLen;omega
     have hm2':(j+(l.length - (j+1))) * 72≤140737488355328:=by omega
     have NEWS2:Hid (∀ w5:World,Below w3.heap.size w3 w5→∀ q u,(aW (rs.drop (j+1)))[q]?=some u→w5.cell? ((⟨b2,off2+(j+1) * 5,none⟩:Addr).add q)=some u):=fun w5 hb5 q u hj=>by
      rw[eU,Nat.add_assoc];exact NS.out _ hb5 _ u (by rw[←jG,List.getElem?_drop]at hj;exact hj)
     go_wp2_with fail
     go_region_held3 (fun _=>True) (trivial)
      ((
       first
       | (refine bB (by rfl) (.tmp 32) (.tmp 35) 24 (by rfl) w3.heap.size 42 i1 (.agg #[.string ⟨#[]⟩,.string ⟨#[]⟩,.int .i64 0,.bool false,.slice none 0 0]) 5 72 Tryz.underlying24 ki kz0 kz1 kz2 rfl (by decide) (.slice (some ⟨w3.heap.size,0,none⟩) 0 0) 0 [] (by rfl) OWN0.out ⟨b2,off2,none⟩ j c (aW (rs.take j)) (by rfl) hln0 NEWS0.out (dW _) j (by simp) hm0 hm0' (by simp) ?_;intro av4 cv4 w4 hown4 hk4;have O4:=aA hown4;have BB4:=aA ((aC w3 (.cells #[] 42)).drew.trans (hk4.below (by simp) (fun q hq hS=>by simp[Value.ownBlock]at hS;omega)));clear hown4 hk4)
       | (refine bB (by rfl) (.tmp 36) (.tmp 40) 24 (by rfl) w3.heap.size 42 i1 (.agg #[.string ⟨#[]⟩,.string ⟨#[]⟩,.int .i64 0,.bool false,.slice none 0 0]) 5 72 Tryz.underlying24 ki kz0 kz1 kz2 rfl (by decide) (.slice av4 j cv4) j ([]++aW (rs.take j)) (by rfl) O4.out ⟨b2,off2+(j+1) * 5,none⟩ (l.length - (j+1)) (c - (j+1)) (aW (rs.drop (j+1))) (by rfl) hnl (NEWS2.out w4 BB4.out) (dW _) (l.length - 1) hN' hm2 hm2' BB4.out.size ?_;intro av5 cv5 w5 hown5 hk5;have BB5:=aA (BB4.out.trans (hk5.below BB4.out.size (fun q hq hS=>by have:=(O4.out.lt q hS).1;omega)));have RD5:=aA (zi3 G1.out hjl HL1.out G3.out BB5.out hown5);clear hown5 hk5)
       | (go_at_call 79;refine (dV av5 cv5 (l.length - 1) _ w5 RD5.out HLn.out (by rw[←HLn.out];omega) HSm.out).mono ?_;rw[←HLn.out];rintro r w6 ⟨av6,cv6,rfl,hG6,hb6⟩;have GG6:=aA (hG6.mono BB5.out.size);have B6:=aA (aB BB5.out hb6);obtain ⟨⟨t0,t1,t2⟩,t3,t4,t5⟩:=X1.out.below B6.out;clear hG6 hb6)))
     go_wp2_with fail
     have hpl:(pK l nm).length=l.length - 1:=by rw[HOF.out];exact HLn.out.symm
     exact bodyPost_ret (v:=.agg #[.int .i64 0,.int .i64 0,.slice av6 (l.length - 1) cv6]) (by first | (simp[results,Tryz.results149,go_sem,t0,t1,t2];done) | (simp[results,Tryz.results149,go_sem,t0,t1,t2];omega)) rfl (.inr ⟨e,HAT.out,.inr ⟨HQ0.out,bI.of (B:=w3.heap.size) (by omega) (Nat.le_refl _) hpl.symm (by rw[HOF.out];exact GG6.out) (aB B1.out B6.out)⟩⟩)
   ·have HQ7:=aA (show wH l e=7 by rw[HRM.out,hch,hle];rfl)
    rw[hle]at d3;clear hch hle;go_wp2_with fail
    refine (cC _ c l.length l 7 _ (HRd.out.below B1.out) rfl (by omega) HSM.out).mono ?_
    rintro r w9 ⟨av,cv,rfl,hG,hb9⟩;have G9:=aA hG;have B9:=aA (aB B1.out hb9);obtain ⟨⟨t0,t1,t2⟩,t3,t4,t5⟩:=X1.out.below hb9;clear hG hb9;go_wp2_with fail
    exact bodyPost_ret (v:=.agg #[.int .i64 0,.int .i64 7,.slice av l.length cv]) (by simp[results,Tryz.results149,go_sem,t0,t1,t2]) rfl (.inr ⟨e,HAT.out,.inl ⟨HQ7.out,bI.of (B:=w3.heap.size) (by omega) (Nat.le_refl _) rfl G9.out B9.out⟩⟩)
  ·have HQ7:=aA (show wH l e=7 by rw[HRM.out,hch,Bool.or_true];rfl)
   clear hch;go_wp2_with fail
   refine (cC _ c l.length l 7 _ (HRd.out.below B1.out) rfl (by omega) HSM.out).mono ?_
   rintro r w9 ⟨av,cv,rfl,hG,hb9⟩;have G9:=aA hG;have B9:=aA (aB B1.out hb9);obtain ⟨⟨t0,t1,t2⟩,t3,t4,t5⟩:=X1.out.below hb9;clear hG hb9;go_wp2_with fail
   exact bodyPost_ret (v:=.agg #[.int .i64 0,.int .i64 7,.slice av l.length cv]) (by simp[results,Tryz.results149,go_sem,t0,t1,t2]) rfl (.inr ⟨e,HAT.out,.inl ⟨HQ7.out,bI.of (B:=w3.heap.size) (by omega) (Nat.le_refl _) rfl G9.out B9.out⟩⟩)
end Go.Proofs.YtgaeikgoknoamaaGreat
namespace Go.Proofs.YtgaeikgoknoamaaGreat
open Go.RowKit Go.Shelf
attribute [local go_sem] Oper.semAt_some
theorem nU {F:Fence} {n:Nat} {P:Program} {w:World} {ops:Array Oper} {o:Oper} {a:Act} {K:Act→World→Prop} {Q:Exit→Act→World→Prop} {E:Prop} (hgd:o.guard=none) (s x:Operand) (t:TypeId)
  (hop:o.op=Op.call { callee:=Callee.builtin Builtin.append,args:=#[s,x],argTypes:=#[t,t] })
  (base:Nat) (e:TypeId) (i:TypeInfo) (z:Value) (size bytes:Nat) (h1:P.underlying t=some (.slice e)) (h2:P.info? e=some i) (h3:i.zero=some z) (h4:i.size=size) (h5:i.bytes=bytes) (h6:z.cells.size=size) (h7:0<size)
  (v:Value) (k:Nat) (xs:List Value) (hs:a.eval s=v) (hown:w.ownsRow base e size v k xs) (ad:Addr) (m c:Nat) (news:List Value) (hx:a.eval x=.slice (some ad) m c) (hn:news.length=m * size)
  (hc:∀ j u,news[j]?=some u→w.cell? (ad.add j)=some u) (h1c:∀ u∈news,u.oneCell'=true) (N:Nat) (hN:k+m=N) (b1:k+m≤maxLen) (b2:(k+m) * bytes≤140737488355328) (b3:base≤w.heap.size)
  (hK:∀ av cv w',w'.ownsRow base e size (.slice av N cv) N (xs++news)→w.grownBy w' v.ownBlock→K (a.put o.dst (.slice av N cv)) w') :
  if Region.wanted o (yielded ops a.tmps)=true then Oper.wpIn F n P o a w K Q else E:=by
 have hw:Region.wanted o (yielded ops a.tmps)=true:=by simp[Region.wanted,hgd]
 rw[if_pos hw];obtain ⟨v',w',hrun,r1,r2,r3⟩:=run_append_own (P:=P) w base t o.type e i z size bytes h1 h2 h3 h4 h5 h6 h7 v k xs hown ad m c news hn hc h1c b1 b2 b3;rw[hN]at r1;obtain ⟨av,cv,rfl⟩:=aQ r1;unfold Oper.wpIn;refine ⟨?_,?_⟩
 ·simp[Oper.about,hop,resolve,Target.leads,Sem.run_pure]
 ·rw[Oper.semAt_plain F _ _ (by rw[hop];intro c hc';cases hc')]
  simp[execOp,hop,resolve,invoke,builtin,hs,hx,hrun,Result.andThen]
  exact hK av cv w' r1 r2
theorem zs0 {A B:World} {row:Option Nat} (h:A.grownBy B row):aD (fun b=>row=some b) A B:=⟨h.os,h.tape,h.output,h.size,fun k hk hn=>h.block k hk (fun e=>hn e.symm)⟩
theorem pM {A B:World} {row:Option Nat} {base n s:Nat} {e:TypeId} {v:Value} {xs:List Value} (h:A.ownsRow base e s v n xs) (hg:A.grownBy B row) (hr:∀ r,row=some r→∃ o:Obj,A.heap[r]?=some o∧o.isCells=false):B.ownsRow base e s v n xs:=by
 refine aH h (zs0 hg) (fun b hb hS=>?_)
 obtain ⟨o,ho,hc⟩:=hr b hS;rcases h.2 with ⟨rfl,_⟩ | ⟨g,cap,cur,rfl,_,hh,_⟩
 ·simp[Value.ownBlock]at hb
 ·obtain rfl:g=b:=by simpa [Value.ownBlock] using hb
  rw[hh]at ho;cases ho;cases hc
theorem GW.grown {A B:World} {row:Option Nat} {base:Nat} {v:Value} {es:List En} (h:GW base A v es) (hg:A.grownBy B row) (hr:∀ r,row=some r→∃ o:Obj,A.heap[r]?=some o∧o.isCells=false):GW base B v es:=by
 obtain ⟨rs,e,g1,g2⟩:=h;exact ⟨rs,e,pM g1 hg hr,fun r hx=>pM (g2 r hx) hg hr⟩
def LL (B:Nat) (w:World) (v:Value) (ls:List (List En)):Prop :=
 ∃ xs:List Ly,xs.map Ly.es=ls∧w.ownsRow B 40 1 v ls.length (xs.map lyV)∧∀ x∈xs,GW B w (lyV x) x.es
theorem LL.nil (B:Nat) (w:World):LL B w (.slice none 0 0) []:=⟨[],rfl,World.ownsRow_nil _ _ _ _,fun x hx=>by simp at hx⟩
theorem LL.shape {B:Nat} {w:World} {v:Value} {ls:List (List En)} (h:LL B w v ls):∃ a c,v=.slice a ls.length c:=by
 obtain ⟨xs,_,h1,_⟩:=h;exact aQ h1
theorem LL.grown {B:Nat} {w w':World} {row:Option Nat} {v:Value} {ls:List (List En)} (h:LL B w v ls) (hg:w.grownBy w' row) (hr:∀ r,row=some r→∃ o:Obj,w.heap[r]?=some o∧o.isCells=false):LL B w' v ls:=by
 obtain ⟨xs,h1,h2,h3⟩:=h;exact ⟨xs,h1,pM h2 hg hr,fun x hx=>(h3 x hx).grown hg hr⟩
theorem LL.kept {S:Nat→Prop} {B:Nat} {w w':World} {v:Value} {ls:List (List En)} (h:LL B w v ls) (hk:aD S w w') (hS:∀ b,B≤b→¬ S b):LL B w' v ls:=by
 obtain ⟨xs,h1,h2,h3⟩:=h;exact ⟨xs,h1,aH h2 hk (fun b hb hs=>hS b (h2.lt b hb).1 hs),fun x hx=>(h3 x hx).kept hk hS⟩
theorem LL.below {B:Nat} {w w':World} {v:Value} {ls:List (List En)} (h:LL B w v ls) (hk:Below w.heap.size w w'):LL B w' v ls:=h.kept (S:=fun _=>False) (aD.of_below hk) (fun _ _=>id)
theorem LL.mono {B B':Nat} {w:World} {v:Value} {ls:List (List En)} (h:LL B w v ls) (hb:B'≤B):LL B' w v ls:=by
 obtain ⟨xs,h1,h2,h3⟩:=h;exact ⟨xs,h1,aS h2 hb,fun x hx=>(h3 x hx).mono hb⟩
theorem LL.rd {B:Nat} {w:World} {a:Option Addr} {n c:Nat} {ls:List (List En)} (h:LL B w (.slice a n c) ls):RdL w a ls:=by
 intro hz;obtain ⟨xs,hx,h1,h2⟩:=h;have hpos:0<ls.length:=List.length_pos_iff.2 hz;have hl:xs.length=ls.length:=by rw[←hx,List.length_map]
 rcases h1.2 with ⟨h',h0⟩ | ⟨g,cap,cur,h',hb,hgb,_⟩
 ·omega
 ·simp only[Value.slice.injEq]at h'
  obtain ⟨rfl,rfl,rfl⟩:=h';have hlt:g<w.heap.size:=(Array.getElem?_eq_some_iff.1 hgb).1;refine ⟨g,0,fun i=>((xs[i]?).map Ly.a).getD none,fun i=>((xs[i]?).map Ly.c).getD 0,rfl,hlt,fun i es he=>?_⟩
  rw[←hx,List.getElem?_map]at he;obtain ⟨x,hxi,rfl⟩:=Option.map_eq_some_iff.1 he;have hi:i<xs.length:=(List.getElem?_eq_some_iff.1 hxi).1;simp only[hxi,Option.map_some,Option.getD_some,Nat.zero_add];refine ⟨?_,GW.rd (show GW B w (.slice x.a x.es.length x.c) x.es from h2 x (List.mem_of_getElem? hxi))⟩
  have:=h1.cellAt i (by omega)
  rw[this,List.getElem?_map,hxi];rfl
theorem LL.push {B:Nat} {w w2:World} {v v':Value} {ls:List (List En)} {xs:List Ly} {x:Ly} (hx:xs.map Ly.es=ls) (h1:w.ownsRow B 40 1 v ls.length (xs.map lyV)) (h2:∀ x∈xs,GW B w (lyV x) x.es) (hG:GW B w (lyV x) x.es)
  (ho:w2.ownsRow B 40 1 v' (ls.length+1) (xs.map lyV ++ [lyV x])) (hk:aD (fun b=>v.ownBlock=some b) w w2):LL B w2 v' (ls ++ [x.es]):=by
 refine ⟨xs ++ [x],by rw[List.map_append,hx];rfl,by simpa using ho,fun y hy=>?_⟩
 rcases List.mem_append.1 hy with hy | hy
 ·exact (h2 y hy).apart h1 (by decide) (by decide) hk
 ·simp only[List.mem_singleton]at hy
  subst hy;exact hG.apart h1 (by decide) (by decide) hk
def KpR (b g:Nat) (W W':World):Prop:=∀ k,(k=b∨k=g)→∀ o:Obj,W.heap[k]?=some o→o.isCells=true→W'.heap[k]?=some o
theorem KpR.refl (b g:Nat) (W:World):KpR b g W W:=fun _ _ _ h _=>h
theorem KpR.trans {b g:Nat} {A B C:World} (h:KpR b g A B) (k:KpR b g B C):KpR b g A C:=fun i hi o ho hc=>k i hi o (h i hi o ho hc) hc
theorem KpR.put {b g:Nat} (W:World) (l:Nat) (o o':Obj) (hl:W.heap[l]?=some o) (hc:o.isCells=false):KpR b g W (W.putObj l o'):=fun k _ o2 h2 hc2=>by
 by_cases e:k=l
 ·subst e;rw[hl]at h2;cases h2;rw[hc]at hc2;cases hc2
 ·exact (World.putObj_heap_other e).trans h2
theorem KpR.kept {b g:Nat} {S:Nat→Prop} {W W':World} (hk:aD S W W') (hb:¬ S b) (hg:¬ S g):KpR b g W W':=fun k hkk o ho _=>by
 have hlt:=(Array.getElem?_eq_some_iff.1 ho).1;rcases hkk with rfl | rfl
 ·exact (hk.block _ hlt hb).trans ho
 ·exact (hk.block _ hlt hg).trans ho
theorem KpR.cell {b g k o:Nat} {W W':World} {v:Value} (h:KpR b g W W') (hk:k=b∨k=g) (hc:∃ o:Obj,W.heap[k]?=some o∧o.isCells=true) (hv:W.cell? ⟨k,o,none⟩=some v):W'.cell? ⟨k,o,none⟩=some v:=by
 obtain ⟨ob,ho,hoc⟩:=hc;exact (World.cell?_of_block (w:=W) (a:=⟨k,o,none⟩) ((h k hk ob ho hoc).trans ho.symm)).trans hv
abbrev Pl (P:Rs→Prop):=Int × { r:Rs // P r }
def plV {P:Rs→Prop} (x:Pl P):Array Value:=#[.int .i64 x.1,.agg #[.string (str x.2.1.s.name),.string (str x.2.1.s.parent),.int .i64 x.2.1.s.kind,.bool x.2.1.s.lease,.slice x.2.1.a x.2.1.s.layer.length x.2.1.c]]
theorem zu4 (n:Nat) (l Bn g cv:Nat) (P:Rs→Prop) (rs:List Rs) (hP:∀ r∈rs,P r) (hlen:rs.length≤1048576) (J Jx:List (Pl P)→World→Prop) (B:Nat) (hJ:AbidesFrom B J)
  (hY:∀ (pre:List (Pl P)) (x:Pl P) W,J pre W→pre.length<rs.length→YieldAt Fence.wide (n - 1) Tryz.prog l (plV x) W fun e W' =>
   (e=.returned (.bool true)∧J (pre ++ [x]) W'∧KpR Bn g W W')∨(e=.returned (.bool false)∧Jx (pre ++ [x]) W'))
  (W:World) (hBn:∃ o:Obj,W.heap[Bn]?=some o∧o.isCells=true) (hg:∃ o:Obj,W.heap[g]?=some o∧o.isCells=true) (hc:W.cell? ⟨Bn,0,none⟩=some (.slice (some ⟨g,0,none⟩) rs.length cv)) (hrow:∀ i r,rs[i]?=some r→W.cell? ⟨g,i * 5,none⟩=some (.string (str r.s.name))∧W.cell? ⟨g,i * 5+1,none⟩=some (.string (str r.s.parent))∧W.cell? ⟨g,i * 5+2,none⟩=some (.int .i64 r.s.kind)∧W.cell? ⟨g,i * 5+3,none⟩=some (.bool r.s.lease)∧W.cell? ⟨g,i * 5+4,none⟩=some (.slice r.a r.s.layer.length r.c)) (h0:J [] W) :
  CallsIn Fence.wide n Tryz.prog 85 #[.func (.yield l) #[] #[],.pointer (some ⟨Bn,0,none⟩)] W fun e W'=>(∃ v,e=.returned v) ∧
   ((∃ ys,ys.map (fun x=>x.2.1)=rs.reverse∧J ys W')∨(∃ pre,True∧Jx pre W')):=by
 have HROW:=aA hrow;have HCB:=aA hc;clear hrow;refine callsIn_of_wp Tryz.func85 rfl trivial ?_ rfl;simp only[Tryz.ntmps85,List.size_toArray,List.length_cons,List.length_nil,Nat.reduceAdd,Nat.reduceSub,Array.replicate_succ,Array.replicate_zero,List.push_toArray,List.append_toArray,List.nil_append,List.cons_append];gi_wp2
 clear hc;gi_loopw [3] (fun i wr=>∃ (pre:List (Pl P)) (k:Nat),k≤rs.length∧i=.int .i64 ((k:Int) - 1)∧pre.length+k=rs.length∧Hid (pre.map (fun x=>x.2.1)=(rs.drop k).reverse)∧Hid (J pre wr)∧Hid (KpR Bn g W wr)) (fun i _=>(intOf i+1).toNat)
 case atStart=>exact ⟨[],rs.length,Nat.le_refl _,by first | rfl | simp,by simp,aA (by simp),aA h0,aA (KpR.refl _ _ _)⟩
 case round =>
  obtain ⟨pre,k,hk,rfl,hpk,HPR,HJ,HW⟩:=hrel;cases k with
  | zero =>
   gi_wp2_with fail
   go_end0
   exact ⟨⟨_,rfl⟩,.inl ⟨pre,by have:=HPR.out;simpa using this,HJ.out⟩⟩
  | succ j =>
   obtain ⟨r,hr⟩:∃ r,rs[j]?=some r:=⟨_,List.getElem?_eq_getElem (by omega)⟩
   have hPr:P r:=hP r (List.mem_of_getElem? hr);obtain ⟨d0,d1,d2,d3,d4⟩:=HROW.out j r hr;have c0:=HW.out.cell (.inr rfl) hg d0;have c1:=HW.out.cell (.inr rfl) hg d1;have c2:=HW.out.cell (.inr rfl) hg d2;have c3:=HW.out.cell (.inr rfl) hg d3;have c4:=HW.out.cell (.inr rfl) hg d4;have cB:=HW.out.cell (.inl rfl) hBn HCB.out;have ez:(((j+1:Nat):Int) - 1)=(j:Int):=by omega
   have hj0:(0:Int)≤(j:Int):=by omega
   have hj1:(j:Int)<(rs.length:Int):=by omega
   have HPN:=aA (show (pre ++ [((j:Int),(⟨r,hPr⟩:{ r:Rs // P r }))]).map (fun x=>x.2.1)=(rs.drop j).reverse by
    rw[List.map_append,HPR.out,eS hr,List.reverse_cons];rfl)
   obtain ⟨fn,tmps,assign,body,hy,hR⟩:=hY pre ((j:Int),⟨r,hPr⟩) wr HJ.out (by omega)
   dsimp only[plV]at hy
   rw[ez];clear d0 d1 d2 d3 d4 hr;gi_wp2_with fail
   refine ⟨fun h=>(by cases h),hR.mono ?_⟩
   clear hR hy;rintro e W3 (⟨rfl,hJ3,hk3⟩ | ⟨rfl,hJx3⟩)
   ·have H3:=aA hJ3
    have B3:=aA (HW.out.trans hk3);clear hJ3 hk3 c0 c1 c2 c3 c4 cB;gi_wp2_with fail
    go_roundw
    case rel=>exact ⟨_,j,by omega,by first | rfl | go_num | simp,by simp;omega,HPN,H3,B3⟩
    case measure=>simp[intOf]
   ·have H3:=aA hJx3
    clear hJx3;gi_wp2_with fail
    refine bodyPost_ret (results_none rfl _ _ _) rfl ?_;exact ⟨⟨_,rfl⟩,.inr ⟨_,trivial,H3.out⟩⟩
end Go.Proofs.YtgaeikgoknoamaaGreat
