/-
  Texts put together: SnpA SnpB SnpD SnpE SnpF SnqB.
-/
import Derived.Test.YtgaeikgoknoamaaGreatKKeeps8
import Derived.Test.YtgaeikgoknoamaaGreatKKeeps12
import Derived.Test.YtgaeikgoknoamaaGreatKKeeps10
import Derived.Shelf.Abstract
import Derived.Test.YtgaeikgoknoamaaGreatKKeeps3
set_option linter.unusedVariables false
set_option maxHeartbeats 3200000
set_option maxRecDepth 100000
namespace Go.Proofs.YtgaeikgoknoamaaGreat
open Go.RowKit Go.Maps
attribute [local go_sem ↓] Go.wp_at_zero Go.wp_at_succ
def gT (w:World) (b:Nat) (u0 u1 u2 u3 u4:Value):Prop:=w.cell? ⟨b,0,none⟩=some u0∧w.cell? ⟨b,1,none⟩=some u1∧w.cell? ⟨b,2,none⟩=some u2∧w.cell? ⟨b,3,none⟩=some u3∧w.cell? ⟨b,4,none⟩=some u4
theorem gT.new (w:World) (u0 u1 u2 u3 u4:Value) (t:TypeId):gT (w.alloc (.cells #[u0,u1,u2,u3,u4] t)) w.heap.size u0 u1 u2 u3 u4:=⟨by simp,by simp,by simp,by simp,by simp⟩
theorem gT.lt {w:World} {b:Nat} {u0 u1 u2 u3 u4:Value} (h:gT w b u0 u1 u2 u3 u4):b<w.heap.size:=World.block_lt_of_cell? w ⟨b,0,none⟩ h.1
theorem gT.below {w w':World} {b:Nat} {u0 u1 u2 u3 u4:Value} (h:gT w b u0 u1 u2 u3 u4) (hk:Below w.heap.size w w'):gT w' b u0 u1 u2 u3 u4 :=
 ⟨(hk.cell (p:=⟨b,0,none⟩) h.lt).trans h.1,(hk.cell (p:=⟨b,1,none⟩) h.lt).trans h.2.1,(hk.cell (p:=⟨b,2,none⟩) h.lt).trans h.2.2.1,(hk.cell (p:=⟨b,3,none⟩) h.lt).trans h.2.2.2.1,(hk.cell (p:=⟨b,4,none⟩) h.lt).trans h.2.2.2.2⟩
theorem gT.kept {S:Nat→Prop} {w w':World} {b:Nat} {u0 u1 u2 u3 u4:Value} (h:gT w b u0 u1 u2 u3 u4) (hk:aD S w w') (hn:¬ S b):gT w' b u0 u1 u2 u3 u4 :=
 ⟨(hk.cell (p:=⟨b,0,none⟩) h.lt hn).trans h.1,(hk.cell (p:=⟨b,1,none⟩) h.lt hn).trans h.2.1,(hk.cell (p:=⟨b,2,none⟩) h.lt hn).trans h.2.2.1,(hk.cell (p:=⟨b,3,none⟩) h.lt hn).trans h.2.2.2.1,(hk.cell (p:=⟨b,4,none⟩) h.lt hn).trans h.2.2.2.2⟩
def kX (w:World) (b:Nat) (u0 u1 u2 u3 u4:Value):Prop:=gT w b u0 u1 u2 u3 u4∧∀ i,w.frozen? ⟨b,i,none⟩=false
theorem kX.new (w:World) (u0 u1 u2 u3 u4:Value) (t:TypeId):kX (w.alloc (.cells #[u0,u1,u2,u3,u4] t)) w.heap.size u0 u1 u2 u3 u4:=⟨gT.new w u0 u1 u2 u3 u4 t,fun i=>by simp⟩
theorem kX.below {w w':World} {b:Nat} {u0 u1 u2 u3 u4:Value} (h:kX w b u0 u1 u2 u3 u4) (hk:Below w.heap.size w w'):kX w' b u0 u1 u2 u3 u4 :=
 ⟨h.1.below hk,fun i=>(hk.frozen (p:=⟨b,i,none⟩) h.1.lt).trans (h.2 i)⟩
theorem Below.five {w w':World} {b:Nat} (h:Below w.heap.size w w') (hb:w.heap.size≤b) (u0 u1 u2 u3 u4:Value):Below w.heap.size w (((((w'.setCell ⟨b,0,none⟩ u0).setCell ⟨b,1,none⟩ u1).setCell ⟨b,2,none⟩ u2).setCell ⟨b,3,none⟩ u3).setCell ⟨b,4,none⟩ u4) :=
 ((((h.setCell (p:=⟨b,0,none⟩) hb _).setCell (p:=⟨b,1,none⟩) hb _).setCell (p:=⟨b,2,none⟩) hb _).setCell (p:=⟨b,3,none⟩) hb _).setCell (p:=⟨b,4,none⟩) hb _
theorem aD.five (w:World) (b:Nat) (u0 u1 u2 u3 u4:Value):aD (fun x=>x=b) w (((((w.setCell ⟨b,0,none⟩ u0).setCell ⟨b,1,none⟩ u1).setCell ⟨b,2,none⟩ u2).setCell ⟨b,3,none⟩ u3).setCell ⟨b,4,none⟩ u4) :=
 aD.setCell (S:=fun x=>x=b) (p:=⟨b,4,none⟩) (aD.setCell (S:=fun x=>x=b) (p:=⟨b,3,none⟩) (aD.setCell (S:=fun x=>x=b) (p:=⟨b,2,none⟩) (aD.setCell (S:=fun x=>x=b) (p:=⟨b,1,none⟩) (aD.setCell (S:=fun x=>x=b) (p:=⟨b,0,none⟩) (aD.refl _ w) (fun _=>rfl) u0) (fun _=>rfl) u1) (fun _=>rfl) u2) (fun _=>rfl) u3) (fun _=>rfl) u4
theorem kX.set {w:World} {b:Nat} {a0 a1 a2 a3 a4:Value} (h:kX w b a0 a1 a2 a3 a4) (u0 u1 u2 u3 u4:Value):kX (((((w.setCell ⟨b,0,none⟩ u0).setCell ⟨b,1,none⟩ u1).setCell ⟨b,2,none⟩ u2).setCell ⟨b,3,none⟩ u3).setCell ⟨b,4,none⟩ u4) b u0 u1 u2 u3 u4:=by
 obtain ⟨⟨t0,t1,t2,t3,t4⟩,tf⟩:=h;have ne:∀ i j:Nat,i≠j→(⟨b,i,none⟩:Addr)≠⟨b,j,none⟩:=fun i j hij e=>hij (by injection e)
 refine ⟨⟨?_,?_,?_,?_,?_⟩,fun i=>by simp only[World.frozen?_setCell];exact tf i⟩
 ·rw[aR (ne 4 0 (by decide)),aR (ne 3 0 (by decide)),aR (ne 2 0 (by decide)),aR (ne 1 0 (by decide))]
  exact dS t0
 ·rw[aR (ne 4 1 (by decide)),aR (ne 3 1 (by decide)),aR (ne 2 1 (by decide))]
  exact dS (u:=a1) (by rw[aR (ne 0 1 (by decide))];exact t1)
 ·rw[aR (ne 4 2 (by decide)),aR (ne 3 2 (by decide))]
  exact dS (u:=a2) (by rw[aR (ne 1 2 (by decide)),aR (ne 0 2 (by decide))];exact t2)
 ·rw[aR (ne 4 3 (by decide))]
  exact dS (u:=a3) (by rw[aR (ne 2 3 (by decide)),aR (ne 1 3 (by decide)),aR (ne 0 3 (by decide))];exact t3)
 ·exact dS (u:=a4) (by rw[aR (ne 3 4 (by decide)),aR (ne 2 4 (by decide)),aR (ne 1 4 (by decide)),aR (ne 0 4 (by decide))];exact t4)
theorem Tryz.infoSn:(Tryz.prog.info? 42).map (fun i=>(i.zero,i.size,i.bytes))=some (some (.agg #[.string ⟨#[]⟩,.string ⟨#[]⟩,.int .i64 0,.bool false,.slice none 0 0]),5,72):=by kernel_rfl
structure Rs where
 s:Sn
 a:Option Addr
 c:Nat
def bU (r:Rs):List Value:=[.string (str r.s.name),.string (str r.s.parent),.int .i64 r.s.kind,.bool r.s.lease,.slice r.a r.s.layer.length r.c]
def aW (rs:List Rs):List Value:=rs.flatMap bU
theorem oO (a b:List Rs):aW (a++b)=aW a++aW b:=by simp[aW]
theorem dB:∀ rs:List Rs,(aW rs).length=rs.length * 5
 | []=>rfl
 | r :: rs=>by
  have:=dB rs;simp only[aW,List.flatMap_cons,List.length_append,List.length_cons]at this ⊢;rw[this];simp[bU];omega
theorem oG:∀ (rs:List Rs) (i q:Nat) (r:Rs),rs[i]?=some r→q<5→(aW rs)[i * 5+q]?=(bU r)[q]?
 | [],i,q,r,h,_=>by simp at h
 | x :: rs,0,q,r,h,hq=>by
  simp only[List.getElem?_cons_zero,Option.some.injEq]at h;subst h;simp only[aW,List.flatMap_cons,Nat.zero_mul,Nat.zero_add];rw[List.getElem?_append_left (by simp[bU];omega)]
 | x :: rs,i+1,q,r,h,hq=>by
  have:=oG rs i q r (by simpa using h) hq
  rw[←this];simp only[aW,List.flatMap_cons];rw[List.getElem?_append_right (by simp[bU];omega)]
  congr 1
  simp[bU];omega
theorem dW (rs:List Rs):∀ u∈aW rs,u.oneCell'=true:=by
 intro u hu;simp only[aW,List.mem_flatMap]at hu;obtain ⟨r,_,hr⟩:=hu;simp only[bU,List.mem_cons,List.not_mem_nil,or_false]at hr;rcases hr with rfl | rfl | rfl | rfl | rfl <;> rfl
def LN (B:Nat) (w0 w:World) (v:Value) (l:List Sn):Prop :=
 ∃ rs:List Rs,rs.map Rs.s=l∧w.ownsRow B 42 5 v l.length (aW rs)∧∀ r∈rs,RdE w0 r.a r.s.layer
theorem LN.shape {B:Nat} {w0 w:World} {v:Value} {l:List Sn} (h:LN B w0 w v l):∃ a c,v=.slice a l.length c:=by
 obtain ⟨rs,_,h1,_⟩:=h;exact aQ h1
theorem LN.nil (B:Nat) (w0 w:World):LN B w0 w (.slice none 0 0) [] :=
 ⟨[],rfl,World.ownsRow_nil _ _ _ _,fun r hr=>by simp at hr⟩
theorem LN.mono {B B':Nat} {w0 w:World} {v:Value} {l:List Sn} (h:LN B w0 w v l) (hb:B'≤B):LN B' w0 w v l:=by
 obtain ⟨rs,he,h1,h2⟩:=h;exact ⟨rs,he,aS h1 hb,h2⟩
theorem LN.below {B:Nat} {w0 w w':World} {v:Value} {l:List Sn} (h:LN B w0 w v l) (hk:Below w.heap.size w w'):LN B w0 w' v l:=by
 obtain ⟨rs,he,h1,h2⟩:=h;exact ⟨rs,he,aG h1 hk,h2⟩
theorem LN.push {B:Nat} {w0 w2:World} {v':Value} {l:List Sn} {rs:List Rs} {s:Sn} {a:Option Addr} {c m:Nat} (he:rs.map Rs.s=l) (hm:m=l.length)
  (h2:∀ r∈rs,RdE w0 r.a r.s.layer) (hr:RdE w0 a s.layer)
  (hv':w2.ownsRow B 42 5 v' (m+1) (aW rs++bU ⟨s,a,c⟩)):LN B w0 w2 v' (l ++ [s]):=by
 subst hm;refine ⟨rs ++ [⟨s,a,c⟩],by rw[List.map_append,he];rfl,?_,fun r hx=>?_⟩
 ·rw[oO,List.length_append]
  simpa [aW] using hv'
 ·rcases List.mem_append.1 hx with hx | hx
  ·exact h2 r hx
  ·simp only[List.mem_singleton]at hx
   subst hx;exact hr
theorem zb2 {B:Nat} {w:World} {a:Option Addr} {n c:Nat} {l:List Sn} {rs:List Rs} (he:rs.map Rs.s=l) (h1:w.ownsRow B 42 5 (.slice a n c) l.length (aW rs)) (h2:∀ r∈rs,RdE w r.a r.s.layer):RdS w a l:=by
 intro hz;have h0:0<l.length:=List.length_pos_iff.2 hz;have hl:rs.length=l.length:=by rw[←he,List.length_map]
 rcases h1.2 with ⟨_,h0'⟩ | ⟨g,cap,cur,h',hb',hh,hnc,hcm,hcs,htake⟩
 ·omega
 ·simp only[Value.slice.injEq]at h'
  obtain ⟨rfl,rfl,rfl⟩:=h';refine ⟨g,0,fun i=>(rs[i]?.map Rs.a).getD none,fun i=>(rs[i]?.map Rs.c).getD 0,rfl,(h1.lt g rfl).2,fun i e hi=>?_⟩
  have hi0:i<l.length:=(List.getElem?_eq_some_iff.1 hi).1;obtain ⟨r,hr⟩:∃ r,rs[i]?=some r:=⟨rs[i]'(by omega),List.getElem?_eq_getElem (by omega)⟩
  have hre:r.s=e:=by
   have:(rs.map Rs.s)[i]?=some r.s:=by rw[List.getElem?_map,hr];rfl
   rw[he,hi]at this;exact (Option.some.inj this).symm
  have hc:=fun q hq=>(h1.cellAt (i * 5+q) (by omega)).trans (oG rs i q r hr hq)
  simp only[hr,Option.map_some,Option.getD_some,Nat.zero_add];rw[←hre];exact ⟨hc 0 (by decide),hc 1 (by decide),hc 2 (by decide),hc 3 (by decide),hc 4 (by decide),h2 r (List.mem_of_getElem? hr)⟩
theorem ze7 {w:World} {a:Option Addr} {l:List Sn} (h:RdS w a l):∃ rs:List Rs,rs.map Rs.s=l∧(∀ r∈rs,RdE w r.a r.s.layer)∧(l≠[]→∃ b off,a=some ⟨b,off,none⟩∧b<w.heap.size∧∀ i u,(aW rs)[i]?=some u→w.cell? ⟨b,off+i,none⟩=some u):=by
 by_cases hz:l=[]
 ·subst hz
  exact ⟨[],rfl,fun r hr=>by simp at hr,fun h=>absurd rfl h⟩
 obtain ⟨b,off,A,C,e,hb,hc⟩:=h hz;have hr:∀ (i:Nat) (r:Rs),(l.mapIdx fun i s=>(⟨s,A i,C i⟩:Rs))[i]?=some r→∃ s,l[i]?=some s∧r=⟨s,A i,C i⟩:=fun i r hr=>by
  rw[List.getElem?_mapIdx]at hr;cases hs:l[i]? with
  | none=>rw[hs]at hr;cases hr
  | some s=>rw[hs]at hr;exact ⟨s,rfl,by simpa using hr.symm⟩
 refine ⟨l.mapIdx fun i s=>(⟨s,A i,C i⟩:Rs),?_,fun r hr'=>?_,fun _=>⟨b,off,e,hb,fun i u hu=>?_⟩⟩
 ·apply List.ext_getElem?
  intro i;rw[List.getElem?_map,List.getElem?_mapIdx]
  cases l[i]? <;> rfl
 ·obtain ⟨i,hi⟩:=List.mem_iff_getElem?.1 hr'
  obtain ⟨s,hs,rfl⟩:=hr i r hi;exact (hc i s hs).2.2.2.2.2
 ·have hlt:=(List.getElem?_eq_some_iff.1 hu).1
  rw[dB]at hlt;obtain ⟨r,hr1⟩:∃ r,(l.mapIdx fun i s=>(⟨s,A i,C i⟩:Rs))[i / 5]?=some r:=⟨_,List.getElem?_eq_getElem (by omega)⟩
  obtain ⟨s,hs,rfl⟩:=hr _ _ hr1;have hg:=oG _ (i / 5) (i % 5) _ hr1 (by omega)
  rw[show i / 5 * 5+i % 5=i by omega,hu]at hg
  obtain ⟨c0,c1,c2,c3,c4,-⟩:=hc _ s hs;have hoff:off+i=off+i / 5 * 5+i % 5:=by omega
  rw[hoff];have h5:i % 5<5:=by omega
  generalize i % 5=q at *;generalize i / 5=j at *
  match q,h5 with
  | 0,_=>rw[Nat.add_zero,c0];exact hg.symm
  | 1,_=>rw[c1];exact hg.symm
  | 2,_=>rw[c2];exact hg.symm
  | 3,_=>rw[c3];exact hg.symm
  | 4,_=>rw[c4];exact hg.symm
def zyi (W0:World) (fn:FuncId) (cap:Array Value) (f:Sn→Bool):Prop :=
 (∀ args w,(callFunc fn args).run Tryz.prog w=.ok (.enter fn args) w)∧∀ (s:Sn) (a:Option Addr) (c:Nat) (w:World),Below W0.heap.size W0 w →
  Calls Tryz.prog fn (#[.agg #[.string (str s.name),.string (str s.parent),.int .i64 s.kind,.bool s.lease,.slice a s.layer.length c]]++cap) w fun r w'=>r=.returned (.bool (f s))∧Below w.heap.size w w'
theorem znb {es:List Sn} {f:Sn→Bool} {k:Nat} {e:Sn} (he:es[k]?=some e) (h:es.find? f=(es.drop k).find? f) (hf:f e=false):es.find? f=(es.drop (k+1)).find? f:=by
 rw[h,eS he,List.find?_cons,hf]
theorem zhe {es:List Sn} {f:Sn→Bool} {k:Nat} {e:Sn} (he:es[k]?=some e) (h:es.find? f=(es.drop k).find? f) (hf:f e=true):es.find? f=some e:=by
 rw[h,eS he,List.find?_cons,hf]
theorem zob {es:List Sn} {f:Sn→Bool} {k:Nat} (hk:es.length≤k) (h:es.find? f=(es.drop k).find? f):es.find? f=none:=by
 rw[h,List.drop_eq_nil_of_le hk];rfl
def zrk (o:Option Sn) (w:World) (r:Ending):Prop :=
 (∃ e x cc,o=some e∧r=.returned (.tuple #[.agg #[.string (str e.name),.string (str e.parent),.int .i64 e.kind,.bool e.lease,.slice x e.layer.length cc],.bool true])∧RdE w x e.layer) ∨
  (o=none∧r=.returned (.tuple #[.agg #[.string ⟨#[]⟩,.string ⟨#[]⟩,.int .i64 0,.bool false,.slice none 0 0],.bool false]))
theorem zrb (a:Option Addr) (c n:Nat) (es:List Sn) (fn:FuncId) (cap:Array Value) (f:Sn→Bool) (w0 w:World) (hb0:Below w0.heap.size w0 w) (h:RdS w0 a es) (hn:n=es.length) (hl:es.length≤1048576) (hf:zyi w fn cap f) :
  Calls Tryz.prog 82 #[.slice a n c,.func (.func fn) #[] cap] w fun r w'=>zrk (es.find? f) w0 r∧Below w.heap.size w w':=by
 subst hn;have eg:=hf.1;have HF:=aA hf;have HR:=aA h;have HB0:=aA hb0;have X0:=aA (kX.new w (.string ⟨#[]⟩) (.string ⟨#[]⟩) (.int .i64 0) (.bool false) (.slice none 0 0) 42);have B0:=aA (aC w (.cells #[.string ⟨#[]⟩,.string ⟨#[]⟩,.int .i64 0,.bool false,.slice none 0 0] 42));clear h hf hb0;go_enter Tryz.func82,Tryz.ntmps82;go_wp2_with fail
 generalize w.alloc (.cells #[.string ⟨#[]⟩,.string ⟨#[]⟩,.int .i64 0,.bool false,.slice none 0 0] 42)=W0 at *;go_loopw [11] (fun i wr=>∃ k:Nat,k≤es.length∧i=.int .i64 k∧Hid (es.find? f=(es.drop k).find? f)∧Hid (Below W0.heap.size W0 wr)) (fun i _=>es.length - (intOf i).toNat)
 case atStart=>exact ⟨0,Nat.zero_le _,rfl,aA (by simp),aA (Below.refl _ _)⟩
 case round =>
  obtain ⟨k,hk,rfl,HFi,HW0⟩:=hrel;have HW:=aA (aB B0.out HW0.out);have hsz:=HW.out.size;by_cases hlt:k<es.length
  ·obtain ⟨b,off,e,x,cc,rfl,hb,he,c0,c1,c2,c3,c4,hr⟩:=(HR.out.below (aB HB0.out HW.out)).at hlt
   obtain ⟨b',off',e',x',cc',hbb,hb',he',d0,d1,d2,d3,d4,hr'⟩:=HR.out.at hlt;simp only[Option.some.injEq,Addr.mk.injEq,and_true]at hbb;obtain ⟨rfl,rfl⟩:=hbb;have:e'=e:=Option.some.inj (he'.symm.trans he);subst this;have d1':=((aB HB0.out HW.out).cell (p:=⟨b,off+k * 5+4,none⟩) hb').trans d4;rw[c4]at d1';simp only[Option.some.injEq,Value.slice.injEq,true_and]at d1';obtain ⟨rfl,rfl⟩:=d1';have HX:=aA he;have HRc:=aA hr';clear he hr hr' he' d0 d1 d2 d3 d4;have BA:=aA (aC wr (.cells #[.string (str e'.name),.string (str e'.parent),.int .i64 e'.kind,.bool e'.lease,.slice x e'.layer.length cc] 42))
   have F5:=aA (gT.new wr (.string (str e'.name)) (.string (str e'.parent)) (.int .i64 e'.kind) (.bool e'.lease) (.slice x e'.layer.length cc) 42);go_wp2_with fail
   refine (HF.out.2 e' x cc _ (aB HW.out BA.out)).mono ?_;rintro r w3 ⟨rfl,hb3⟩;have BB3:=aA (aB HW0.out (aB BA.out hb3));obtain ⟨f0,f1,f2,f3,f4⟩:=F5.out.below hb3;clear hb3 c0 c1 c2 c3 c4;cases hq:f e'
   ·have HN:=aA (znb HX.out HFi.out hq)
    clear hq;go_wp2_with fail
    go_roundw
    case rel=>exact ⟨k+1,by omega,by go_num,HN,BB3⟩
    case measure=>simp[intOf];omega
   ·have HN:=aA (zhe HX.out HFi.out hq)
    clear hq;obtain ⟨⟨t0,t1,t2,t3,t4⟩,tf⟩:=X0.out.below BB3.out;have tf0:=tf 0;have tf1:=tf 1;have tf2:=tf 2;have tf3:=tf 3;have tf4:=tf 4;clear tf;go_wp2_with fail
    refine bodyPost_ret (v:=.tuple #[.agg #[.string (str e'.name),.string (str e'.parent),.int .i64 e'.kind,.bool e'.lease,.slice x e'.layer.length cc],.bool true]) (by simp[results,Tryz.results82,go_sem,t0,t1,t2,t3,t4]) rfl ?_
    exact ⟨.inl ⟨e',x,cc,HN.out,rfl,HRc.out⟩,Below.five (aB B0.out BB3.out) (Nat.le_refl _) _ _ _ _ _⟩
  ·have HN:=aA (zob (by omega) HFi.out)
   have BA:=aA (aC wr (.cells #[.string ⟨#[]⟩,.string ⟨#[]⟩,.int .i64 0,.bool false,.slice none 0 0] 42));obtain ⟨⟨t0,t1,t2,t3,t4⟩,tf⟩:=X0.out.below (aB HW0.out BA.out);have tf0:=tf 0;have tf1:=tf 1;have tf2:=tf 2;have tf3:=tf 3;have tf4:=tf 4;clear tf;go_wp2_with fail
   refine bodyPost_ret (v:=.tuple #[.agg #[.string ⟨#[]⟩,.string ⟨#[]⟩,.int .i64 0,.bool false,.slice none 0 0],.bool false]) (by simp[results,Tryz.results82,go_sem,t0,t1,t2,t3,t4]) rfl ?_
   exact ⟨.inr ⟨HN.out,rfl⟩,Below.five (aB HW.out BA.out) (Nat.le_refl _) _ _ _ _ _⟩
theorem zx1 (nm:Bs) (w:World) (h:nm.length≤1048576) :
  Calls Tryz.prog 33 #[.string (str nm)] w fun r w'=>r=.returned (.bool (fL nm))∧w'=w:=by
 have hsz:(str nm).size≤9223372036854775807:=by rw[aP];omega
 have HL:=aA (fun u=>uU (str nm) u hsz)
 rw[bD]at HL;have HN:=aA (show fL nm=(dX nm&&decide (nm.length≤4)) from rfl)
 generalize fL nm=Z at *;generalize dX nm=Y at *;have hss:(str nm).size=nm.length:=aP nm;by_cases h4:nm.length≤4
 ·have hb:((str nm).size:Int)≤4:=by omega
  have HZ:=aA (show Z=Y by rw[HN.out,decide_eq_true h4,Bool.and_true])
  clear h4;go_enter Tryz.func33,Tryz.ntmps33;go_wp2_with fail
  refine (HL.out _).mono ?_;rintro r w1 ⟨rfl,rfl⟩;go_wp2_with fail
  go_ret
  exact ⟨dD HZ.out.symm,rfl⟩
 ·have hb:¬ ((str nm).size:Int)≤4:=by omega
  have HZ:=aA (show Z=false by rw[HN.out,decide_eq_false h4,Bool.and_false])
  clear h4;go_enter Tryz.func33,Tryz.ntmps33;go_wp2_with fail
  go_ret
  exact ⟨dD HZ.out.symm,rfl⟩
theorem zw1 (k:Int) (w:World) :
  Calls Tryz.prog 34 #[.int .i64 k] w fun r w'=>r=.returned (.bool (k==1||k==2))∧w'=w:=by
 by_cases h1:k=1
 ·subst h1
  go_enter Tryz.func34,Tryz.ntmps34;go_wp2
  go_ret
  exact ⟨rfl,rfl⟩
 ·have hb:(k==1)=false:=by simp[h1]
  rw[hb,Bool.false_or];go_enter Tryz.func34,Tryz.ntmps34;go_wp2
  go_ret
  exact ⟨rfl,rfl⟩
theorem zcb (s:Sn) (x:Option Addr) (c:Nat) (w:World) :
  Calls Tryz.prog 84 #[.agg #[.string (str s.name),.string (str s.parent),.int .i64 s.kind,.bool s.lease,.slice x s.layer.length c]] w fun r w'=>r=.returned (.agg #[.string (str s.name),.string (str s.parent)])∧Below w.heap.size w w':=by
 go_enter Tryz.func84,Tryz.ntmps84;go_wp2_with fail
 refine bodyPost_ret (v:=.agg #[.string (str s.name),.string (str s.parent)]) (by simp[results,Tryz.results84,go_sem]) rfl ?_
 refine ⟨rfl,?_⟩;exact aB (aC w _) (aC _ _)
theorem zm0 (s:Sn) (x:Option Addr) (c:Nat) (w:World) :
  Calls Tryz.prog 39 #[.agg #[.string (str s.name),.string (str s.parent),.int .i64 s.kind,.bool s.lease,.slice x s.layer.length c]] w fun r w'=>r=.returned (.bool (s.name.isEmpty&&s.parent.isEmpty))∧Below w.heap.size w w':=by
 have HC:=aA (fun u=>zcb s x c u)
 go_enter Tryz.func39,Tryz.ntmps39;go_wp2_with fail
 refine (HC.out _).mono ?_;rintro r w1 ⟨rfl,hb1⟩;have B1:=aA (aB (aC w (.cells #[.string (str s.name),.string (str s.parent),.int .i64 s.kind,.bool s.lease,.slice x s.layer.length c] 42)) hb1);clear hb1;go_wp2_with fail
 all_goals
  go_ret
  refine ⟨dD ?_,B1.out⟩;clear B1 HC;simp_all [aN]
def mJ:Sn:=⟨[],[],0,false,[]⟩
def zol (o:Option Sn) (w:World) (r:Ending):Prop :=
 ∃ e x cc,e=o.getD mJ∧r=.returned (.agg #[.string (str e.name),.string (str e.parent),.int .i64 e.kind,.bool e.lease,.slice x e.layer.length cc])∧RdE w x e.layer
theorem zp4 (p:Bs) (b:Nat) (s:Sn) (a:Option Addr) (c:Nat) (w:World) (h:w.cell? ⟨b,0,none⟩=some (.string (str p))) :
  Calls Tryz.prog 83 #[.agg #[.string (str s.name),.string (str s.parent),.int .i64 s.kind,.bool s.lease,.slice a s.layer.length c],.pointer (some ⟨b,0,none⟩)] w fun r w'=>r=.returned (.bool (s.name==p))∧Below w.heap.size w w':=by
 have hb:=World.block_lt_of_cell? w ⟨b,0,none⟩ h;have hs:=zra s.name p;have HZ:=aA (show (s.name==p)=decide (s.name=p) by by_cases h:s.name=p <;> simp[h])
 rw[HZ.out];clear HZ;generalize decide (s.name=p)=Z at *;have hbw:(w.alloc (.cells #[.string (str s.name),.string (str s.parent),.int .i64 s.kind,.bool s.lease,.slice a s.layer.length c] 42)).cell? ⟨b,0,none⟩=some (.string (str p)):=((aC w _).cell (p:=⟨b,0,none⟩) hb).trans h;go_enter Tryz.func83,Tryz.ntmps83;go_wp2_with fail
 go_ret
 exact ⟨rfl,aC _ _⟩
theorem uK (a:Option Addr) (c n:Nat) (l:List Sn) (nm:Bs) (w0 w:World) (hb0:Below w0.heap.size w0 w) (h:RdS w0 a l) (hn:n=l.length) (hl:l.length≤1048576) :
  Calls Tryz.prog 38 #[.slice a n c,.string (str nm)] w fun r w'=>zol (atS l nm) w0 r∧Below w.heap.size w w':=by
 have hmf:∀ (fn:Fn) (first cap:Array Value) (w:World),(Instr.makeFunc fn first cap).run Tryz.prog w=.ok (.func fn first cap) w:=fun _ _ _ _=>rfl
 subst hn;have B0:=aA (aC w (.cells #[.string (str nm)] 9));have B1:=aA (aB B0.out (aC _ (.cells #[.string ⟨#[]⟩,.string ⟨#[]⟩,.int .i64 0,.bool false,.slice none 0 0] 42)));have HA:Hid (zyi ((w.alloc (.cells #[.string (str nm)] 9)).alloc (.cells #[.string ⟨#[]⟩,.string ⟨#[]⟩,.int .i64 0,.bool false,.slice none 0 0] 42)) 83 #[.pointer (some ⟨w.heap.size,0,none⟩)] (fun s=>s.name==nm)):=aA ⟨enters_of Tryz.func83 (by kernel_rfl) rfl,fun s a c w' hb =>
  zp4 nm w.heap.size s a c w' ((hb.cell (p:=⟨w.heap.size,0,none⟩) (by simp;omega)).trans ((aC _ _).cell (p:=⟨w.heap.size,0,none⟩) (by simp) |>.trans (by simp)))⟩
 have X0:=aA (kX.new (w.alloc (.cells #[.string (str nm)] 9)) (.string ⟨#[]⟩) (.string ⟨#[]⟩) (.int .i64 0) (.bool false) (.slice none 0 0) 42);have HC:=aA (zrb a c l.length l _ _ (fun s=>s.name==nm) w0 _ (aB hb0 B1.out) h rfl hl HA.out)
 have HATS:=aA (show atS l nm=l.find? (fun s=>s.name==nm) from rfl)
 clear h HA hb0 B0;go_enter Tryz.func38,Tryz.ntmps38;go_wp2_with fail
 simp only[World.size_alloc]at X0;generalize (w.alloc (.cells #[.string (str nm)] 9)).alloc (.cells #[.string ⟨#[]⟩,.string ⟨#[]⟩,.int .i64 0,.bool false,.slice none 0 0] 42)=W0 at *;refine HC.out.mono ?_;rintro r w1 ⟨hf,hb1⟩;have HF:∃ e x cc b,e=(atS l nm).getD mJ∧r=.returned (.tuple #[.agg #[.string (str e.name),.string (str e.parent),.int .i64 e.kind,.bool e.lease,.slice x e.layer.length cc],.bool b])∧RdE w0 x e.layer:=by
  rcases hf with ⟨e,x,cc,hq,hr,hx⟩ | ⟨hq,hr⟩
  ·exact ⟨e,x,cc,true,by rw[HATS.out,hq];rfl,hr,hx⟩
  ·exact ⟨mJ,none,0,false,by rw[HATS.out,hq];rfl,hr,fun hz=>absurd rfl hz⟩
 obtain ⟨e,x,cc,b,he,rfl,hx⟩:=HF;have HE:=aA he;have HX:=aA hx;have BA:=aA (aB hb1 (aC w1 (.cells #[.string (str e.name),.string (str e.parent),.int .i64 e.kind,.bool e.lease,.slice x e.layer.length cc] 42)));obtain ⟨⟨t0,t1,t2,t3,t4⟩,tf⟩:=X0.out.below BA.out;have tf0:=tf 0;have tf1:=tf 1;have tf2:=tf 2;have tf3:=tf 3;have tf4:=tf 4;clear hf he hx tf hb1;go_wp2_with fail
 refine bodyPost_ret (v:=.agg #[.string (str e.name),.string (str e.parent),.int .i64 e.kind,.bool e.lease,.slice x e.layer.length cc]) (by simp[results,Tryz.results38,go_sem,t0,t1,t2,t3,t4]) rfl ?_
 exact ⟨⟨e,x,cc,HE.out,rfl,HX.out⟩,Below.five (aB B1.out BA.out) (by omega) _ _ _ _ _⟩
theorem vQ (s:Sn) (x:Option Addr) (c:Nat) (w:World) (h:s.name≠[]) :
  Calls Tryz.prog 39 #[.agg #[.string (str s.name),.string (str s.parent),.int .i64 s.kind,.bool s.lease,.slice x s.layer.length c]] w fun r w'=>r=.returned (.bool false)∧Below w.heap.size w w':=by
 have e:(s.name.isEmpty&&s.parent.isEmpty)=false:=by cases hs:s.name with | nil=>exact absurd hs h | cons a b=>rfl
 have:=zm0 s x c w;rwa [e]at this
theorem zn0 (x:Option Addr) (c:Nat) (w:World) :
  Calls Tryz.prog 39 #[.agg #[.string (str mJ.name),.string (str mJ.parent),.int .i64 mJ.kind,.bool mJ.lease,.slice x mJ.layer.length c]] w fun r w'=>r=.returned (.bool true)∧Below w.heap.size w w':=zm0 mJ x c w
def zdf:Value→Nat
 | .slice _ n _=>n
 | _=>0
theorem zc3 {l:List Sn} {k:Nat} {e:Sn} (hk:k≤4):aL l (5 - k) (some e)=e :: aL l (5 - (k+1)) (atS l e.parent):=by
 have:5 - k=(5 - (k+1))+1:=by omega
 rw[this];rfl
theorem zz0 (a:Option Addr) (c n:Nat) (l:List Sn) (s:Sn) (x:Option Addr) (cc:Nat) (w0 w:World) (hb0:Below w0.heap.size w0 w) (h:RdS w0 a l) (hx:RdE w0 x s.layer) (hn:n=l.length) (hl:l.length≤1048576) (hne:∀ y∈l,y.name≠[]) (hs:s.name≠[]) :
  Calls Tryz.prog 41 #[.slice a n c,.agg #[.string (str s.name),.string (str s.parent),.int .i64 s.kind,.bool s.lease,.slice x s.layer.length cc]] w fun r w'=>∃ av cv,r=.returned (.slice av (aL l 5 (some s)).length cv)∧LN w.heap.size w0 w' (.slice av (aL l 5 (some s)).length cv) (aL l 5 (some s))∧Below w.heap.size w w':=by
 subst hn;obtain ⟨i1,ki,kz0,kz1,kz2⟩:=info_parts Tryz.infoSn;obtain ⟨L,hL⟩:∃ L,L=aL l 5 (some s):=⟨_,rfl⟩;rw[←hL];have HL:=aA hL;have HR:=aA h;have HB0:=aA hb0;have HNE:=aA hne;have X0:=aA (kX.new w (.string (str s.name)) (.string (str s.parent)) (.int .i64 s.kind) (.bool s.lease) (.slice x s.layer.length cc) 42);have B0:=aA (aC w (.cells #[.string (str s.name),.string (str s.parent),.int .i64 s.kind,.bool s.lease,.slice x s.layer.length cc] 42));have HX:=aA hx;have HS:=aA hs;clear h hb0 hne hL hx hs;go_enter Tryz.func41,Tryz.ntmps41;go_wp2_with fail
 have hs1:w.heap.size<(w.alloc (.cells #[.string (str s.name),.string (str s.parent),.int .i64 s.kind,.bool s.lease,.slice x s.layer.length cc] 42)).heap.size:=by simp
 generalize w.alloc (.cells #[.string (str s.name),.string (str s.parent),.int .i64 s.kind,.bool s.lease,.slice x s.layer.length cc] 42)=W0 at *;go_loopw [5] (fun v wr=>∃ (pre:List Sn) (o:Option Sn) (e:Sn) (x':Option Addr) (c':Nat),pre.length≤5∧w.heap.size<wr.heap.size∧Hid (e=o.getD mJ)∧Hid (∀ y,o=some y→y.name≠[])∧Hid (L=pre++aL l (5 - pre.length) o)∧Hid (LN (w.heap.size+1) w0 wr v pre)∧Hid (kX wr w.heap.size (.string (str e.name)) (.string (str e.parent)) (.int .i64 e.kind) (.bool e.lease) (.slice x' e.layer.length c'))∧Hid (RdE w0 x' e.layer)∧Hid (Below w.heap.size w wr)) (fun v _=>6 - zdf v)
 case atStart=>exact ⟨[],some s,s,x,cc,by simp,hs1,aA rfl,aA (fun y hy=>by cases hy;exact HS.out),aA (by rw[HL.out];rfl),aA (LN.nil _ _ _),X0,HX,B0⟩
 case round =>
  obtain ⟨pre,o,e,x',c',hp5,hsw,HE,HO,HLL,HLN,HBX,HRX,HW⟩:=hrel;have hsz:=HW.out.size;have hszb:=HB0.out.size;obtain ⟨lv,lc,hv⟩:=HLN.out.shape;subst hv;obtain ⟨⟨t0,t1,t2,t3,t4⟩,tf⟩:=HBX.out;cases o with
  | none =>
   have he:e=mJ:=HE.out;subst he;have HT:=aA (show L=pre by rw[HLL.out,jC,List.append_nil])
   go_wp2_with fail
   refine (zn0 _ _ _).mono ?_;rintro r w1 ⟨rfl,hb1⟩;have B1:=aA (aB HW.out hb1);have L1:=aA (HLN.out.below hb1);clear hb1 t0 t1 t2 t3 t4 tf;go_wp2_with fail
   go_ret
   rw[HT.out];exact ⟨lv,lc,rfl,L1.out.mono (by omega),B1.out⟩
  | some y =>
   have he:e=y:=HE.out;subst he;have HNM:=aA (HO.out e rfl);go_wp2_with fail
   refine (vQ e _ _ _ HNM.out).mono ?_;rintro r w1 ⟨rfl,hb1⟩;have B1:=aA (aB HW.out hb1);have L1:=aA (HLN.out.below hb1);have X1:=aA (HBX.out.below hb1);have hs1:=hb1.size;clear hb1 t0 t1 t2 t3 t4 tf HBX HLN;by_cases h4:pre.length≤4
   ·have h4':(pre.length:Int)≤4:=by omega
    have hm1:pre.length+1≤maxLen:=by unfold maxLen;omega
    have hm1':(pre.length+1) * 72≤140737488355328:=by omega
    have HLN2:=aA (show L=(pre ++ [e])++aL l (5 - (pre ++ [e]).length) (atS l e.parent) by
     rw[HLL.out,zc3 h4,List.append_assoc,List.length_append];rfl)
    obtain ⟨rs,g1,g2,g3⟩:=L1.out;have G1:=aA g1;have G2:=aA g2;have G3:=aA g3;clear g1 g2 g3;obtain ⟨⟨t0,t1,t2,t3,t4⟩,tf⟩:=X1.out;go_wp2_with (at_builtin;refine dQ rfl (.tmp 14) (.tmp 16) 24 rfl (w.heap.size+1) 42 i1 (.agg #[.string ⟨#[]⟩,.string ⟨#[]⟩,.int .i64 0,.bool false,.slice none 0 0]) 5 72 Tryz.underlying24 ki kz0 kz1 kz2 rfl (by decide) _ _ _ rfl G2.out _ rfl rfl rfl (by intro u hu;simp at hu;rcases hu with rfl | rfl | rfl | rfl | rfl <;> rfl) hm1 hm1' (by omega) ?_;intro av6 cv6 w6 hown6 hk6;have O6:=aA hown6;have K6:=aA hk6;clear hown6 hk6;obtain ⟨⟨q0,q1,q2,q3,q4⟩,qf⟩:=(show kX w6 w.heap.size (.string (str e.name)) (.string (str e.parent)) (.int .i64 e.kind) (.bool e.lease) (.slice x' e.layer.length c') from ⟨X1.out.1.kept K6.out (fun hS=>by have:=(G2.out.lt _ hS).1;omega),fun i=>(K6.out.frozen (p:=⟨w.heap.size,i,none⟩) X1.out.1.lt (fun hS=>by have h9:w.heap.size+1≤w.heap.size:=(G2.out.lt _ hS).1;omega)).trans (X1.out.2 i)⟩))
    have BW6:Hid (Below w.heap.size w w6):=aA (B1.out.trans (K6.out.below (B:=w.heap.size) (by omega) (fun q hq hS=>by have:=(G2.out.lt q hS).1;omega)))
    have X6:Hid (kX w6 w.heap.size (.string (str e.name)) (.string (str e.parent)) (.int .i64 e.kind) (.bool e.lease) (.slice x' e.layer.length c')):=aA ⟨⟨q0,q1,q2,q3,q4⟩,qf⟩;have hs6:=K6.out.size;refine (uK a c l.length l e.parent w0 w6 (HB0.out.trans ((BW6.out).mono (by omega))) HR.out rfl hl).mono ?_
    rintro r w7 ⟨⟨y,x7,c7,hy,rfl,hx7⟩,hb7⟩;have HY:=aA hy;have HX7:=aA hx7;have X7:=aA (X6.out.below hb7);obtain ⟨⟨p0,p1,p2,p3,p4⟩,pf⟩:=X7.out;have pf0:=pf 0;have pf1:=pf 1;have pf2:=pf 2;have pf3:=pf 3;have pf4:=pf 4;have O7:=aA (aG O6.out hb7);have B7:=aA (aB BW6.out hb7);have hs7:=hb7.size;have HN7:=aA (show ∀ z,atS l e.parent=some z→z.name≠[] from fun z hz=>HNE.out z (cI hz).1)
    clear hb7 hy hx7 pf q0 q1 q2 q3 q4 qf;go_wp2_with fail
    go_roundw
    case rel =>
     refine ⟨pre ++ [e],atS l e.parent,y,x7,c7,by simp;omega,by simp[World.setCell];omega,HY,HN7,HLN2,aA ?_,aA ?_,HX7,aA (Below.five B7.out (Nat.le_refl _) _ _ _ _ _)⟩
     ·refine LN.push (s:=e) (a:=x') (c:=c') G1.out rfl G3.out HRX.out ?_
      exact aH O7.out (aD.five w7 w.heap.size _ _ _ _ _) (fun b hb e=>by have:=(O7.out.lt b hb).1;omega)
     ·exact X7.out.set _ _ _ _ _
    case measure=>simp[zdf];omega
   ·have hp:pre.length=5:=by omega
    have h4':¬ (pre.length:Int)≤4:=by omega
    have HT:=aA (show L=pre by rw[HLL.out,hp];simp[aL])
    clear hp h4;go_wp2_with fail
    go_ret
    rw[HT.out];exact ⟨lv,lc,rfl,L1.out.mono (by omega),B1.out⟩
theorem zf2 (a:Option Addr) (c n:Nat) (l:List Sn) (s:Sn) (x:Option Addr) (cc:Nat) (w:World) (h:RdS w a l) (hx:RdE w x s.layer) (hn:n=l.length) (hl:l.length≤1048576) (hne:∀ y∈l,y.name≠[]) (hs:s.name≠[]) :
  Calls Tryz.prog 36 #[.slice a n c,.agg #[.string (str s.name),.string (str s.parent),.int .i64 s.kind,.bool s.lease,.slice x s.layer.length cc]] w fun r w'=>r=.returned (.int .i64 (eG l s))∧Below w.heap.size w w':=by
 subst hn;have HR:=aA h;have HX:=aA hx;have HNE:=aA hne;have HS:=aA hs;have hse:=zra s.parent [];have F5:=aA (gT.new w (.string (str s.name)) (.string (str s.parent)) (.int .i64 s.kind) (.bool s.lease) (.slice x s.layer.length cc) 42);have B0:=aA (aC w (.cells #[.string (str s.name),.string (str s.parent),.int .i64 s.kind,.bool s.lease,.slice x s.layer.length cc] 42));have hstr:str []=⟨#[]⟩:=rfl;rw[hstr]at hse;clear h hx hne hs hstr;by_cases hp:s.parent=[]
 ·have HD:=aA (show eG l s=0 by unfold eG;rw[if_pos hp])
  have hpe:(str s.parent).toList.isEmpty=true:=by rw[hp,aN];rfl
  clear hp hse;go_enter Tryz.func36,Tryz.ntmps36;go_wp2_with fail
  go_ret
  exact ⟨aM HD.out.symm,B0.out⟩
 ·have hpe:(str s.parent).toList.isEmpty=false:=by
   rw[aN];cases hq:s.parent with | nil=>exact absurd hq hp | cons _ _=>rfl
  have HP:=aA hp;clear hp hse;go_enter Tryz.func36,Tryz.ntmps36;go_wp2_with fail
  generalize hW0:w.alloc (.cells #[.string (str s.name),.string (str s.parent),.int .i64 s.kind,.bool s.lease,.slice x s.layer.length cc] 42)=W0 at *;clear hW0;refine (uK a c l.length l s.parent w W0 B0.out HR.out rfl hl).mono ?_;rintro r w1 ⟨⟨e,x1,c1,he,rfl,hx1⟩,hb1⟩;have HE:=aA he;have B1:=aA (aB B0.out hb1);have F51:=aA (F5.out.below (aB hb1 (aC w1 (.cells #[.string (str e.name),.string (str e.parent),.int .i64 e.kind,.bool e.lease,.slice x1 e.layer.length c1] 42))));have FE:=aA (gT.new w1 (.string (str e.name)) (.string (str e.parent)) (.int .i64 e.kind) (.bool e.lease) (.slice x1 e.layer.length c1) 42)
  have B2:=aA (aB B1.out (aC w1 (.cells #[.string (str e.name),.string (str e.parent),.int .i64 e.kind,.bool e.lease,.slice x1 e.layer.length c1] 42)));clear hb1 he hx1;cases ho:atS l s.parent with
  | none =>
   have he:e=mJ:=by have:=HE.out;rw[ho]at this;exact this
   have HD:=aA (show eG l s=4 by unfold eG;rw[if_neg HP.out,ho])
   subst he;clear ho;go_wp2_with fail
   refine (zn0 _ _ _).mono ?_;rintro r w2 ⟨rfl,hb2⟩;have B3:=aA (aB B2.out hb2);clear hb2;go_wp2_with fail
   go_ret
   exact ⟨aM HD.out.symm,B3.out⟩
  | some y =>
   have he:e=y:=by have:=HE.out;rw[ho]at this;exact this
   subst he;have HNM:=aA (HNE.out e (cI ho).1);have HD:=aA (show eG l s=if e.kind=1 then 10 else if 4<(aL l 5 (some s)).length then 2 else 0 by unfold eG;rw[if_neg HP.out,ho])
   clear ho;go_wp2_with fail
   generalize hW2:w1.alloc (.cells #[.string (str e.name),.string (str e.parent),.int .i64 e.kind,.bool e.lease,.slice x1 e.layer.length c1] 42)=W2 at *;clear hW2;refine (vQ e _ _ _ HNM.out).mono ?_;rintro r w3 ⟨rfl,hb3⟩;have B3:=aA (aB B2.out hb3);obtain ⟨g0,g1,g2,g3,g4⟩:=FE.out.below hb3;obtain ⟨f0,f1,f2,f3,f4⟩:=F51.out.below hb3;clear hb3;by_cases hk:e.kind=1
   ·have hkb:(e.kind==1)=true:=by simp[hk]
    have HD2:=aA (show eG l s=10 by rw[HD.out,if_pos hk])
    clear hk;go_wp2_with fail
    go_ret
    exact ⟨aM HD2.out.symm,B3.out⟩
   ·have hkb:(e.kind==1)=false:=by simp[hk]
    have HD2:=aA (show eG l s=if 4<(aL l 5 (some s)).length then 2 else 0 by rw[HD.out,if_neg hk])
    clear hk;go_wp2_with fail
    refine (zz0 a c l.length l s x cc w w3 B3.out HR.out HX.out rfl hl HNE.out HS.out).mono ?_;rintro r w4 ⟨av,cv,rfl,-,hb4⟩;have B4:=aA (aB B3.out hb4);have hL5:=rN l 5 (some s);generalize (aL l 5 (some s)).length=M at *;clear hb4;by_cases hm:4<M
    ·have hm':(4:Int)<(M:Int):=by omega
     have HD3:=aA (show eG l s=2 by rw[HD2.out,if_pos hm])
     clear hm;go_wp2_with fail
     go_ret
     exact ⟨aM HD3.out.symm,B4.out⟩
    ·have hm':¬ (4:Int)<(M:Int):=by omega
     have HD3:=aA (show eG l s=0 by rw[HD2.out,if_neg hm])
     clear hm;go_wp2_with fail
     go_ret
     exact ⟨aM HD3.out.symm,B4.out⟩
def eB (l:List Sn):Nat→Option Sn
 | 0=>none
 | j+1=>l[j]?
theorem zj0 {l:List Sn} {k:Nat} {s:Sn} {F:Int} (h:F=gH (eB l k) (l.drop k)) (hs:l[k]?=some s) (h0:lW (eB l k) s=0):F=gH (eB l (k+1)) (l.drop (k+1)):=by
 rw[h,eS hs,gH,if_pos h0];show gH (some s) _=gH l[k]? _
 rw[hs]
theorem pA {l:List Sn} {k:Nat} {s:Sn} {F:Int} (h:F=gH (eB l k) (l.drop k)) (hs:l[k]?=some s) (h0:lW (eB l k) s≠0):F=lW (eB l k) s:=by
 rw[h,eS hs,gH,if_neg h0]
theorem zpe {l:List Sn} {k:Nat} {F:Int} (h:F=gH (eB l k) (l.drop k)) (hk:l.length≤k):F=0:=by
 rw[h,List.drop_eq_nil_of_le hk,gH]
theorem zp7 {l r:List Sn} {k:Nat} {s:Sn} {F:Int} (h:F=fR l (r.drop k)) (hs:r[k]?=some s) (h0:eG l s=0):F=fR l (r.drop (k+1)):=by
 rw[h,eS hs,fR,if_pos h0]
theorem zt9 {l r:List Sn} {k:Nat} {s:Sn} {F:Int} (h:F=fR l (r.drop k)) (hs:r[k]?=some s) (h0:eG l s≠0):F=eG l s:=by
 rw[h,eS hs,fR,if_neg h0]
theorem zu9 {l r:List Sn} {k:Nat} {F:Int} (h:F=fR l (r.drop k)) (hk:r.length≤k):F=0:=by
 rw[h,List.drop_eq_nil_of_le hk,fR]
theorem sG (nm:Bs) (w:World) (h:nm.length≤1048576) :
  Calls Tryz.prog 110 #[.string (str nm)] w fun r w'=>r=.returned (.bool (fL nm))∧w'=w:=by
 have hsz:(str nm).size≤9223372036854775807:=by rw[aP];omega
 have HL:=aA (fun u=>sI (str nm) u hsz)
 rw[bD]at HL;have HN:=aA (show fL nm=(dX nm&&decide (nm.length≤4)) from rfl)
 generalize fL nm=Z at *;have hss:(str nm).size=nm.length:=aP nm;cases hp:dX nm
 ·rw[hp]at HL
  have HZ:=aA (show Z=false by rw[HN.out,hp,Bool.false_and])
  go_enter Tryz.func110,Tryz.ntmps110;go_wp2_with fail
  refine (HL.out _).mono ?_;rintro r w1 ⟨rfl,rfl⟩;go_wp2_with fail
  go_ret
  exact ⟨dD HZ.out.symm,rfl⟩
 ·rw[hp]at HL
  have HZ:=aA (show Z=decide (nm.length≤4) by rw[HN.out,hp,Bool.true_and])
  clear hp;by_cases h4:nm.length≤4
  ·have hb:((str nm).size:Int)≤4:=by omega
   have HZ2:=aA (show Z=true by rw[HZ.out,decide_eq_true h4])
   clear h4;go_enter Tryz.func110,Tryz.ntmps110;go_wp2_with fail
   refine (HL.out _).mono ?_;rintro r w1 ⟨rfl,rfl⟩;go_wp2_with fail
   go_ret
   exact ⟨dD (by rw[HZ2.out];simp;omega),rfl⟩
  ·have hb:¬ ((str nm).size:Int)≤4:=by omega
   have HZ2:=aA (show Z=false by rw[HZ.out,decide_eq_false h4])
   clear h4;go_enter Tryz.func110,Tryz.ntmps110;go_wp2_with fail
   refine (HL.out _).mono ?_;rintro r w1 ⟨rfl,rfl⟩;go_wp2_with fail
   go_ret
   exact ⟨dD (by rw[HZ2.out];simp;omega),rfl⟩
def plS (l:List Sn) (nm:Bs):Option Nat:=l.findIdx? fun s=>s.name==nm
theorem zdk {l:List Sn} {nm:Bs} {k:Nat} {s:Sn} (hs:l[k]?=some s) (h:plS l nm=(plS (l.drop k) nm).map (· + k)) (hn:s.name=nm):plS l nm=some k:=by
 rw[h,eS hs,plS,List.findIdx?_cons];simp[hn]
theorem zbi {l:List Sn} {nm:Bs} {k:Nat} {s:Sn} (hs:l[k]?=some s) (h:plS l nm=(plS (l.drop k) nm).map (· + k)) (hn:s.name≠nm):plS l nm=(plS (l.drop (k+1)) nm).map (· + (k+1)):=by
 rw[h,eS hs];unfold plS;rw[List.findIdx?_cons];have:(s.name==nm)=false:=by simpa using hn
 rw[this];simp only[Bool.false_eq_true,if_false,Option.map_map]
 congr 1
 funext x
 simp only[Function.comp];omega
theorem zck {l:List Sn} {nm:Bs} {k:Nat} (hk:l.length≤k) (h:plS l nm=(plS (l.drop k) nm).map (· + k)):plS l nm=none:=by
 rw[h,List.drop_eq_nil_of_le hk];rfl
theorem nR {l:List Sn} {nm:Bs} {k:Nat} (h:plS l nm=some k):∃ s,l[k]?=some s∧atS l nm=some s:=by
 unfold plS at h;obtain ⟨hk,h1,h2⟩:=List.findIdx?_eq_some_iff_getElem.1 h;refine ⟨l[k],List.getElem?_eq_getElem hk,?_⟩
 unfold atS;rw[List.find?_eq_some_iff_getElem];exact ⟨h1,k,hk,rfl,fun j hj=>by have:=h2 j hj;simpa using this⟩
theorem jK {l:List Sn} {nm:Bs} (h:plS l nm=none):atS l nm=none:=by
 unfold plS at h;rw[List.findIdx?_eq_none_iff]at h;exact jZ.2 fun s hs e=>by have:=h s hs;simp[e]at this
theorem gW (a:Option Addr) (c n:Nat) (l:List Sn) (nm:Bs) (w:World) (h:RdS w a l) (hn:n=l.length) (hl:l.length≤1048576) :
  Calls Tryz.prog 113 #[.slice a n c,.string (str nm)] w fun r w'=>r=.returned (.int .i64 (cR (plS l nm)))∧w'=w:=by
 subst hn;have HR:=aA h;clear h;go_enter Tryz.func113,Tryz.ntmps113;go_wp2_with fail
 go_loop [5] (fun i=>∃ k:Nat,k≤l.length∧i=.int .i64 k∧Hid (plS l nm=(plS (l.drop k) nm).map (· + k))) (fun i=>l.length - (intOf i).toNat)
 case atStart=>exact ⟨0,Nat.zero_le _,rfl,aA (by simp)⟩
 case round =>
  obtain ⟨k,hk,rfl,HA⟩:=hrel;by_cases hlt:k<l.length
  ·obtain ⟨b,off,e,x,cc,rfl,hb,he,c0,c1,c2,c3,c4,hr⟩:=HR.out.at hlt
   have HX:=aA he;clear he hr;by_cases hp:e.name=nm
   ·have HE:=aA (zdk HX.out HA.out hp)
    have hs:=kN hp;clear hp;go_wp2_with fail
    go_ret
    exact ⟨aM (by rw[HE.out];rfl),rfl⟩
   ·have HE:=aA (zbi HX.out HA.out hp)
    have hs:=mE hp;clear hp;go_wp2_with fail
    go_round
    case rel=>exact ⟨k+1,by omega,by go_num,HE⟩
    case measure=>simp[intOf];omega
  ·have HE:=aA (zck (by omega) HA.out)
   go_wp2_with fail
   go_ret
   exact ⟨aM (by rw[HE.out];rfl),rfl⟩
def nmS (l:List Sn) (nm:Bs):Option Sn:=if nm=[] then none else atS l nm
theorem zae {l:List Sn} {nm:Bs} {k:Nat} {s:Sn} (h:k≤4) (hs:nmS l nm=some s):(aL l (5 - k) (nmS l nm)).length=1+(aL l (5 - (k+1)) (atS l s.parent)).length:=by
 rw[hs,zc3 h];simp;omega
theorem oK (a:Option Addr) (c n:Nat) (l:List Sn) (nm:Bs) (w:World) (h:RdS w a l) (hn:n=l.length) (hl:l.length≤1048576) (hne:∀ y∈l,y.name≠[]) :
  Calls Tryz.prog 114 #[.slice a n c,.string (str nm)] w fun r w'=>r=.returned (.int .i64 (eQ l nm))∧w'=w:=by
 subst hn;have HR:=aA h;have HNE:=aA hne;obtain ⟨D,hD⟩:∃ D:Nat,D=eQ l nm:=⟨_,rfl⟩;rw[←hD];have HD:=aA (show D=0+(aL l (5 - 0) (nmS l nm)).length by rw[hD];simp[eQ,nmS])
 clear h hne hD;go_enter Tryz.func114,Tryz.ntmps114;go_wp2_with fail
 go_loop [5,1] (fun i q=>∃ (k:Nat) (m:Bs),k≤5∧i=.int .i64 k∧q=.string (str m)∧Hid (D=k+(aL l (5 - k) (nmS l m)).length)) (fun i _=>5 - (intOf i).toNat)
 case atStart=>exact ⟨0,nm,by decide,rfl,rfl,HD⟩
 case round =>
  obtain ⟨k,m,hk,rfl,rfl,HK⟩:=hrel;by_cases h5:k<5
  ·have h5':(k:Int)<5:=by omega
   by_cases hm:m=[]
   ·subst hm
    have hme:(str []).toList.isEmpty=true:=by rw[aN];rfl
    have HO:=aA (show D=k by rw[HK.out];simp[nmS,jC])
    go_wp2_with fail
    go_ret
    exact ⟨aM (by rw[HO.out]),rfl⟩
   ·have hme:(str m).toList.isEmpty=false:=by
     rw[aN];cases hq:m with | nil=>exact absurd hq hm | cons _ _=>rfl
    have HM:=aA hm;clear hm;go_wp2_with fail
    refine (gW a c l.length l m _ HR.out rfl hl).mono ?_;rintro r w1 ⟨rfl,rfl⟩;cases hp:plS l m with
    | none =>
     have HO:=aA (show D=k by rw[HK.out,nmS,if_neg HM.out,jK hp,jC];rfl)
     clear hp;simp only[cR];go_wp2_with fail
     go_ret
     exact ⟨aM (by rw[HO.out]),rfl⟩
    | some j =>
     obtain ⟨s,hs,hat⟩:=nR hp;have hjl:=(List.getElem?_eq_some_iff.1 hs).1;obtain ⟨b,off,e,x,cc,rfl,hb,he,c0,c1,c2,c3,c4,hr⟩:=HR.out.at hjl;have hes:e=s:=by rw[hs]at he;exact (Option.some.inj he).symm
     subst hes;have HO:=aA (show D=(k+1)+(aL l (5 - (k+1)) (nmS l e.parent)).length by
      rw[HK.out,zae (by omega) (show nmS l m=some e by rw[nmS,if_neg HM.out,hat])]
      have:nmS l e.parent=atS l e.parent:=by
       unfold nmS;by_cases h0:e.parent=[]
       ·rw[if_pos h0,h0];exact (jZ.2 fun y hy=>HNE.out y hy).symm
       ·rw[if_neg h0]
      rw[this];omega)
     have hj0:¬ (j:Int)<0:=by omega
     have hj1:(j:Int)<(l.length:Int):=by omega
     clear hp hs hat he hr;simp only[cR];go_wp2_with fail
     go_round
     case rel=>exact ⟨k+1,e.parent,by omega,by go_num,rfl,HO⟩
     case measure=>simp[intOf];omega
  ·have hk5:k=5:=by omega
   have h5':¬ (k:Int)<5:=by omega
   have HO:=aA (show D=k by rw[HK.out,hk5];simp[aL])
   clear hk5 h5;go_wp2_with fail
   go_ret
   exact ⟨aM (by rw[HO.out]),rfl⟩
end Go.Proofs.YtgaeikgoknoamaaGreat
