/-
  Texts put together: MntF IteP OvrI.
-/
import Derived.Test.YtgaeikgoknoamaaGreatKKeeps12
import Derived.Test.YtgaeikgoknoamaaGreatKKeeps17
import Derived.Test.YtgaeikgoknoamaaGreatKKeeps4
import Derived.Shelf.SlSortCmp.WholeK
import Derived.Ground.SlsfProg
import Derived.Test.YtgaeikgoknoamaaGreatProg
import Derived.Test.YtgaeikgoknoamaaGreatKKeeps9
import Derived.Test.YtgaeikgoknoamaaGreatKKeeps1
import Derived.Test.YtgaeikgoknoamaaGreatKKeeps14
import Derived.ProofKit
import Derived.Deep.DrawnRows
import Derived.Deep.RegionHeld3
import Derived.Deep.RegionLaw
set_option linter.unusedVariables false
set_option maxHeartbeats 12800000
set_option maxRecDepth 100000
namespace Go.Proofs.YtgaeikgoknoamaaGreat
open Go.RowKit Go.Maps
attribute [local go_sem ↓] Go.wp_at_zero Go.wp_at_succ
theorem xW {P:Program} {w:World} {ops:Array Oper} {rest:List Oper} {o:Oper} {a:Act} {Q:Exit→Act→World→Prop} (hgd:o.guard=none) (s x:Operand) (t:TypeId)
  (ho:o.op=.call { callee:=.builtin .append,args:=#[s,x],argTypes:=#[t,t] })
  (base:Nat) (e:TypeId) (i:TypeInfo) (z:Value) (size bytes:Nat) (ht:P.underlying t=some (.slice e)) (hi:P.info? e=some i) (hz:i.zero=some z)
  (hsize:i.size=size) (hby:i.bytes=bytes) (hzs:z.cells.size=size) (hsz:0<size)
  (av0:Option Addr) (n c0:Nat) (xs:List Value) (hs:a.eval s=.slice av0 n c0) (hown:w.ownsRow base e size (.slice av0 n c0) n xs)
  (sp:Option Addr) (m sc:Nat) (cs:List Value) (hx:a.eval x=.slice sp m sc) (hcl:cs.length=m * size) (hsrc:cs≠[]→∃ ad,sp=some ad∧∀ (j:Nat) u,cs[j]?=some u→w.cell? (ad.add j)=some u) (h1:∀ u∈cs,u.oneCell'=true)
  (N:Nat) (hN:n+m=N) (h63:n+m≤maxLen) (hbytes:(n+m) * bytes≤140737488355328) (hbase:base≤w.heap.size)
  (h:∀ av cv w',w'.ownsRow base e size (.slice av N cv) N (xs++cs)→aD (fun b=>(Value.slice av0 n c0).ownBlock=some b) w w'→wpList P ops Q rest (a.put o.dst (.slice av N cv)) w') :
  wpList P ops Q (o :: rest) a w:=by
 cases sp with
 | some ad =>
  refine eK hgd s x t ho base e i z size bytes ht hi hz hsize hby hzs hsz _ n xs hs hown ad m sc cs hx hcl (fun j u hj=>?_) h1 N hN h63 hbytes hbase h
  obtain ⟨ad',e1,h2⟩:=hsrc (by intro e;subst e;simp at hj)
  cases e1
  exact h2 j u hj
 | none =>
  have hc:cs=[]:=by
   by_cases hc:cs=[]
   ·exact hc
   ·obtain ⟨_,e1,_⟩:=hsrc hc;cases e1
  subst hc;have hm:m=0:=by
   simp only[List.length_nil]at hcl;rcases Nat.mul_eq_zero.1 hcl.symm with h0 | h0
   ·exact h0
   ·omega
  subst hm;have hN':N=n:=by omega
  subst hN';have hrun:(Builtin.append_ #[t,t] o.type #[.slice av0 N c0,.slice none 0 sc]).run P w=.ok (.slice av0 N c0) w:=by
   rcases hown.2 with ⟨hv,h0⟩ | ⟨g,cap,cur,hv,-,-,hnc,-⟩
   ·simp only[Value.slice.injEq]at hv
    obtain ⟨rfl,rfl,rfl⟩:=hv;simp[Builtin.append_,run_underlying ht,sizeOf,typeInfo,hi,Builtin.lenOf,Builtin.firstCells]
   ·simp only[Value.slice.injEq,true_and]at hv
    obtain ⟨rfl,rfl⟩:=hv;simp[Builtin.append_,run_underlying ht,sizeOf,typeInfo,hi,Builtin.lenOf,Builtin.firstCells,hnc,storeCells]
  refine wpList_plain hgd fun K hK=>?_
  unfold Oper.wp execOp;simp only[ho,resolve,invoke,builtin,Sem.run_bind,Sem.run_pure,Result.andThen_ok,List.map_toArray,List.map_cons,List.map_nil,hs,hx,hrun];exact hK _ _ (h av0 c0 w (by rw[List.append_nil];exact hown) (aD.refl _ _))
theorem zhk {w W:World} {B n c:Nat} {av:Option Addr} {ls:List (List En)} {U:List En} {u:Option Addr} {uc:Nat} {vs:List Value} (hO:W.ownsRow B 40 1 (.slice av n c) n (vs ++ [.slice u U.length uc])) (hB:Below w.heap.size w W) (hn:n=ls.length+1) (hv:vs.length=ls.length)
  (hr:∀ (i:Nat) (es:List En),ls[i]?=some es→∃ x c,vs[i]?=some (Value.slice x es.length c)∧RdE w x es) (hU:RdE w u U):RdL W av (ls ++ [U]):=by
 subst hn;rcases hO.2 with ⟨hv0,h0⟩ | ⟨g,cap,cur,hv0,hb,hh,hnc,hcm,hcs,htake⟩
 ·omega
 ·simp only[Value.slice.injEq,true_and]at hv0
  obtain ⟨rfl,rfl⟩:=hv0;have hlt:=(hO.lt g rfl).2;have hc:∀ j,j<ls.length+1→W.cell? ⟨g,j,none⟩=(vs ++ [.slice u U.length uc])[j]?:=fun j hj=>hO.cellAt j (by omega)
  have hat:∀ i es,(ls ++ [U])[i]?=some es→∃ x c,W.cell? ⟨g,0+i,none⟩=some (.slice x es.length c)∧RdE W x es:=fun i es he=>by
   rw[Nat.zero_add];by_cases hi:i<ls.length
   ·rw[List.getElem?_append_left hi]at he
    obtain ⟨y,c,hy,hre⟩:=hr i es he;refine ⟨y,c,?_,hre.below hB⟩;rw[hc i (by omega),List.getElem?_append_left (by omega)]
    exact hy
   ·have hi2:i=ls.length:=by
     have:=(List.getElem?_eq_some_iff.1 he).1;simp at this;omega
    subst hi2;simp at he
    subst he;exact ⟨u,uc,by rw[hc _ (by omega),List.getElem?_append_right (by omega)];simp[hv],hU.below hB⟩
  intro _;refine ⟨g,0,fun i=>((ls ++ [U])[i]?.bind fun es=>if h:(ls ++ [U])[i]?=some es then some (Classical.choose (hat i es h)) else none).getD none,fun i=>((ls ++ [U])[i]?.bind fun es=>if h:(ls ++ [U])[i]?=some es then some (Classical.choose (Classical.choose_spec (hat i es h))) else none).getD 0,rfl,hlt,fun i es he=>?_⟩
  have h1:=Classical.choose_spec (Classical.choose_spec (hat i es he));simp only[he,Option.bind_some,dif_pos];exact h1
theorem jW (a:Option Addr) (c n:Nat) (ls:List (List En)) (u:Option Addr) (uc m:Nat) (U:List En) (w:World) (h:RdL w a ls) (hn:n=ls.length) (hl:ls.length≤1000000) (hU:RdE w u U) (hm:m=U.length) :
  Calls Tryz.prog 265 #[.slice a n c,.slice u m uc] w fun r w'=>∃ av cv,r=.returned (.slice av (ls ++ [U]).length cv)∧RdL w' av (ls ++ [U])∧Below w.heap.size w w':=by
 subst hn;subst hm;obtain ⟨i1,ki,kz0,kz1,kz2⟩:=info_parts zu5;obtain ⟨vs,hvl,hvc,hv1,hvr⟩:=RdL.cells h;have HVC:=aA hvc;have HV1:=aA hv1;have HU:=aA hU;have HVN:=aA (show vs.length=ls.length * 1 by omega)
 have HLen:=aA (show (ls ++ [U]).length=ls.length+1 by simp)
 have hml0:0+ls.length≤maxLen:=by unfold maxLen;omega
 have hmb0:(0+ls.length) * 24≤140737488355328:=by omega
 have hml1:ls.length+1≤maxLen:=by unfold maxLen;omega
 have hmb1:(ls.length+1) * 24≤140737488355328:=by omega
 have B0:=aA (aC w (.cells #[] 40));have OWN0:Hid ((w.alloc (.cells #[] 40)).ownsRow w.heap.size 40 1 (.slice (some ⟨w.heap.size,0,none⟩) 0 0) 0 []):=aA (World.ownsRow_made w #[] 0 (Nat.le_refl _) (Nat.zero_le _) rfl);have HRd:Hid (∀ (W:World) (av:Option Addr) (cv:Nat),W.ownsRow w.heap.size 40 1 (.slice av (ls.length+1) cv) (ls.length+1) (vs ++ [.slice u U.length uc])→Below w.heap.size w W→RdL W av (ls ++ [U])):=aA (fun W av cv hO hB=>zhk hO hB rfl hvl hvr hU)
 clear h hvc hv1 hvr hvl hU;generalize hNN:ls.length=N at *;have HNN:=aA hNN;clear hNN;go_enter Tryz.func265,Tryz.ntmps265;go_wp2_with (first
  | (at_builtin;refine xW rfl (.tmp 5) (.tmp 6) 36 rfl w.heap.size 40 i1 (.slice none 0 0) 1 24 Tryz.underlying36 ki kz0 kz1 kz2 rfl (by decide) (some ⟨w.heap.size,0,none⟩) 0 0 [] rfl OWN0.out a N c vs rfl HVN.out (HVC.out _ B0.out) HV1.out N (by simp) hml0 hmb0 (by simp) ?_;intro av1 cv1 w1 ho1 hk1;have O1:=aA ho1;have B1:=aA (B0.out.trans (hk1.below (B:=w.heap.size) B0.out.size (fun b hb e=>by simp[Value.ownBlock]at e;omega)));have hs1:=B1.out.size;clear ho1 hk1)
  | (at_builtin;refine bS rfl (.tmp 7) (.tmp 9) 36 rfl w.heap.size 40 i1 (.slice none 0 0) 1 24 Tryz.underlying36 ki kz0 kz1 kz2 rfl (by decide) _ _ _ rfl O1.out rfl rfl (by intro u hu;simp at hu;subst hu;rfl) hml1 hmb1 hs1 ?_;intro v' w2 ho2 hk2;have O2:=aA ho2;have B2:=aA (aD.below_own B1.out hs1 O1.out hk2);clear ho2 hk2))
 obtain ⟨av2,cv2,hv2⟩:=aQ O2.out;subst hv2;go_ret
 exact ⟨av2,⟨cv2,by rw[HNN.out];rfl⟩,HRd.out _ _ _ (by simpa using O2.out) B2.out,B2.out⟩
theorem sK (a:Option Addr) (c n:Nat) (ls:List (List En)) (u:Option Addr) (uc m:Nat) (U:List En) (p:Bs) (w:World) (h:RdL w a ls) (hn:n=ls.length) (hl:ls.length≤1000000) (hU:RdE w u U) (hm:m=U.length) (hs:fV (ls ++ [U])) (hg:∀ es∈ls ++ [U],cD es=bE es) (hpl:p.length≤1048576) :
  Calls Tryz.prog 249 #[.slice a n c,.slice u m uc,.string (str p)] w fun r w'=>r=.returned (.int .i64 (dP (ls ++ [U]) p))∧Below w.heap.size w w':=by
 subst hn;subst hm;have hsz:=aP p;have HA:=aA (jW a c ls.length ls u uc U.length U w h rfl hl hU rfl);have HSL:=aA hs;have HG:=aA hg;have HLn:=aA (show (ls ++ [U]).length≤1048576 by rw[List.length_append];simp;omega)
 have HPF:Hid (∀ w',Calls Tryz.prog 202 #[.string (str p)] w' fun e w2=>e=.returned (.int .i64 (aF p))∧Below w'.heap.size w' w2):=aA (fun w'=>by have h1:=sH (str p) w' (by omega);rw[bD]at h1;exact h1)
 clear h hU hs hg;generalize ls ++ [U]=al at *;by_cases hz:bY al=0
 ·have HZ:=aA (show dP al p=aF p by rw[dP,if_pos hz])
  go_enter Tryz.func249,Tryz.ntmps249;go_wp2_with fail
  refine HA.out.mono ?_;rintro r w1 ⟨av,cv,rfl,hr1,hb1⟩;have B1:=aA hb1;have HLF:=aA (nW av cv al.length al w1 hr1 rfl HLn.out HSL.out HG.out);rw[hz]at HLF;clear hr1 hb1;go_wp2_with fail
  refine HLF.out.mono ?_;rintro r w2 ⟨rfl,hb2⟩;have B2:=aA (aB B1.out hb2);clear hb2;go_wp2_with fail
  refine (HPF.out w2).mono ?_;rintro r w3 ⟨rfl,hb3⟩;have B3:=aA (aB B2.out hb3);clear hb3;go_wp2_with fail
  go_ret
  exact ⟨by rw[HZ.out];rfl,B3.out⟩
 ·have HZ:=aA (show dP al p=bY al by rw[dP,if_neg hz])
  go_enter Tryz.func249,Tryz.ntmps249;go_wp2_with fail
  refine HA.out.mono ?_;rintro r w1 ⟨av,cv,rfl,hr1,hb1⟩;have B1:=aA hb1;have HLF:=aA (nW av cv al.length al w1 hr1 rfl HLn.out HSL.out HG.out);generalize bY al=F at *;have hz2:(F != 0)=true:=by simp;exact hz
  clear hr1 hb1 hz;go_wp2_with fail
  refine HLF.out.mono ?_;rintro r w2 ⟨rfl,hb2⟩;have B2:=aA (aB B1.out hb2);clear hb2;go_wp2_with fail
  go_ret
  exact ⟨by rw[HZ.out];rfl,B2.out⟩
theorem oM (a:Option Addr) (c n:Nat) (U:List En) (q:Int) (w:World) (h:RdE w a U) (hn:n=U.length) (hl:U.length≤1048576) (hs:cG U) :
  Calls Tryz.prog 267 #[.slice a n c,.int .i64 q] w (eT 0 q U w):=by
 subst hn;have X0:=aA (fB.new w (.int .i64 0) (.int .i64 0) (.slice none 0 0) 267);have B0:=aA (aC w (.cells #[.int .i64 0,.int .i64 0,.slice none 0 0] 267));have HC:=aA (iN a c U.length U _ (h.below B0.out) rfl hl hs);clear h hs;go_enter Tryz.func267,Tryz.ntmps267;go_wp2_with fail
 refine HC.out.mono ?_;rintro r w1 ⟨g,cv,rfl,-,hG,hb1⟩;have G1:=aA (GW.of hG);have B1:=aA (aB B0.out hb1);have hlt:w.heap.size<(w.alloc (.cells #[.int .i64 0,.int .i64 0,.slice none 0 0] 267)).heap.size:=X0.out.lt;obtain ⟨⟨t0,t1,t2⟩,t3,t4,t5⟩:=X0.out.below hb1;clear hG hb1;go_wp2_with fail
 exact bodyPost_ret (v:=.agg #[.int .i64 0,.int .i64 q,.slice (some ⟨g,0,none⟩) U.length cv]) (by simp[results,Tryz.results267,go_sem,t0,t1,t2]) rfl (eT.of hlt (Nat.le_refl _) rfl G1.out B1.out)
theorem zb7 {es:List En} {e:En}:(dC es e).length=(iL es e).length+1:=by
 unfold dC gI;rw[List.length_append,List.length_cons,List.length_take,List.length_drop];omega
end Go.Proofs.YtgaeikgoknoamaaGreat
namespace Go.Proofs.YtgaeikgoknoamaaGreat
open Go.RowKit
attribute [local go_sem ↓] Go.wp_at_zero Go.wp_at_succ
def tT (ps:List Bs) (p:Bs):Nat:=(ps.takeWhile fun x=>Op.bytesLess x p).length
def gC (ps:List Bs) (p:Bs):List Bs:=ps.take (tT ps p)++p :: ps.drop (tT ps p)
theorem zla {bs:List Bs} {p:Bs} {k:Nat} (hk:k≤bs.length) (h1:(bs.take k).all (fun x=>Op.bytesLess x p)=true) (h2:∀ y,bs[k]?=some y→Op.bytesLess y p=false):tT bs p=k:=by
 have e:bs=bs.take k++bs.drop k:=(List.take_append_drop k bs).symm;have hd:(bs.drop k).takeWhile (fun x=>Op.bytesLess x p)=[]:=by
  cases hx:bs.drop k with
  | nil=>rfl
  | cons y r =>
   have:bs[k]?=some y:=by
    have h3:=congrArg (fun l=>l[0]?) hx
    simpa using h3
   simp[h2 y this]
 unfold tT
 conv=>lhs;rw[e]
 rw[List.takeWhile_append_of_pos (by intro x hx;exact List.all_eq_true.1 h1 x hx),hd,List.append_nil,List.length_take]
 omega
theorem rA (ps:List Bs) (p:Bs):(gC ps p).length=ps.length+1:=by
 unfold gC;have:tT ps p≤ps.length:=by unfold tT;exact List.Sublist.length_le (List.takeWhile_sublist _)
 simp;omega
theorem zkl (ys:List Bs):∀ u∈ys.map vS,u.oneCell'=true:=by
 intro u hu;obtain ⟨p,-,rfl⟩:=List.mem_map.1 hu;rfl
theorem zk9 {w:World} {b off:Nat} {ys:List Bs} (h:∀ i,i<ys.length→w.cell? ⟨b,off+i,none⟩=some (.string (str (ys.getD i [])))):∀ j u,(ys.map vS)[j]?=some u→w.cell? ((⟨b,off,none⟩:Addr).add j)=some u:=by
 intro j u hj;rw[zlg];have hlt:j<ys.length:=by have:=(List.getElem?_eq_some_iff.1 hj).1;simpa using this
 rw[h j hlt];rw[List.getElem?_map,List.getElem?_eq_getElem hlt]at hj
 simp only[Option.map_some,Option.some.injEq]at hj;rw[←hj,List.getD_eq_getElem?_getD,List.getElem?_eq_getElem hlt]
 rfl
theorem cE {P:Program} {w:World} {ops:Array Oper} {o:Oper} {a:Act} {K:Act→World→Prop} {Q:Exit→Act→World→Prop} {E:Prop} (hgd:o.guard=none) (s x:Operand) (t:TypeId)
  (ho:o.op=.call { callee:=.builtin .append,args:=#[s,x],argTypes:=#[t,t] })
  (base:Nat) (e:TypeId) (i:TypeInfo) (ht:P.underlying t=some (.slice e)) (hi:P.info? e=some i) (hz:i.zero=some (.string ⟨#[]⟩))
  (hsize:i.size=1) (hby:i.bytes=16)
  (av0:Option Addr) (n c0:Nat) (xs:List Bs) (hs:a.eval s=.slice av0 n c0) (hown:w.ownsRow base e 1 (.slice av0 n c0) n (xs.map vS))
  (xv:Option Addr) (m xc:Nat) (ys:List Bs) (hx:a.eval x=.slice xv m xc) (hm:ys.length=m) (hr:bM w xv ys)
  (N:Nat) (hN:n+m=N) (h63:n+m≤maxLen) (hbytes:(n+m) * 16≤140737488355328) (hbase:base≤w.heap.size)
  (h:∀ av cv w',w'.ownsRow base e 1 (.slice av N cv) N ((xs++ys).map vS)→aD (fun b=>(Value.slice av0 n c0).ownBlock=some b) w w'→K (a.put o.dst (.slice av N cv)) w') :
  if Region.wanted o (yielded ops a.tmps)=true then Oper.wp P o a w K Q else E:=by
 have hw:Region.wanted o (yielded ops a.tmps)=true:=by simp[Region.wanted,hgd]
 rw[if_pos hw];subst hm;cases xv with
 | some ad =>
  refine wp_append_own w s x t ho base e i (.string ⟨#[]⟩) 1 16 ht hi hz hsize hby rfl (by decide) _ n _ hs hown ad ys.length xc (ys.map vS) hx (by simp) (fun j u hj=>?_) (zkl ys) h63 hbytes hbase fun v' w' h2 h3 _=>?_
  ·have h0:ys≠[]:=fun e=>by subst e;simp at hj
   obtain ⟨b,off,e1,hb,hc⟩:=hr h0;simp only[Option.some.injEq]at e1;subst e1;exact zk9 hc j u hj
  ·rw[hN]at h2
   obtain ⟨av,cv,rfl⟩:=aQ h2;exact h av cv w' (by rw[List.map_append];exact h2) ⟨h3.os,h3.tape,h3.output,h3.size,fun q hq hn=>h3.block q hq (fun e=>hn e.symm)⟩
 | none =>
  have h0:ys=[]:=by
   by_cases h0:ys=[]
   ·exact h0
   ·obtain ⟨b,off,e1,-⟩:=hr h0;cases e1
  subst h0;have hN':N=n:=by simp at hN;omega
  subst hN';have hc0:(if xc=0 then true else true)=true:=by split <;> rfl
  have hrun:(Builtin.append_ #[t,t] o.type #[.slice av0 N c0,.slice none 0 xc]).run P w=.ok (.slice av0 N c0) w:=by
   rcases hown.2 with ⟨hv,h0⟩ | ⟨g,cap,cur,hv,-,-,hnc,-⟩
   ·simp only[Value.slice.injEq]at hv
    obtain ⟨rfl,rfl,rfl⟩:=hv;simp[Builtin.append_,run_underlying ht,sizeOf,typeInfo,hi,Builtin.lenOf,Builtin.firstCells]
   ·simp only[Value.slice.injEq,true_and]at hv
    obtain ⟨rfl,rfl⟩:=hv;simp[Builtin.append_,run_underlying ht,sizeOf,typeInfo,hi,Builtin.lenOf,Builtin.firstCells,hnc,storeCells]
  unfold Oper.wp execOp;simp only[ho,resolve,invoke,builtin,Sem.run_bind,Sem.run_pure,Result.andThen_ok,List.map_toArray,List.map_cons,List.map_nil,hs,hx,List.length_nil,hrun];exact h av0 c0 w (by rw[List.append_nil];exact hown) (aD.refl _ _)
theorem bM.drop {w:World} {g:Nat} {ps:List Bs} (h:bM w (some ⟨g,0,none⟩) ps) (k:Nat):bM w (some ⟨g,k,none⟩) (ps.drop k):=by
 intro hz;have hp:ps≠[]:=by rintro rfl;simp at hz
 obtain ⟨b,off,e1,hb,hc⟩:=h hp;simp only[Option.some.injEq,Addr.mk.injEq,and_true]at e1;obtain ⟨rfl,rfl⟩:=e1;refine ⟨g,k,rfl,hb,fun i hi=>?_⟩
 have hi':k+i<ps.length:=by simp at hi;omega
 have:=hc (k+i) hi';rw[Nat.zero_add]at this;rw[this];simp[List.getD_eq_getElem?_getD]
theorem fP (w:World) (p:Bs):bM (w.alloc (.cells #[.string (str p)] 9)) (some ⟨w.heap.size,0,none⟩) [p]:=by
 intro _;refine ⟨w.heap.size,0,rfl,by simp,fun i hi=>?_⟩
 obtain rfl:i=0:=by simp at hi;omega
 simp
theorem fF (w:World):(w.alloc (.cells #[] 9)).ownsRow w.heap.size 9 1 (.slice (some ⟨w.heap.size,0,none⟩) 0 0) 0 (([]:List Bs).map vS):=World.ownsRow_made w #[] 0 (Nat.le_refl _) (Nat.zero_le _) rfl
theorem iF {w w1 w2:World} {b n c:Nat} (h:Below w.heap.size w w1) (hk:aD (fun q=>(Value.slice (some ⟨b,0,none⟩) n c).ownBlock=some q) w1 w2) (hb:w.heap.size≤b):Below w.heap.size w w2 :=
 h.trans (hk.below h.size (fun q hq hS=>by simp[Value.ownBlock]at hS;omega))
theorem eM {w w1 w2 w3:World} {t:TypeId} {a:Option Addr} {n c m:Nat} {xs:List Value} (h:Below w.heap.size w w1) (hk:aD (fun q=>(Value.slice a n c).ownBlock=some q) w1 w2) (ho:w3.ownsRow w.heap.size t 1 (.slice a n c) m xs):Below w.heap.size w w2 :=
 h.trans (hk.below h.size (fun q hq hS=>by have:=(ho.lt q hS).1;omega))
theorem jU {w1 w2:World} {b d n c:Nat} {p:Bs} (hk:aD (fun q=>(Value.slice (some ⟨b,0,none⟩) n c).ownBlock=some q) w1 w2) (hd:d≠b) (h:bM w1 (some ⟨d,0,none⟩) [p]):bM w2 (some ⟨d,0,none⟩) [p] :=
 h.kept hk (fun _ x hx hS=>by simp only[Option.some.injEq]at hx;subst hx;simp[Value.ownBlock]at hS;exact hd hS.symm)
theorem xI {B:Nat} {w:World} {a:Option Addr} {c k n:Nat} {ps qs:List Bs} {p:Bs} (h:w.ownsRow B 9 1 (.slice a n c) n ((((([]:List Bs)++ps.take k) ++ [p])++ps.drop k).map vS)) (hq:qs=ps.take k++p :: ps.drop k) (hn:qs.length=n):cJ B w (.slice a n c) qs:=by
 subst hq;unfold cJ;rw[hn];simpa using h
theorem zlc (g c:Nat) (ps:List Bs) (p:Bs) (w:World) (h:bM w (some ⟨g,0,none⟩) ps) (hc:ps.length≤c) (hl:ps.length≤1048576) :
  Calls Tryz.prog 278 #[.slice (some ⟨g,0,none⟩) ps.length c,.string (str p)] w fun r w'=>∃ av cv,r=.returned (.slice av (gC ps p).length cv)∧cJ w.heap.size w' (.slice av (gC ps p).length cv) (gC ps p)∧Below w.heap.size w w':=by
 obtain ⟨i1,ki,kz0,kz1,kz2⟩:=info_parts rK;have HR:=aA h;clear h;go_enter Tryz.func278,Tryz.ntmps278;go_wp2_with fail
 go_loopw [5] (fun i wr=>∃ k:Nat,k≤ps.length∧i=.int .i64 k∧wr=w∧Hid ((ps.take k).all (fun x=>Op.bytesLess x p)=true)) (fun i _=>ps.length - (intOf i).toNat)
 case atStart=>exact ⟨0,Nat.zero_le _,rfl,rfl,aA (by simp)⟩
 case round =>
  obtain ⟨k,hk,rfl,rfl,HL⟩:=hrel;have hk0:(0:Int)≤(k:Int):=by omega
  have hkc:(k:Int)≤(c:Int):=by omega
  have hkl:(k:Int)≤(ps.length:Int):=by omega
  have hlc:(ps.length:Int)≤(c:Int):=by omega
  by_cases hlt:k<ps.length
  ·obtain ⟨b,off,q,hbb,hb,he,c0⟩:=HR.out.at hlt
   simp only[Option.some.injEq,Addr.mk.injEq,and_true]at hbb;obtain ⟨rfl,rfl⟩:=hbb;rw[Nat.zero_add]at c0;have hk1:(k:Int)<(ps.length:Int):=by omega
   have HX:=aA he;clear he;cases hlo:Op.bytesLess (str q).toList (str p).toList
   ·have HLk:=aA (zla hk HL.out (fun y' hy'=>by rw[HX.out]at hy';cases hy';rw[aN,aN]at hlo;exact hlo))
    have hck:¬ c=k:=by omega
    have HPut:=aA (show gC ps p=ps.take k++p :: ps.drop k from by unfold gC;rw[HLk.out])
    have HLen:=aA (rA ps p);have BSA:Hid (Below wr.heap.size wr ((wr.alloc (.cells #[] 9)).drew)):=aA (aC wr _).drew;have BSB:Hid (Below wr.heap.size wr (((wr.alloc (.cells #[] 9)).alloc (.cells #[.string (str p)] 9)).drew)):=aA (aB (aC wr _) (aC _ _)).drew;have BSC:Hid (Below wr.heap.size wr (((wr.alloc (.cells #[.string (str p)] 9)).alloc (.cells #[] 9)).drew)):=aA (aB (aC wr _) (aC _ _)).drew;have OA:Hid (((wr.alloc (.cells #[] 9)).drew).ownsRow wr.heap.size 9 1 (.slice (some ⟨wr.heap.size,0,none⟩) 0 0) 0 (([]:List Bs).map vS)):=aA (fF wr)
    have OB:Hid ((((wr.alloc (.cells #[] 9)).alloc (.cells #[.string (str p)] 9)).drew).ownsRow wr.heap.size 9 1 (.slice (some ⟨wr.heap.size,0,none⟩) 0 0) 0 (([]:List Bs).map vS)):=aA (aG (fF wr) (aC _ _).drew);have OC:Hid ((((wr.alloc (.cells #[.string (str p)] 9)).alloc (.cells #[] 9)).drew).ownsRow wr.heap.size 9 1 (.slice (some ⟨wr.heap.size+1,0,none⟩) 0 0) 0 (([]:List Bs).map vS)):=aA (by have:=fF (wr.alloc (.cells #[.string (str p)] 9));rw[show (wr.alloc (.cells #[.string (str p)] 9)).heap.size=wr.heap.size+1 by simp]at this;exact aS this (by omega))
    have RNB:Hid (bM (((wr.alloc (.cells #[] 9)).alloc (.cells #[.string (str p)] 9)).drew) (some ⟨wr.heap.size+1,0,none⟩) [p]):=aA (by have:=fP (wr.alloc (.cells #[] 9)) p;rw[show (wr.alloc (.cells #[] 9)).heap.size=wr.heap.size+1 by simp]at this;exact this)
    have RNC:Hid (bM (((wr.alloc (.cells #[.string (str p)] 9)).alloc (.cells #[] 9)).drew) (some ⟨wr.heap.size,0,none⟩) [p]):=aA ((fP wr p).below (aC _ _).drew);have HNB:Hid (wr.heap.size+1≠wr.heap.size):=aA (by omega)
    have HNC:Hid (wr.heap.size≠wr.heap.size+1):=aA (by omega)
    have HBA:Hid (wr.heap.size≤wr.heap.size):=aA (Nat.le_refl _);have HBB:Hid (wr.heap.size≤wr.heap.size):=aA (Nat.le_refl _);have HBC:Hid (wr.heap.size≤wr.heap.size+1):=aA (by omega)
    have htk:Hid ((ps.take k).length=k):=aA (by rw[List.length_take];omega)
    have hk00:Hid (0+k=k):=aA (by omega)
    have hdk:Hid ((ps.drop k).length=(ps.length - k)):=aA (by rw[List.length_drop])
    have hN3:Hid (k+1+(ps.length - k)=ps.length+1):=aA (by omega)
    have RTA:Hid (bM ((wr.alloc (.cells #[] 9)).drew) (some ⟨g,0,none⟩) (ps.take k)):=aA ((HR.out.below BSA.out).take k);have RTB:Hid (bM (((wr.alloc (.cells #[] 9)).alloc (.cells #[.string (str p)] 9)).drew) (some ⟨g,0,none⟩) (ps.take k)):=aA ((HR.out.below BSB.out).take k);have RTC:Hid (bM (((wr.alloc (.cells #[.string (str p)] 9)).alloc (.cells #[] 9)).drew) (some ⟨g,0,none⟩) (ps.take k)):=aA ((HR.out.below BSC.out).take k);have RD:Hid (∀ u:World,Below wr.heap.size wr u→bM u (some ⟨g,k,none⟩) (ps.drop k)):=aA (fun u hu=>(HR.out.below hu).drop k)
    have hm0:0+k≤maxLen:=by unfold maxLen;omega
    have hm0':(0+k) * 16≤140737488355328:=by omega
    have hm1:k+1≤maxLen:=by unfold maxLen;omega
    have hm1':(k+1) * 16≤140737488355328:=by omega
    have hm2:k+1+(ps.length - k)≤maxLen:=by unfold maxLen;omega
    have hm2':(k+1+(ps.length - k)) * 16≤140737488355328:=by omega
    go_wp2_with fail
    go_region_law
     ((
      first
      | (refine cE (by rfl) (.tmp 20) (.tmp 23) 25 (by rfl) wr.heap.size 9 i1 Tryz.underlying25 ki kz0 kz1 kz2 (some ⟨wr.heap.size+1,0,none⟩) 0 0 [] (by rfl) OC.out (some ⟨g,0,none⟩) k c (ps.take k) (by rfl) htk.out RTC.out k hk00.out hm0 hm0' BSC.out.size ?_;intro av3 cv3 w3 hown3 hk3;have RN3:=aA (jU hk3 HNC.out RNC.out);have BW3:=aA (iF BSC.out hk3 HBC.out);have O3:=aA hown3;clear hown3 hk3)
      | (refine cE (by rfl) (.tmp 20) (.tmp 23) 25 (by rfl) wr.heap.size 9 i1 Tryz.underlying25 ki kz0 kz1 kz2 (some ⟨wr.heap.size,0,none⟩) 0 0 [] (by rfl) OB.out (some ⟨g,0,none⟩) k c (ps.take k) (by rfl) htk.out RTB.out k hk00.out hm0 hm0' BSB.out.size ?_;intro av3 cv3 w3 hown3 hk3;have RN3:=aA (jU hk3 HNB.out RNB.out);have BW3:=aA (iF BSB.out hk3 HBB.out);have O3:=aA hown3;clear hown3 hk3)
      | (refine cE (by rfl) (.tmp 20) (.tmp 23) 25 (by rfl) wr.heap.size 9 i1 Tryz.underlying25 ki kz0 kz1 kz2 (some ⟨wr.heap.size,0,none⟩) 0 0 [] (by rfl) OA.out (some ⟨g,0,none⟩) k c (ps.take k) (by rfl) htk.out RTA.out k hk00.out hm0 hm0' BSA.out.size ?_;intro av3 cv3 w3 hown3 hk3;have BW3:=aA (iF BSA.out hk3 HBA.out);have O3:=aA hown3;clear hown3 hk3)
      | (refine cE (by rfl) (.tmp 24) (.tmp 26) 25 (by rfl) wr.heap.size 9 i1 Tryz.underlying25 ki kz0 kz1 kz2 av3 k cv3 (([]:List Bs)++ps.take k) (by rfl) O3.out (some ⟨wr.heap.size,0,none⟩) 1 1 [p] (by rfl) rfl RN3.out (k+1) rfl hm1 hm1' BW3.out.size ?_;intro av4 cv4 w4 hown4 hk4;have BW4:=aA (eM BW3.out hk4 O3.out);have O4:=aA hown4;clear hown4 hk4)
      | (refine cE (by rfl) (.tmp 24) (.tmp 26) 25 (by rfl) wr.heap.size 9 i1 Tryz.underlying25 ki kz0 kz1 kz2 av3 k cv3 (([]:List Bs)++ps.take k) (by rfl) O3.out (some ⟨wr.heap.size+1,0,none⟩) 1 1 [p] (by rfl) rfl RN3.out (k+1) rfl hm1 hm1' BW3.out.size ?_;intro av4 cv4 w4 hown4 hk4;have BW4:=aA (eM BW3.out hk4 O3.out);have O4:=aA hown4;clear hown4 hk4)
      | (refine cE (by rfl) (.tmp 24) (.tmp 26) 25 (by rfl) wr.heap.size 9 i1 Tryz.underlying25 ki kz0 kz1 kz2 av3 k cv3 (([]:List Bs)++ps.take k) (by rfl) (aG O3.out (aC w3 (.cells #[.string (str p)] 9))) (some ⟨w3.heap.size,0,none⟩) 1 1 [p] (by rfl) rfl (fP w3 p) (k+1) rfl hm1 hm1' (aB BW3.out (aC w3 (.cells #[.string (str p)] 9))).size ?_;intro av4 cv4 w4 hown4 hk4;have BW4:=aA (eM (aB BW3.out (aC w3 (.cells #[.string (str p)] 9))) hk4 O3.out);have O4:=aA hown4;clear hown4 hk4)
      | (refine cE (by rfl) (.tmp 27) (.tmp 30) 25 (by rfl) wr.heap.size 9 i1 Tryz.underlying25 ki kz0 kz1 kz2 av4 (k+1) cv4 ((([]:List Bs)++ps.take k) ++ [p]) (by rfl) O4.out (some ⟨g,k,none⟩) (ps.length - k) (c - k) (ps.drop k) (by rfl) hdk.out (RD.out _ BW4.out) (ps.length+1) hN3.out hm2 hm2' BW4.out.size ?_;intro av5 cv5 w5 hown5 hk5;have BW5:=aA (eM BW4.out hk5 O4.out);have O5:=aA hown5;clear hown5 hk5)))
    all_goals
     go_wp2_with fail
     go_ret
     exact ⟨av5,cv5,by rw[HLen.out];rfl,by rw[HLen.out];exact xI O5.out HPut.out HLen.out,BW5.out⟩
   ·have HLk:=aA (show (ps.take (k+1)).all (fun x=>Op.bytesLess x p)=true from by
     rw[aN,aN]at hlo;rw[cT HX.out];simp only[List.all_append,HL.out,List.all_cons,hlo,List.all_nil,Bool.and_self])
    go_wp2_with fail
    go_roundw
    case rel=>exact ⟨k+1,by omega,by go_num,(by first | rfl | trivial),HLk⟩
    case measure=>simp[intOf];omega
  ·have HLk:=aA (zla hk HL.out (fun y' hy'=>by have:=(List.getElem?_eq_some_iff.1 hy').1;omega))
   have hk1:¬ (k:Int)<(ps.length:Int):=by omega
   by_cases hck:c=k
   ·obtain rfl:k=c:=hck.symm
    have hkn:k=ps.length:=by omega
    have HPut:=aA (show gC ps p=ps.take k++p :: ps.drop k from by unfold gC;rw[HLk.out])
    have HLen:=aA (rA ps p);have BSA:Hid (Below wr.heap.size wr ((wr.alloc (.cells #[] 9)).drew)):=aA (aC wr _).drew;have BSB:Hid (Below wr.heap.size wr (((wr.alloc (.cells #[] 9)).alloc (.cells #[.string (str p)] 9)).drew)):=aA (aB (aC wr _) (aC _ _)).drew;have BSC:Hid (Below wr.heap.size wr (((wr.alloc (.cells #[.string (str p)] 9)).alloc (.cells #[] 9)).drew)):=aA (aB (aC wr _) (aC _ _)).drew;have OA:Hid (((wr.alloc (.cells #[] 9)).drew).ownsRow wr.heap.size 9 1 (.slice (some ⟨wr.heap.size,0,none⟩) 0 0) 0 (([]:List Bs).map vS)):=aA (fF wr)
    have OB:Hid ((((wr.alloc (.cells #[] 9)).alloc (.cells #[.string (str p)] 9)).drew).ownsRow wr.heap.size 9 1 (.slice (some ⟨wr.heap.size,0,none⟩) 0 0) 0 (([]:List Bs).map vS)):=aA (aG (fF wr) (aC _ _).drew);have OC:Hid ((((wr.alloc (.cells #[.string (str p)] 9)).alloc (.cells #[] 9)).drew).ownsRow wr.heap.size 9 1 (.slice (some ⟨wr.heap.size+1,0,none⟩) 0 0) 0 (([]:List Bs).map vS)):=aA (by have:=fF (wr.alloc (.cells #[.string (str p)] 9));rw[show (wr.alloc (.cells #[.string (str p)] 9)).heap.size=wr.heap.size+1 by simp]at this;exact aS this (by omega))
    have RNB:Hid (bM (((wr.alloc (.cells #[] 9)).alloc (.cells #[.string (str p)] 9)).drew) (some ⟨wr.heap.size+1,0,none⟩) [p]):=aA (by have:=fP (wr.alloc (.cells #[] 9)) p;rw[show (wr.alloc (.cells #[] 9)).heap.size=wr.heap.size+1 by simp]at this;exact this)
    have RNC:Hid (bM (((wr.alloc (.cells #[.string (str p)] 9)).alloc (.cells #[] 9)).drew) (some ⟨wr.heap.size,0,none⟩) [p]):=aA ((fP wr p).below (aC _ _).drew);have HNB:Hid (wr.heap.size+1≠wr.heap.size):=aA (by omega)
    have HNC:Hid (wr.heap.size≠wr.heap.size+1):=aA (by omega)
    have HBA:Hid (wr.heap.size≤wr.heap.size):=aA (Nat.le_refl _);have HBB:Hid (wr.heap.size≤wr.heap.size):=aA (Nat.le_refl _);have HBC:Hid (wr.heap.size≤wr.heap.size+1):=aA (by omega)
    have htk:Hid ((ps.take k).length=k):=aA (by rw[List.length_take];omega)
    have hk00:Hid (0+k=k):=aA (by omega)
    have hdk:Hid ((ps.drop k).length=0):=aA (by rw[List.length_drop];omega)
    have hN3:Hid (k+1+0=ps.length+1):=aA (by omega)
    have RTA:Hid (bM ((wr.alloc (.cells #[] 9)).drew) (some ⟨g,0,none⟩) (ps.take k)):=aA ((HR.out.below BSA.out).take k);have RTB:Hid (bM (((wr.alloc (.cells #[] 9)).alloc (.cells #[.string (str p)] 9)).drew) (some ⟨g,0,none⟩) (ps.take k)):=aA ((HR.out.below BSB.out).take k);have RTC:Hid (bM (((wr.alloc (.cells #[.string (str p)] 9)).alloc (.cells #[] 9)).drew) (some ⟨g,0,none⟩) (ps.take k)):=aA ((HR.out.below BSC.out).take k);have RD:Hid (∀ u:World,Below wr.heap.size wr u→bM u (some ⟨g,0,none⟩) (ps.drop k)):=aA (fun u hu=>by rw[List.drop_eq_nil_of_le (by omega)];exact bM.nil _ _)
    have hm0:0+k≤maxLen:=by unfold maxLen;omega
    have hm0':(0+k) * 16≤140737488355328:=by omega
    have hm1:k+1≤maxLen:=by unfold maxLen;omega
    have hm1':(k+1) * 16≤140737488355328:=by omega
    have hm2:k+1+0≤maxLen:=by unfold maxLen;omega
    have hm2':(k+1+0) * 16≤140737488355328:=by omega
    clear hkn;go_wp2_with fail
    go_region_law
     ((
      first
      | (refine cE (by rfl) (.tmp 20) (.tmp 23) 25 (by rfl) wr.heap.size 9 i1 Tryz.underlying25 ki kz0 kz1 kz2 (some ⟨wr.heap.size+1,0,none⟩) 0 0 [] (by rfl) OC.out (some ⟨g,0,none⟩) k k (ps.take k) (by rfl) htk.out RTC.out k hk00.out hm0 hm0' BSC.out.size ?_;intro av3 cv3 w3 hown3 hk3;have RN3:=aA (jU hk3 HNC.out RNC.out);have BW3:=aA (iF BSC.out hk3 HBC.out);have O3:=aA hown3;clear hown3 hk3)
      | (refine cE (by rfl) (.tmp 20) (.tmp 23) 25 (by rfl) wr.heap.size 9 i1 Tryz.underlying25 ki kz0 kz1 kz2 (some ⟨wr.heap.size,0,none⟩) 0 0 [] (by rfl) OB.out (some ⟨g,0,none⟩) k k (ps.take k) (by rfl) htk.out RTB.out k hk00.out hm0 hm0' BSB.out.size ?_;intro av3 cv3 w3 hown3 hk3;have RN3:=aA (jU hk3 HNB.out RNB.out);have BW3:=aA (iF BSB.out hk3 HBB.out);have O3:=aA hown3;clear hown3 hk3)
      | (refine cE (by rfl) (.tmp 20) (.tmp 23) 25 (by rfl) wr.heap.size 9 i1 Tryz.underlying25 ki kz0 kz1 kz2 (some ⟨wr.heap.size,0,none⟩) 0 0 [] (by rfl) OA.out (some ⟨g,0,none⟩) k k (ps.take k) (by rfl) htk.out RTA.out k hk00.out hm0 hm0' BSA.out.size ?_;intro av3 cv3 w3 hown3 hk3;have BW3:=aA (iF BSA.out hk3 HBA.out);have O3:=aA hown3;clear hown3 hk3)
      | (refine cE (by rfl) (.tmp 24) (.tmp 26) 25 (by rfl) wr.heap.size 9 i1 Tryz.underlying25 ki kz0 kz1 kz2 av3 k cv3 (([]:List Bs)++ps.take k) (by rfl) O3.out (some ⟨wr.heap.size,0,none⟩) 1 1 [p] (by rfl) rfl RN3.out (k+1) rfl hm1 hm1' BW3.out.size ?_;intro av4 cv4 w4 hown4 hk4;have BW4:=aA (eM BW3.out hk4 O3.out);have O4:=aA hown4;clear hown4 hk4)
      | (refine cE (by rfl) (.tmp 24) (.tmp 26) 25 (by rfl) wr.heap.size 9 i1 Tryz.underlying25 ki kz0 kz1 kz2 av3 k cv3 (([]:List Bs)++ps.take k) (by rfl) O3.out (some ⟨wr.heap.size+1,0,none⟩) 1 1 [p] (by rfl) rfl RN3.out (k+1) rfl hm1 hm1' BW3.out.size ?_;intro av4 cv4 w4 hown4 hk4;have BW4:=aA (eM BW3.out hk4 O3.out);have O4:=aA hown4;clear hown4 hk4)
      | (refine cE (by rfl) (.tmp 24) (.tmp 26) 25 (by rfl) wr.heap.size 9 i1 Tryz.underlying25 ki kz0 kz1 kz2 av3 k cv3 (([]:List Bs)++ps.take k) (by rfl) (aG O3.out (aC w3 (.cells #[.string (str p)] 9))) (some ⟨w3.heap.size,0,none⟩) 1 1 [p] (by rfl) rfl (fP w3 p) (k+1) rfl hm1 hm1' (aB BW3.out (aC w3 (.cells #[.string (str p)] 9))).size ?_;intro av4 cv4 w4 hown4 hk4;have BW4:=aA (eM (aB BW3.out (aC w3 (.cells #[.string (str p)] 9))) hk4 O3.out);have O4:=aA hown4;clear hown4 hk4)
      | (refine cE (by rfl) (.tmp 27) (.tmp 30) 25 (by rfl) wr.heap.size 9 i1 Tryz.underlying25 ki kz0 kz1 kz2 av4 (k+1) cv4 ((([]:List Bs)++ps.take k) ++ [p]) (by rfl) O4.out (some ⟨g,0,none⟩) 0 0 (ps.drop k) (by rfl) hdk.out (RD.out _ BW4.out) (ps.length+1) hN3.out hm2 hm2' BW4.out.size ?_;intro av5 cv5 w5 hown5 hk5;have BW5:=aA (eM BW4.out hk5 O4.out);have O5:=aA hown5;clear hown5 hk5)))
    all_goals
     go_wp2_with fail
     go_ret
     exact ⟨av5,cv5,by rw[HLen.out];rfl,by rw[HLen.out];exact xI O5.out HPut.out HLen.out,BW5.out⟩
   ·have hck2:¬ c=k:=hck
    have HPut:=aA (show gC ps p=ps.take k++p :: ps.drop k from by unfold gC;rw[HLk.out])
    have HLen:=aA (rA ps p);have BSA:Hid (Below wr.heap.size wr ((wr.alloc (.cells #[] 9)).drew)):=aA (aC wr _).drew;have BSB:Hid (Below wr.heap.size wr (((wr.alloc (.cells #[] 9)).alloc (.cells #[.string (str p)] 9)).drew)):=aA (aB (aC wr _) (aC _ _)).drew;have BSC:Hid (Below wr.heap.size wr (((wr.alloc (.cells #[.string (str p)] 9)).alloc (.cells #[] 9)).drew)):=aA (aB (aC wr _) (aC _ _)).drew;have OA:Hid (((wr.alloc (.cells #[] 9)).drew).ownsRow wr.heap.size 9 1 (.slice (some ⟨wr.heap.size,0,none⟩) 0 0) 0 (([]:List Bs).map vS)):=aA (fF wr)
    have OB:Hid ((((wr.alloc (.cells #[] 9)).alloc (.cells #[.string (str p)] 9)).drew).ownsRow wr.heap.size 9 1 (.slice (some ⟨wr.heap.size,0,none⟩) 0 0) 0 (([]:List Bs).map vS)):=aA (aG (fF wr) (aC _ _).drew);have OC:Hid ((((wr.alloc (.cells #[.string (str p)] 9)).alloc (.cells #[] 9)).drew).ownsRow wr.heap.size 9 1 (.slice (some ⟨wr.heap.size+1,0,none⟩) 0 0) 0 (([]:List Bs).map vS)):=aA (by have:=fF (wr.alloc (.cells #[.string (str p)] 9));rw[show (wr.alloc (.cells #[.string (str p)] 9)).heap.size=wr.heap.size+1 by simp]at this;exact aS this (by omega))
    have RNB:Hid (bM (((wr.alloc (.cells #[] 9)).alloc (.cells #[.string (str p)] 9)).drew) (some ⟨wr.heap.size+1,0,none⟩) [p]):=aA (by have:=fP (wr.alloc (.cells #[] 9)) p;rw[show (wr.alloc (.cells #[] 9)).heap.size=wr.heap.size+1 by simp]at this;exact this)
    have RNC:Hid (bM (((wr.alloc (.cells #[.string (str p)] 9)).alloc (.cells #[] 9)).drew) (some ⟨wr.heap.size,0,none⟩) [p]):=aA ((fP wr p).below (aC _ _).drew);have HNB:Hid (wr.heap.size+1≠wr.heap.size):=aA (by omega)
    have HNC:Hid (wr.heap.size≠wr.heap.size+1):=aA (by omega)
    have HBA:Hid (wr.heap.size≤wr.heap.size):=aA (Nat.le_refl _);have HBB:Hid (wr.heap.size≤wr.heap.size):=aA (Nat.le_refl _);have HBC:Hid (wr.heap.size≤wr.heap.size+1):=aA (by omega)
    have htk:Hid ((ps.take k).length=k):=aA (by rw[List.length_take];omega)
    have hk00:Hid (0+k=k):=aA (by omega)
    have hdk:Hid ((ps.drop k).length=(ps.length - k)):=aA (by rw[List.length_drop])
    have hN3:Hid (k+1+(ps.length - k)=ps.length+1):=aA (by omega)
    have RTA:Hid (bM ((wr.alloc (.cells #[] 9)).drew) (some ⟨g,0,none⟩) (ps.take k)):=aA ((HR.out.below BSA.out).take k);have RTB:Hid (bM (((wr.alloc (.cells #[] 9)).alloc (.cells #[.string (str p)] 9)).drew) (some ⟨g,0,none⟩) (ps.take k)):=aA ((HR.out.below BSB.out).take k);have RTC:Hid (bM (((wr.alloc (.cells #[.string (str p)] 9)).alloc (.cells #[] 9)).drew) (some ⟨g,0,none⟩) (ps.take k)):=aA ((HR.out.below BSC.out).take k);have RD:Hid (∀ u:World,Below wr.heap.size wr u→bM u (some ⟨g,k,none⟩) (ps.drop k)):=aA (fun u hu=>(HR.out.below hu).drop k)
    have hm0:0+k≤maxLen:=by unfold maxLen;omega
    have hm0':(0+k) * 16≤140737488355328:=by omega
    have hm1:k+1≤maxLen:=by unfold maxLen;omega
    have hm1':(k+1) * 16≤140737488355328:=by omega
    have hm2:k+1+(ps.length - k)≤maxLen:=by unfold maxLen;omega
    have hm2':(k+1+(ps.length - k)) * 16≤140737488355328:=by omega
    go_wp2_with fail
    go_region_law
     ((
      first
      | (refine cE (by rfl) (.tmp 20) (.tmp 23) 25 (by rfl) wr.heap.size 9 i1 Tryz.underlying25 ki kz0 kz1 kz2 (some ⟨wr.heap.size+1,0,none⟩) 0 0 [] (by rfl) OC.out (some ⟨g,0,none⟩) k c (ps.take k) (by rfl) htk.out RTC.out k hk00.out hm0 hm0' BSC.out.size ?_;intro av3 cv3 w3 hown3 hk3;have RN3:=aA (jU hk3 HNC.out RNC.out);have BW3:=aA (iF BSC.out hk3 HBC.out);have O3:=aA hown3;clear hown3 hk3)
      | (refine cE (by rfl) (.tmp 20) (.tmp 23) 25 (by rfl) wr.heap.size 9 i1 Tryz.underlying25 ki kz0 kz1 kz2 (some ⟨wr.heap.size,0,none⟩) 0 0 [] (by rfl) OB.out (some ⟨g,0,none⟩) k c (ps.take k) (by rfl) htk.out RTB.out k hk00.out hm0 hm0' BSB.out.size ?_;intro av3 cv3 w3 hown3 hk3;have RN3:=aA (jU hk3 HNB.out RNB.out);have BW3:=aA (iF BSB.out hk3 HBB.out);have O3:=aA hown3;clear hown3 hk3)
      | (refine cE (by rfl) (.tmp 20) (.tmp 23) 25 (by rfl) wr.heap.size 9 i1 Tryz.underlying25 ki kz0 kz1 kz2 (some ⟨wr.heap.size,0,none⟩) 0 0 [] (by rfl) OA.out (some ⟨g,0,none⟩) k c (ps.take k) (by rfl) htk.out RTA.out k hk00.out hm0 hm0' BSA.out.size ?_;intro av3 cv3 w3 hown3 hk3;have BW3:=aA (iF BSA.out hk3 HBA.out);have O3:=aA hown3;clear hown3 hk3)
      | (refine cE (by rfl) (.tmp 24) (.tmp 26) 25 (by rfl) wr.heap.size 9 i1 Tryz.underlying25 ki kz0 kz1 kz2 av3 k cv3 (([]:List Bs)++ps.take k) (by rfl) O3.out (some ⟨wr.heap.size,0,none⟩) 1 1 [p] (by rfl) rfl RN3.out (k+1) rfl hm1 hm1' BW3.out.size ?_;intro av4 cv4 w4 hown4 hk4;have BW4:=aA (eM BW3.out hk4 O3.out);have O4:=aA hown4;clear hown4 hk4)
      | (refine cE (by rfl) (.tmp 24) (.tmp 26) 25 (by rfl) wr.heap.size 9 i1 Tryz.underlying25 ki kz0 kz1 kz2 av3 k cv3 (([]:List Bs)++ps.take k) (by rfl) O3.out (some ⟨wr.heap.size+1,0,none⟩) 1 1 [p] (by rfl) rfl RN3.out (k+1) rfl hm1 hm1' BW3.out.size ?_;intro av4 cv4 w4 hown4 hk4;have BW4:=aA (eM BW3.out hk4 O3.out);have O4:=aA hown4;clear hown4 hk4)
      | (refine cE (by rfl) (.tmp 24) (.tmp 26) 25 (by rfl) wr.heap.size 9 i1 Tryz.underlying25 ki kz0 kz1 kz2 av3 k cv3 (([]:List Bs)++ps.take k) (by rfl) (aG O3.out (aC w3 (.cells #[.string (str p)] 9))) (some ⟨w3.heap.size,0,none⟩) 1 1 [p] (by rfl) rfl (fP w3 p) (k+1) rfl hm1 hm1' (aB BW3.out (aC w3 (.cells #[.string (str p)] 9))).size ?_;intro av4 cv4 w4 hown4 hk4;have BW4:=aA (eM (aB BW3.out (aC w3 (.cells #[.string (str p)] 9))) hk4 O3.out);have O4:=aA hown4;clear hown4 hk4)
      | (refine cE (by rfl) (.tmp 27) (.tmp 30) 25 (by rfl) wr.heap.size 9 i1 Tryz.underlying25 ki kz0 kz1 kz2 av4 (k+1) cv4 ((([]:List Bs)++ps.take k) ++ [p]) (by rfl) O4.out (some ⟨g,k,none⟩) (ps.length - k) (c - k) (ps.drop k) (by rfl) hdk.out (RD.out _ BW4.out) (ps.length+1) hN3.out hm2 hm2' BW4.out.size ?_;intro av5 cv5 w5 hown5 hk5;have BW5:=aA (eM BW4.out hk5 O4.out);have O5:=aA hown5;clear hown5 hk5)))
    all_goals
     go_wp2_with fail
     go_ret
     exact ⟨av5,cv5,by rw[HLen.out];rfl,by rw[HLen.out];exact xI O5.out HPut.out HLen.out,BW5.out⟩
theorem zcf (p:Bs) (w:World) :
  Calls Tryz.prog 278 #[.slice none 0 0,.string (str p)] w fun r w'=>∃ av cv,r=.returned (.slice av (gC [] p).length cv)∧cJ w.heap.size w' (.slice av (gC [] p).length cv) (gC [] p)∧Below w.heap.size w w':=by
 obtain ⟨i1,ki,kz0,kz1,kz2⟩:=info_parts rK;obtain ⟨ps,hps⟩:∃ ps:List Bs,ps=[]:=⟨_,rfl⟩;obtain ⟨k,hk⟩:∃ k:Nat,k=0:=⟨_,rfl⟩;rw[←hps];have hpl:ps.length=0:=by rw[hps];rfl
 have HLk:=aA (show tT ps p=k from by rw[hps,hk];rfl)
 have HR:=aA (show bM w none ps from by rw[hps];exact bM.nil _ _)
 clear hps;have HPut:=aA (show gC ps p=ps.take k++p :: ps.drop k from by unfold gC;rw[HLk.out])
 have HLen:=aA (rA ps p);have BSA:Hid (Below w.heap.size w ((w.alloc (.cells #[] 9)).drew)):=aA (aC w _).drew;have BSB:Hid (Below w.heap.size w (((w.alloc (.cells #[] 9)).alloc (.cells #[.string (str p)] 9)).drew)):=aA (aB (aC w _) (aC _ _)).drew;have BSC:Hid (Below w.heap.size w (((w.alloc (.cells #[.string (str p)] 9)).alloc (.cells #[] 9)).drew)):=aA (aB (aC w _) (aC _ _)).drew;have OA:Hid (((w.alloc (.cells #[] 9)).drew).ownsRow w.heap.size 9 1 (.slice (some ⟨w.heap.size,0,none⟩) 0 0) 0 (([]:List Bs).map vS)):=aA (fF w)
 have OB:Hid ((((w.alloc (.cells #[] 9)).alloc (.cells #[.string (str p)] 9)).drew).ownsRow w.heap.size 9 1 (.slice (some ⟨w.heap.size,0,none⟩) 0 0) 0 (([]:List Bs).map vS)):=aA (aG (fF w) (aC _ _).drew);have OC:Hid ((((w.alloc (.cells #[.string (str p)] 9)).alloc (.cells #[] 9)).drew).ownsRow w.heap.size 9 1 (.slice (some ⟨w.heap.size+1,0,none⟩) 0 0) 0 (([]:List Bs).map vS)):=aA (by have:=fF (w.alloc (.cells #[.string (str p)] 9));rw[show (w.alloc (.cells #[.string (str p)] 9)).heap.size=w.heap.size+1 by simp]at this;exact aS this (by omega))
 have RNB:Hid (bM (((w.alloc (.cells #[] 9)).alloc (.cells #[.string (str p)] 9)).drew) (some ⟨w.heap.size+1,0,none⟩) [p]):=aA (by have:=fP (w.alloc (.cells #[] 9)) p;rw[show (w.alloc (.cells #[] 9)).heap.size=w.heap.size+1 by simp]at this;exact this)
 have RNC:Hid (bM (((w.alloc (.cells #[.string (str p)] 9)).alloc (.cells #[] 9)).drew) (some ⟨w.heap.size,0,none⟩) [p]):=aA ((fP w p).below (aC _ _).drew);have HNB:Hid (w.heap.size+1≠w.heap.size):=aA (by omega)
 have HNC:Hid (w.heap.size≠w.heap.size+1):=aA (by omega)
 have HBA:Hid (w.heap.size≤w.heap.size):=aA (Nat.le_refl _);have HBB:Hid (w.heap.size≤w.heap.size):=aA (Nat.le_refl _);have HBC:Hid (w.heap.size≤w.heap.size+1):=aA (by omega)
 have htk:Hid ((ps.take k).length=0):=aA (by rw[List.length_take];omega)
 have hk00:Hid (0+0=0):=aA (by omega)
 have hdk:Hid ((ps.drop k).length=0):=aA (by rw[List.length_drop];omega)
 have hN3:Hid (0+1+0=ps.length+1):=aA (by omega)
 have RTA:Hid (bM ((w.alloc (.cells #[] 9)).drew) none (ps.take k)):=aA ((HR.out.below BSA.out).take k);have RTB:Hid (bM (((w.alloc (.cells #[] 9)).alloc (.cells #[.string (str p)] 9)).drew) none (ps.take k)):=aA ((HR.out.below BSB.out).take k);have RTC:Hid (bM (((w.alloc (.cells #[.string (str p)] 9)).alloc (.cells #[] 9)).drew) none (ps.take k)):=aA ((HR.out.below BSC.out).take k);have RD:Hid (∀ u:World,Below w.heap.size w u→bM u none (ps.drop k)):=aA (fun u hu=>by rw[List.drop_eq_nil_of_le (by omega)];exact bM.nil _ _)
 have hm0:0+0≤maxLen:=by unfold maxLen;omega
 have hm0':(0+0) * 16≤140737488355328:=by omega
 have hm1:0+1≤maxLen:=by unfold maxLen;omega
 have hm1':(0+1) * 16≤140737488355328:=by omega
 have hm2:0+1+0≤maxLen:=by unfold maxLen;omega
 have hm2':(0+1+0) * 16≤140737488355328:=by omega
 rw[hk]at *;clear hk hpl;go_enter Tryz.func278,Tryz.ntmps278;go_wp2_with fail
 go_loopw [5] (fun i w9=>i=.int .i64 0∧w9=w) (fun _ _=>0)
 case atStart=>exact ⟨rfl,rfl⟩
 case round =>
  obtain ⟨rfl,hw9⟩:=hrel;subst hw9;go_wp2_with fail
  go_region_law
   ((
    first
    | (refine cE (by rfl) (.tmp 20) (.tmp 23) 25 (by rfl) wr.heap.size 9 i1 Tryz.underlying25 ki kz0 kz1 kz2 (some ⟨wr.heap.size+1,0,none⟩) 0 0 [] (by rfl) OC.out none 0 0 (ps.take 0) (by rfl) htk.out RTC.out 0 rfl hm0 hm0' BSC.out.size ?_;intro av3 cv3 w3 hown3 hk3;have RN3:=aA (jU hk3 HNC.out RNC.out);have BW3:=aA (iF BSC.out hk3 HBC.out);have O3:=aA hown3;clear hown3 hk3)
    | (refine cE (by rfl) (.tmp 20) (.tmp 23) 25 (by rfl) wr.heap.size 9 i1 Tryz.underlying25 ki kz0 kz1 kz2 (some ⟨wr.heap.size,0,none⟩) 0 0 [] (by rfl) OB.out none 0 0 (ps.take 0) (by rfl) htk.out RTB.out 0 rfl hm0 hm0' BSB.out.size ?_;intro av3 cv3 w3 hown3 hk3;have RN3:=aA (jU hk3 HNB.out RNB.out);have BW3:=aA (iF BSB.out hk3 HBB.out);have O3:=aA hown3;clear hown3 hk3)
    | (refine cE (by rfl) (.tmp 20) (.tmp 23) 25 (by rfl) wr.heap.size 9 i1 Tryz.underlying25 ki kz0 kz1 kz2 (some ⟨wr.heap.size,0,none⟩) 0 0 [] (by rfl) OA.out none 0 0 (ps.take 0) (by rfl) htk.out RTA.out 0 rfl hm0 hm0' BSA.out.size ?_;intro av3 cv3 w3 hown3 hk3;have BW3:=aA (iF BSA.out hk3 HBA.out);have O3:=aA hown3;clear hown3 hk3)
    | (refine cE (by rfl) (.tmp 24) (.tmp 26) 25 (by rfl) wr.heap.size 9 i1 Tryz.underlying25 ki kz0 kz1 kz2 av3 0 cv3 (([]:List Bs)++ps.take 0) (by rfl) O3.out (some ⟨wr.heap.size,0,none⟩) 1 1 [p] (by rfl) rfl RN3.out (0+1) rfl hm1 hm1' BW3.out.size ?_;intro av4 cv4 w4 hown4 hk4;have BW4:=aA (eM BW3.out hk4 O3.out);have O4:=aA hown4;clear hown4 hk4)
    | (refine cE (by rfl) (.tmp 24) (.tmp 26) 25 (by rfl) wr.heap.size 9 i1 Tryz.underlying25 ki kz0 kz1 kz2 av3 0 cv3 (([]:List Bs)++ps.take 0) (by rfl) O3.out (some ⟨wr.heap.size+1,0,none⟩) 1 1 [p] (by rfl) rfl RN3.out (0+1) rfl hm1 hm1' BW3.out.size ?_;intro av4 cv4 w4 hown4 hk4;have BW4:=aA (eM BW3.out hk4 O3.out);have O4:=aA hown4;clear hown4 hk4)
    | (refine cE (by rfl) (.tmp 24) (.tmp 26) 25 (by rfl) wr.heap.size 9 i1 Tryz.underlying25 ki kz0 kz1 kz2 av3 0 cv3 (([]:List Bs)++ps.take 0) (by rfl) (aG O3.out (aC w3 (.cells #[.string (str p)] 9))) (some ⟨w3.heap.size,0,none⟩) 1 1 [p] (by rfl) rfl (fP w3 p) (0+1) rfl hm1 hm1' (aB BW3.out (aC w3 (.cells #[.string (str p)] 9))).size ?_;intro av4 cv4 w4 hown4 hk4;have BW4:=aA (eM (aB BW3.out (aC w3 (.cells #[.string (str p)] 9))) hk4 O3.out);have O4:=aA hown4;clear hown4 hk4)
    | (refine cE (by rfl) (.tmp 27) (.tmp 30) 25 (by rfl) wr.heap.size 9 i1 Tryz.underlying25 ki kz0 kz1 kz2 av4 (0+1) cv4 ((([]:List Bs)++ps.take 0) ++ [p]) (by rfl) O4.out none 0 0 (ps.drop 0) (by rfl) hdk.out (RD.out _ BW4.out) (ps.length+1) hN3.out hm2 hm2' BW4.out.size ?_;intro av5 cv5 w5 hown5 hk5;have BW5:=aA (eM BW4.out hk5 O4.out);have O5:=aA hown5;clear hown5 hk5)))
  all_goals
   go_wp2_with fail
   go_ret
   exact ⟨av5,cv5,by rw[HLen.out];rfl,by rw[HLen.out];exact xI O5.out HPut.out HLen.out,BW5.out⟩
theorem zbf (a:Option Addr) (c n:Nat) (ps:List Bs) (p:Bs) (w:World) {B:Nat} (h:cJ B w (.slice a n c) ps) (hn:n=ps.length) (hl:ps.length≤1048576) :
  Calls Tryz.prog 278 #[.slice a n c,.string (str p)] w fun r w'=>∃ av cv,r=.returned (.slice av (gC ps p).length cv)∧cJ w.heap.size w' (.slice av (gC ps p).length cv) (gC ps p)∧Below w.heap.size w w':=by
 subst hn;have hr:=h.reads;have hc:=h.cap rfl;rcases h.2 with ⟨h',hh⟩ | ⟨g,cap,cur,h',-⟩
 ·simp only[Value.slice.injEq]at h'
  obtain ⟨rfl,h0,rfl⟩:=h';obtain rfl:ps=[]:=List.eq_nil_of_length_eq_zero h0;exact zcf p w
 ·simp only[Value.slice.injEq,true_and]at h'
  obtain ⟨rfl,rfl⟩:=h';exact zlc g c ps p w hr hc hl
end Go.Proofs.YtgaeikgoknoamaaGreat
