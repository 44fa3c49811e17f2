/-
  Texts put together: OvrN OvrH OvrJ MntC AppAt.
-/
import Derived.Test.YtgaeikgoknoamaaGreatKKeeps7
import Derived.Test.YtgaeikgoknoamaaGreatKKeeps17
import Derived.Test.YtgaeikgoknoamaaGreatKKeeps8
import Derived.Test.YtgaeikgoknoamaaGreatKKeeps18
import Derived.Test.YtgaeikgoknoamaaGreatKKeeps10
import Derived.Test.YtgaeikgoknoamaaGreatKKeeps12
import Derived.Test.YtgaeikgoknoamaaGreatKKeeps1
import Derived.Maps.AppendAt
set_option linter.unusedVariables false
set_option maxHeartbeats 12800000
set_option maxRecDepth 100000
namespace Go.Proofs.YtgaeikgoknoamaaGreat
open Go.RowKit Go.Maps
attribute [local go_sem ↓] Go.wp_at_zero Go.wp_at_succ
theorem zd6 (a:Option Addr) (c n:Nat) (es:List En) (p:Bs) (w:World) (h:RdE w a es) (hn:n=es.length) (hl:es.length≤1048576) (hp:aF p=0) (hpl:p.length≤1048576) (ha:atE es p=none) :
  Calls Tryz.prog 276 #[.slice a n c,.string (str p)] w fun r w'=>r=.returned (.int .i64 (eY es p))∧Below w.heap.size w w':=by
 subst hn;have HOV:=aA (tP a c es.length es p w h rfl hl hp hpl);have HAT:Hid (∀ w',Below w.heap.size w w'→Calls Tryz.prog 189 #[.slice a es.length c,.string (str p)] w' fun r w2=>r=.returned (.int .i64 (-1))∧w2=w'):=aA (fun w' hb=>by have h1:=iI a c es.length es p w' (h.below hb) rfl hl;rw[ha]at h1;exact h1)
 have h0:p≠[]:=by intro e;rw[e]at hp;simp[aF]at hp
 have hs0:((str p).toList == [])=false:=by rw[aN];simp[h0]
 have hrk:=rS (gV ha);clear h ha h0;rcases qF es (bL p) with ho | ho | ho
 ·have HZ:=aA (show eY es p=0 by simp[eY,ho,hrk])
  rw[ho]at HOV;clear ho hrk hp;go_enter Tryz.func276,Tryz.ntmps276;go_wp2_with fail
  refine HOV.out.mono ?_;rintro r w1 ⟨rfl,hb1⟩;have B1:=aA hb1;clear hb1;go_wp2_with fail
  refine (HAT.out w1 B1.out).mono ?_;rintro r w2 ⟨rfl,rfl⟩;go_wp2_with fail
  go_ret
  exact ⟨by rw[HZ.out];rfl,B1.out⟩
 ·have HZ:=aA (show eY es p=1 by simp[eY,ho,hrk])
  rw[ho]at HOV;clear ho hrk hp;go_enter Tryz.func276,Tryz.ntmps276;go_wp2_with fail
  refine HOV.out.mono ?_;rintro r w1 ⟨rfl,hb1⟩;have B1:=aA hb1;clear hb1;go_wp2_with fail
  refine (HAT.out w1 B1.out).mono ?_;rintro r w2 ⟨rfl,rfl⟩;go_wp2_with fail
  go_ret
  exact ⟨by rw[HZ.out];rfl,B1.out⟩
 ·have HZ:=aA (show eY es p=2 by simp[eY,ho,hrk])
  rw[ho]at HOV;clear ho hrk hp;go_enter Tryz.func276,Tryz.ntmps276;go_wp2_with fail
  refine HOV.out.mono ?_;rintro r w1 ⟨rfl,hb1⟩;have B1:=aA hb1;clear hb1;go_wp2_with fail
  refine (HAT.out w1 B1.out).mono ?_;rintro r w2 ⟨rfl,rfl⟩;go_wp2_with fail
  go_ret
  exact ⟨by rw[HZ.out];rfl,B1.out⟩
theorem ze6 (a:Option Addr) (c n:Nat) (es:List En) (p:Bs) (m:Nat) (w:World) (h:RdE w a es) (hn:n=es.length) (hl:es.length≤1048576) (hRi:aV es) (hp:aF p=0) (hpl:p.length≤1048576) (ha:atE es p=some m) :
  Calls Tryz.prog 276 #[.slice a n c,.string (str p)] w fun r w'=>r=.returned (.int .i64 (eY es p))∧Below w.heap.size w w':=by
 subst hn;have HOV:=aA (tP a c es.length es p w h rfl hl hp hpl);have HAT:Hid (∀ w',Below w.heap.size w w'→Calls Tryz.prog 189 #[.slice a es.length c,.string (str p)] w' fun r w2=>r=.returned (.int .i64 m)∧w2=w'):=aA (fun w' hb=>by have h1:=iI a c es.length es p w' (h.below hb) rfl hl;rw[ha]at h1;exact h1)
 have h0:p≠[]:=by intro e;rw[e]at hp;simp[aF]at hp
 have hs0:((str p).toList == [])=false:=by rw[aN];simp[h0]
 obtain ⟨e,he,hf⟩:=lC ha;have hm:=oT ha;obtain ⟨bb,off2,e',x,cc,rfl,hb2,he',c0,c1,c2,c3,hr⟩:=h.at hm;have:e'=e:=Option.some.inj (he'.symm.trans he);subst this;have hkk:=mV (hRi.ent e' (List.mem_of_getElem? he));have hk0:¬ (m:Int)<0:=by omega
 have hk2:(0:Int)≤(m:Int):=by omega
 have hk1:(m:Int)<(es.length:Int):=by omega
 clear h ha h0 he he' hr c0 c2 c3 hRi;rcases hkk with hk | hk | hk | hk <;> rcases qF es (bL p) with ho | ho | ho
 ·have HZ:=aA (show eY es p=2 by simp[eY,ho,cU,hf,hk])
  rw[ho]at HOV;rw[hk]at c1;clear ho hk hp hf;go_enter Tryz.func276,Tryz.ntmps276;go_wp2_with fail
  refine HOV.out.mono ?_;rintro r w1 ⟨rfl,hb1⟩;have B1:=aA hb1;have c1':=(hb1.cell (p:=⟨bb,off2+m * 4+1,none⟩) hb2).trans c1;clear hb1 c1;go_wp2_with fail
  refine (HAT.out w1 B1.out).mono ?_;rintro r w2 ⟨rfl,rfl⟩;go_wp2_with (go_at_call 190;refine (cX _ _ 1 _ c1').mono ?_;rintro r w3 ⟨rfl,rfl⟩;rw[show bX 1=false from rfl])
  go_ret
  exact ⟨by rw[HZ.out];rfl,B1.out⟩
 ·have HZ:=aA (show eY es p=2 by simp[eY,ho,cU,hf,hk])
  rw[ho]at HOV;rw[hk]at c1;clear ho hk hp hf;go_enter Tryz.func276,Tryz.ntmps276;go_wp2_with fail
  refine HOV.out.mono ?_;rintro r w1 ⟨rfl,hb1⟩;have B1:=aA hb1;have c1':=(hb1.cell (p:=⟨bb,off2+m * 4+1,none⟩) hb2).trans c1;clear hb1 c1;go_wp2_with fail
  refine (HAT.out w1 B1.out).mono ?_;rintro r w2 ⟨rfl,rfl⟩;go_wp2_with (go_at_call 190;refine (cX _ _ 1 _ c1').mono ?_;rintro r w3 ⟨rfl,rfl⟩;rw[show bX 1=false from rfl])
  go_ret
  exact ⟨by rw[HZ.out];rfl,B1.out⟩
 ·have HZ:=aA (show eY es p=2 by simp[eY,ho,cU,hf,hk])
  rw[ho]at HOV;rw[hk]at c1;clear ho hk hp hf;go_enter Tryz.func276,Tryz.ntmps276;go_wp2_with fail
  refine HOV.out.mono ?_;rintro r w1 ⟨rfl,hb1⟩;have B1:=aA hb1;have c1':=(hb1.cell (p:=⟨bb,off2+m * 4+1,none⟩) hb2).trans c1;clear hb1 c1;go_wp2_with fail
  refine (HAT.out w1 B1.out).mono ?_;rintro r w2 ⟨rfl,rfl⟩;go_wp2_with (go_at_call 190;refine (cX _ _ 1 _ c1').mono ?_;rintro r w3 ⟨rfl,rfl⟩;rw[show bX 1=false from rfl])
  go_ret
  exact ⟨by rw[HZ.out];rfl,B1.out⟩
 ·have HZ:=aA (show eY es p=0 by simp[eY,ho,cU,hf,hk])
  rw[ho]at HOV;rw[hk]at c1;clear ho hk hp hf;go_enter Tryz.func276,Tryz.ntmps276;go_wp2_with fail
  refine HOV.out.mono ?_;rintro r w1 ⟨rfl,hb1⟩;have B1:=aA hb1;have c1':=(hb1.cell (p:=⟨bb,off2+m * 4+1,none⟩) hb2).trans c1;clear hb1 c1;go_wp2_with fail
  refine (HAT.out w1 B1.out).mono ?_;rintro r w2 ⟨rfl,rfl⟩;go_wp2_with (go_at_call 190;refine (cX _ _ 2 _ c1').mono ?_;rintro r w3 ⟨rfl,rfl⟩;rw[show bX 2=true from rfl])
  go_ret
  exact ⟨by rw[HZ.out];rfl,B1.out⟩
 ·have HZ:=aA (show eY es p=1 by simp[eY,ho,cU,hf,hk])
  rw[ho]at HOV;rw[hk]at c1;clear ho hk hp hf;go_enter Tryz.func276,Tryz.ntmps276;go_wp2_with fail
  refine HOV.out.mono ?_;rintro r w1 ⟨rfl,hb1⟩;have B1:=aA hb1;have c1':=(hb1.cell (p:=⟨bb,off2+m * 4+1,none⟩) hb2).trans c1;clear hb1 c1;go_wp2_with fail
  refine (HAT.out w1 B1.out).mono ?_;rintro r w2 ⟨rfl,rfl⟩;go_wp2_with (go_at_call 190;refine (cX _ _ 2 _ c1').mono ?_;rintro r w3 ⟨rfl,rfl⟩;rw[show bX 2=true from rfl])
  go_ret
  exact ⟨by rw[HZ.out];rfl,B1.out⟩
 ·have HZ:=aA (show eY es p=2 by simp[eY,ho,cU,hf,hk])
  rw[ho]at HOV;rw[hk]at c1;clear ho hk hp hf;go_enter Tryz.func276,Tryz.ntmps276;go_wp2_with fail
  refine HOV.out.mono ?_;rintro r w1 ⟨rfl,hb1⟩;have B1:=aA hb1;have c1':=(hb1.cell (p:=⟨bb,off2+m * 4+1,none⟩) hb2).trans c1;clear hb1 c1;go_wp2_with fail
  refine (HAT.out w1 B1.out).mono ?_;rintro r w2 ⟨rfl,rfl⟩;go_wp2_with (go_at_call 190;refine (cX _ _ 2 _ c1').mono ?_;rintro r w3 ⟨rfl,rfl⟩;rw[show bX 2=true from rfl])
  go_ret
  exact ⟨by rw[HZ.out];rfl,B1.out⟩
 ·have HZ:=aA (show eY es p=2 by simp[eY,ho,cU,hf,hk])
  rw[ho]at HOV;rw[hk]at c1;clear ho hk hp hf;go_enter Tryz.func276,Tryz.ntmps276;go_wp2_with fail
  refine HOV.out.mono ?_;rintro r w1 ⟨rfl,hb1⟩;have B1:=aA hb1;have c1':=(hb1.cell (p:=⟨bb,off2+m * 4+1,none⟩) hb2).trans c1;clear hb1 c1;go_wp2_with fail
  refine (HAT.out w1 B1.out).mono ?_;rintro r w2 ⟨rfl,rfl⟩;go_wp2_with (go_at_call 190;refine (cX _ _ 3 _ c1').mono ?_;rintro r w3 ⟨rfl,rfl⟩;rw[show bX 3=false from rfl])
  go_ret
  exact ⟨by rw[HZ.out];rfl,B1.out⟩
 ·have HZ:=aA (show eY es p=2 by simp[eY,ho,cU,hf,hk])
  rw[ho]at HOV;rw[hk]at c1;clear ho hk hp hf;go_enter Tryz.func276,Tryz.ntmps276;go_wp2_with fail
  refine HOV.out.mono ?_;rintro r w1 ⟨rfl,hb1⟩;have B1:=aA hb1;have c1':=(hb1.cell (p:=⟨bb,off2+m * 4+1,none⟩) hb2).trans c1;clear hb1 c1;go_wp2_with fail
  refine (HAT.out w1 B1.out).mono ?_;rintro r w2 ⟨rfl,rfl⟩;go_wp2_with (go_at_call 190;refine (cX _ _ 3 _ c1').mono ?_;rintro r w3 ⟨rfl,rfl⟩;rw[show bX 3=false from rfl])
  go_ret
  exact ⟨by rw[HZ.out];rfl,B1.out⟩
 ·have HZ:=aA (show eY es p=2 by simp[eY,ho,cU,hf,hk])
  rw[ho]at HOV;rw[hk]at c1;clear ho hk hp hf;go_enter Tryz.func276,Tryz.ntmps276;go_wp2_with fail
  refine HOV.out.mono ?_;rintro r w1 ⟨rfl,hb1⟩;have B1:=aA hb1;have c1':=(hb1.cell (p:=⟨bb,off2+m * 4+1,none⟩) hb2).trans c1;clear hb1 c1;go_wp2_with fail
  refine (HAT.out w1 B1.out).mono ?_;rintro r w2 ⟨rfl,rfl⟩;go_wp2_with (go_at_call 190;refine (cX _ _ 3 _ c1').mono ?_;rintro r w3 ⟨rfl,rfl⟩;rw[show bX 3=false from rfl])
  go_ret
  exact ⟨by rw[HZ.out];rfl,B1.out⟩
 ·have HZ:=aA (show eY es p=1 by simp[eY,ho,cU,hf,hk])
  rw[ho]at HOV;rw[hk]at c1;clear ho hk hp hf;go_enter Tryz.func276,Tryz.ntmps276;go_wp2_with fail
  refine HOV.out.mono ?_;rintro r w1 ⟨rfl,hb1⟩;have B1:=aA hb1;have c1':=(hb1.cell (p:=⟨bb,off2+m * 4+1,none⟩) hb2).trans c1;clear hb1 c1;go_wp2_with fail
  refine (HAT.out w1 B1.out).mono ?_;rintro r w2 ⟨rfl,rfl⟩;go_wp2_with (go_at_call 190;refine (cX _ _ 4 _ c1').mono ?_;rintro r w3 ⟨rfl,rfl⟩;rw[show bX 4=true from rfl])
  go_ret
  exact ⟨by rw[HZ.out];rfl,B1.out⟩
 ·have HZ:=aA (show eY es p=1 by simp[eY,ho,cU,hf,hk])
  rw[ho]at HOV;rw[hk]at c1;clear ho hk hp hf;go_enter Tryz.func276,Tryz.ntmps276;go_wp2_with fail
  refine HOV.out.mono ?_;rintro r w1 ⟨rfl,hb1⟩;have B1:=aA hb1;have c1':=(hb1.cell (p:=⟨bb,off2+m * 4+1,none⟩) hb2).trans c1;clear hb1 c1;go_wp2_with fail
  refine (HAT.out w1 B1.out).mono ?_;rintro r w2 ⟨rfl,rfl⟩;go_wp2_with (go_at_call 190;refine (cX _ _ 4 _ c1').mono ?_;rintro r w3 ⟨rfl,rfl⟩;rw[show bX 4=true from rfl])
  go_ret
  exact ⟨by rw[HZ.out];rfl,B1.out⟩
 ·have HZ:=aA (show eY es p=2 by simp[eY,ho,cU,hf,hk])
  rw[ho]at HOV;rw[hk]at c1;clear ho hk hp hf;go_enter Tryz.func276,Tryz.ntmps276;go_wp2_with fail
  refine HOV.out.mono ?_;rintro r w1 ⟨rfl,hb1⟩;have B1:=aA hb1;have c1':=(hb1.cell (p:=⟨bb,off2+m * 4+1,none⟩) hb2).trans c1;clear hb1 c1;go_wp2_with fail
  refine (HAT.out w1 B1.out).mono ?_;rintro r w2 ⟨rfl,rfl⟩;go_wp2_with (go_at_call 190;refine (cX _ _ 4 _ c1').mono ?_;rintro r w3 ⟨rfl,rfl⟩;rw[show bX 4=true from rfl])
  go_ret
  exact ⟨by rw[HZ.out];rfl,B1.out⟩
theorem zv8 (a:Option Addr) (c n:Nat) (es:List En) (p:Bs) (w:World) (h:RdE w a es) (hn:n=es.length) (hl:es.length≤1048576) (hRi:aV es) (hp:aF p=0) (hpl:p.length≤1048576) :
  Calls Tryz.prog 276 #[.slice a n c,.string (str p)] w fun r w'=>r=.returned (.int .i64 (eY es p))∧Below w.heap.size w w':=by
 cases ha:atE es p with
 | none=>exact zd6 a c n es p w h hn hl hp hpl ha
 | some m=>exact ze6 a c n es p m w h hn hl hRi hp hpl ha
theorem zg9 {es:List En} {ups:List Bs} (h:dU es ups=2):∃ u∈ups,cU es u=2:=by
 unfold dU at h;split at h
 ·rename_i h2
  obtain ⟨u,hu,hr⟩:=List.any_eq_true.1 h2;exact ⟨u,hu,of_decide_eq_true hr⟩
 ·split at h <;> omega
theorem zi9 {es:List En} {u:Bs} (h:cU es u=2):∃ d,aK es u=some d∧(d.kind=3∨d.kind=1):=by
 unfold cU at h;cases hf:aK es u with
 | none=>rw[hf]at h;simp at h
 | some d =>
  rw[hf]at h;refine ⟨d,rfl,?_⟩;by_cases hk:d.kind=3∨d.kind=1
  ·exact hk
  ·simp only[hk,if_false]at h
   split at h <;> omega
theorem ze1 {es:List En} (h:aV es) {p:Bs} (hp:aF p=0) {e:En} (he:aK es p=some e):dU es (bL p)≠2:=by
 intro h2;obtain ⟨u,hu,hr⟩:=zg9 h2;obtain ⟨d,hd,hk⟩:=zi9 hr;have hb:iX p u=true:=by simpa [iX] using hu
 rw[lE hp]at hb;obtain ⟨hpu,hbl⟩:=of_decide_eq_true hb;obtain ⟨hem,rfl⟩:=eN he;obtain ⟨d',hd',hpd,hk'⟩:=(jX.1 h).1.up hpu hem hbl;have h3:=eA h.rise hd';rw[hpd,hd]at h3;cases h3
 simp only[bX,decide_eq_true_eq]at hk';omega
theorem zsa {es:List En} (h:aV es) (p:Bs):((bL p).any fun u=>(aK es u).any fun e=>!decide (e.kind=2))=decide (dU es (bL p)≠0):=by
 rw[Bool.eq_iff_iff,decide_eq_true_iff,zlf,List.any_eq_true];constructor
 ·rintro ⟨u,hu,hr⟩
  have:vL es u=true:=hr;rw[zs3 h]at this;exact ⟨u,hu,of_decide_eq_true this⟩
 ·rintro ⟨u,hu,hr⟩
  exact ⟨u,hu,by
           have:vL es u=true:=by rw[zs3 h];exact decide_eq_true hr
           exact this⟩
theorem oH {ls:List (List En)} {m:Nat} {es:List En} (h:ls[m]?=some es) (q:Bs):cY ls m q=aK es q:=by simp[cY,h]
theorem xK {ls:List (List En)} {m:Nat} {es:List En} (h:ls[m]?=some es) (hR:aV es) {p:Bs} (hn:aK es p=none) (ho:dU es (bL p)≠0):dN (cY ls) p (m+1)=none:=by
 refine uI (by rw[oH h];exact hn) ?_
 have:=zsa hR p;rw[decide_eq_true ho]at this;rw[←this];simp only[oH h]
theorem zqa {ls:List (List En)} {m:Nat} {es:List En} (h:ls[m]?=some es) (hR:aV es) {p:Bs} (hn:aK es p=none) (ho:dU es (bL p)=0):dN (cY ls) p (m+1)=dN (cY ls) p m:=by
 refine pE (by rw[oH h];exact hn) ?_
 have:=zsa hR p;rw[decide_eq_false (by omega)]at this
 rw[←this];simp only[oH h]
theorem yJ (a:Option Addr) (c n:Nat) (ls:List (List En)) (p:Bs) (w:World) (h:RdL w a ls) (hn:n=ls.length) (h4:ls.length≤4) (hR:∀ es∈ls,aV es) (hp:aF p=0) (hpl:p.length≤1048576) :
  Calls Tryz.prog 275 #[.slice a n c,.string (str p)] w fun r w'=>r=.returned (.int .i64 (cR (gD ls p)))∧Below w.heap.size w w':=by
 subst hn;have HR:=aA h;have HRi:=aA hR;have HV0:=aA (show gD ls p=dN (cY ls) p ls.length from rW h4)
 have hw1:IntKind.i64.wrap ((ls.length:Int) - 1)=(ls.length:Int) - 1:=by simp[IntKind.wrap,IntKind.signed,IntKind.bits];omega
 clear h hR;generalize hV:gD ls p=V at *;clear hV;go_enter Tryz.func275,Tryz.ntmps275;go_wp2_with fail
 go_loopw [5] (fun i wr=>∃ k:Nat,k≤ls.length∧i=.int .i64 ((k:Int) - 1)∧Hid (V=dN (cY ls) p k)∧Hid (Below w.heap.size w wr)) (fun i _=>(intOf i+1).toNat)
 case atStart=>exact ⟨ls.length,Nat.le_refl _,rfl,HV0,aA (Below.refl _ _)⟩
 case round =>
  obtain ⟨k,hk,hi,HV,HW⟩:=hrel;cases k with
  | zero =>
   rw[show ((0:Nat):Int) - 1 = -1 from rfl]at hi
   subst hi;have HN:=aA (show V=none from HV.out)
   go_wp2_with fail
   go_ret
   exact ⟨by rw[HN.out];rfl,HW.out⟩
  | succ m =>
   rw[show ((m+1:Nat):Int) - 1=(m:Int) from by omega]at hi
   subst hi;have hm0:(0:Int)≤(m:Int):=by omega
   have hm1:(m:Int)<(ls.length:Int):=by omega
   have hm2:IntKind.i64.wrap ((m:Int) - 1)=(m:Int) - 1:=by simp[IntKind.wrap,IntKind.signed,IntKind.bits];omega
   obtain ⟨b,off,es,x,cc,rfl,hb,he,c0,hr⟩:=(HR.out.below HW.out).at (k:=m) (by omega)
   have hRi:=HRi.out es (List.mem_of_getElem? he);have hel:=hRi.len;have HX:=aA he;have HRI:=aA hRi;have HOV:=aA (tP x cc es.length es p wr hr rfl (by omega) hp hpl)
   have HAT:Hid (∀ w',Below wr.heap.size wr w'→Calls Tryz.prog 189 #[.slice x es.length cc,.string (str p)] w' fun r w2=>r=.returned (.int .i64 (cR (atE es p)))∧w2=w'):=aA (fun w' hb'=>iI x cc es.length es p w' (hr.below hb') rfl (by omega))
   have HRE:=aA hr;have KC:Hid (∀ w',Below wr.heap.size wr w'→w'.cell? ⟨b,off+m,none⟩=some (.slice x es.length cc)):=aA (fun w' hb'=>(hb'.cell (p:=⟨b,off+m,none⟩) hb).trans c0)
   clear he hRi hr;cases ha:atE es p with
   | none =>
    have hf:=gV ha;rw[ha]at HAT;have e1:cR none = -1:=rfl;rw[e1]at HAT;clear ha e1;rcases qF es (bL p) with ho | ho | ho
    ·have HN:=aA (HV.out.trans (zqa HX.out HRI.out hf ho))
     rw[ho]at HOV;clear hf ho;go_wp2_with fail
     refine HOV.out.mono ?_;rintro r w1 ⟨rfl,hb1⟩;have B1:=aA hb1;have c1:=KC.out w1 hb1;clear hb1 c0;go_wp2_with fail
     refine (HAT.out w1 B1.out).mono ?_;rintro r w2 ⟨rfl,rfl⟩;go_wp2_with fail
     go_roundw
     case rel=>exact ⟨m,by omega,rfl,HN,aA (aB HW.out B1.out)⟩
     case measure=>simp[intOf]
    ·have HN:=aA (HV.out.trans (xK HX.out HRI.out hf (by omega)))
     rw[ho]at HOV;clear hf ho;go_wp2_with fail
     refine HOV.out.mono ?_;rintro r w1 ⟨rfl,hb1⟩;have B1:=aA hb1;have c1:=KC.out w1 hb1;clear hb1 c0;go_wp2_with fail
     refine (HAT.out w1 B1.out).mono ?_;rintro r w2 ⟨rfl,rfl⟩;go_wp2_with fail
     go_ret
     exact ⟨by rw[HN.out];rfl,aB HW.out B1.out⟩
    ·have HN:=aA (HV.out.trans (xK HX.out HRI.out hf (by omega)))
     rw[ho]at HOV;clear hf ho;go_wp2_with fail
     refine HOV.out.mono ?_;rintro r w1 ⟨rfl,hb1⟩;have B1:=aA hb1;clear hb1 c0;go_wp2_with fail
     go_ret
     exact ⟨by rw[HN.out];rfl,aB HW.out B1.out⟩
   | some q =>
    obtain ⟨e,he,hf⟩:=lC ha;have hq:=oT ha;have hno:=ze1 HRI.out hp hf;have HHit:=aA (HV.out.trans (rC (by rw[oH HX.out];exact hf)))
    rw[ha]at HAT;have e1:cR (some q)=(q:Int):=rfl;rw[e1]at HAT;have hq0:(0:Int)≤(q:Int):=by omega
    have hq1:(q:Int)<(es.length:Int):=by omega
    obtain ⟨bb,off2,e',x',cc',rfl,hb2,he',z0,z1,z2,z3,hr'⟩:=HRE.out.at hq;have:e'=e:=Option.some.inj (he'.symm.trans he);subst this;have KZ:Hid (∀ w',Below wr.heap.size wr w'→w'.cell? ⟨bb,off2+q * 4+1,none⟩=some (.int .i64 e'.kind)):=aA (fun w' hb'=>(hb'.cell (p:=⟨bb,off2+q * 4+1,none⟩) hb2).trans z1)
    have h2:(dU es (bL p)==2)=false:=by simpa using hno
    generalize dU es (bL p)=O at *;clear ha e1 he he' hr' z0 z1 z2 z3 hno hf;by_cases h3:e'.kind=3
    ·rw[if_pos h3]at HHit
     have h3':(e'.kind==3)=true:=by simpa using h3
     clear h3;go_wp2_with fail
     refine HOV.out.mono ?_;rintro r w1 ⟨rfl,hb1⟩;have B1:=aA hb1;have c1:=KC.out w1 hb1;have z1:=KZ.out w1 hb1;clear hb1 c0;go_wp2_with fail
     refine (HAT.out w1 B1.out).mono ?_;rintro r w2 ⟨rfl,rfl⟩;go_wp2_with fail
     go_ret
     exact ⟨by rw[HHit.out];rfl,aB HW.out B1.out⟩
    ·rw[if_neg h3]at HHit
     have h3':(e'.kind==3)=false:=by simpa using h3
     clear h3;go_wp2_with fail
     refine HOV.out.mono ?_;rintro r w1 ⟨rfl,hb1⟩;have B1:=aA hb1;have c1:=KC.out w1 hb1;have z1:=KZ.out w1 hb1;clear hb1 c0;go_wp2_with fail
     refine (HAT.out w1 B1.out).mono ?_;rintro r w2 ⟨rfl,rfl⟩;go_wp2_with fail
     go_ret
     exact ⟨by rw[HHit.out];rfl,aB HW.out B1.out⟩
theorem zlh (a:Option Addr) (c n:Nat) (ps:List Bs) (p:Bs) (w:World) (h:bM w a ps) (hn:n=ps.length) (hl:ps.length≤1048576) :
  Calls Tryz.prog 131 #[.slice a n c,.string (str p)] w fun r w'=>r=.returned (.bool (decide (p∈ps)))∧w'=w:=by
 subst hn;have HR:=aA h;clear h;go_enter Tryz.func131,Tryz.ntmps131;go_wp2_with fail
 go_loopw [5] (fun i wr=>∃ k:Nat,k≤ps.length∧i=.int .i64 k∧wr=w∧Hid (p∉ps.take k)) (fun i _=>ps.length - (intOf i).toNat)
 case atStart=>exact ⟨0,Nat.zero_le _,rfl,rfl,aA (by simp)⟩
 case round =>
  obtain ⟨k,hk,rfl,rfl,HN⟩:=hrel;by_cases hlt:k<ps.length
  ·obtain ⟨b,off,q,rfl,hb,he,c0⟩:=HR.out.at hlt
   have hk0:(0:Int)≤(k:Int):=by omega
   have hk1:(k:Int)<(ps.length:Int):=by omega
   by_cases hq:q=p
   ·have hq2:=kN hq
    have HT:=aA (show decide (p∈ps)=true from decide_eq_true (by rw[←hq];exact List.mem_of_getElem? he))
    clear hq he;go_wp2_with fail
    go_ret
    exact ⟨by rw[HT.out];rfl,rfl⟩
   ·have hq2:=mE hq
    have HT:=aA (show p∉ps.take (k+1) from by
     rw[mZ he];intro hm;rcases List.mem_append.1 hm with hm | hm
     ·exact HN.out hm
     ·simp at hm;exact hq hm.symm)
    clear hq he;go_wp2_with fail
    go_roundw
    case rel=>exact ⟨k+1,by omega,by go_num,(by first | rfl | trivial),HT⟩
    case measure=>simp[intOf];omega
  ·have HT:=aA (show decide (p∈ps)=false from decide_eq_false (by have:=HN.out;rwa [List.take_of_length_le (by omega)]at this))
   go_wp2_with fail
   go_ret
   exact ⟨by rw[HT.out];rfl,rfl⟩
end Go.Proofs.YtgaeikgoknoamaaGreat
namespace Go.Proofs.YtgaeikgoknoamaaGreat
theorem zjk {α:Type} {motive:List α→Prop} (nil:motive []) (snoc:∀ (l:List α) (x:α),motive l→motive (l ++ [x])) (l:List α):motive l:=by
 have h:∀ r:List α,motive r.reverse:=by
  intro r
  induction r with
  | nil=>exact nil
  | cons x r ih=>rw[List.reverse_cons];exact snoc _ _ ih
 have h2:=h l.reverse;rwa [List.reverse_reverse]at h2
theorem zp3 {p:Bs} (h:aF p=0):p=aE p++47 :: cP p:=by
 obtain ⟨ns,hN,hp,hc,-⟩:=fT h;have h1:cP p=tQ ns:=by unfold cP;rw[hc]
 have h2:=znc hN.1;have h3:aE p=bR ns.dropLast:=by
  unfold aE;rw[hc];by_cases hl:1<ns.length
  ·rw[sL hl,List.dropLast_eq_take]
  ·have h4:bJ ns=[]:=List.eq_nil_of_length_eq_zero (by rw[iE];omega)
   have h5:ns.dropLast=[]:=List.eq_nil_of_length_eq_zero (by rw[List.length_dropLast];omega)
   rw[h4,h5];rfl
 rw[h1,h3];have h6:bR ns=bR ns.dropLast++47 :: tQ ns:=by
  conv=>lhs;rw[h2]
  rw[kL];simp[bR]
 rw[←h6];exact hp
theorem zqd:∀ (q a b:Bs),Op.bytesLess (q++a) (q++b)=Op.bytesLess a b
 | [],a,b=>rfl
 | c :: q,a,b=>by
  have:=zqd q a b;simp[Op.bytesLess,this]
def cpB (q x:Bs):Bs:=q++47 :: x
theorem zuk (q a b:Bs):Op.bytesLess (cpB q a) (cpB q b)=Op.bytesLess a b:=by
 unfold cpB;rw[zqd];simp[Op.bytesLess]
theorem zF {e:En} {q:Bs} (h:aF e.path=0) (hq:aE e.path=q):e.path=cpB q (cP e.path):=by
 have:=zp3 h;rw[hq]at this;exact this
def pQ (ns:List Bs):Prop:=ns.Pairwise fun x y=>Op.bytesLess x y=true
def mkE (n:Bs):En:=⟨n,0,0,[]⟩
theorem uE {ns:List Bs}:eL (ns.map mkE)↔pQ ns:=by
 unfold eL pQ;rw[List.pairwise_map];exact Iff.rfl
theorem yM (ns:List Bs):(ns.map mkE).map En.path=ns:=by
 rw[List.map_map]
 conv=>rhs;rw[←List.map_id ns]
 exact List.map_congr_left fun _ _=>rfl
theorem zxf {a b:List Bs} (ha:pQ a) (hb:pQ b) (h:∀ x,x∈a↔x∈b):a=b:=by
 have h1:a.map mkE=b.map mkE:=by
  have hra:=uE.2 ha;have hrb:=uE.2 hb;refine zP hra hrb (fun q=>?_)
  by_cases hq:q∈a
  ·have e1:=eA hra (List.mem_map.2 ⟨q,hq,rfl⟩)
   have e2:=eA hrb (List.mem_map.2 ⟨q,(h q).1 hq,rfl⟩);exact e1.trans e2.symm
  ·have hq2:q∉b:=fun hb=>hq ((h q).2 hb)
   rw[iZ (fun x hx e=>?_),iZ (fun x hx e=>?_)]
   ·obtain ⟨y,hy,rfl⟩:=List.mem_map.1 hx
    exact hq2 (by rw[←e];exact hy)
   ·obtain ⟨y,hy,rfl⟩:=List.mem_map.1 hx
    exact hq (by rw[←e];exact hy)
 rw[←yM a,←yM b,h1]
theorem zoa (ps:List Bs) (p:Bs):(gC ps p).map mkE=gI (ps.map mkE) (mkE p):=by
 have h1:lV (ps.map mkE) p=tT ps p:=by
  unfold lV tT;rw[List.takeWhile_map,List.length_map];rfl
 unfold gC gI;rw[show (mkE p).path=p from rfl,h1]
 simp
theorem zq6 {ps:List Bs} {p x:Bs}:x∈gC ps p↔x=p∨x∈ps:=by
 have h1:mkE x∈(gC ps p).map mkE↔x∈gC ps p:=by
  constructor
  ·intro h
   obtain ⟨y,hy,he⟩:=List.mem_map.1 h;have:y=x:=congrArg En.path he;rw[←this];exact hy
  ·exact fun h=>List.mem_map.2 ⟨x,h,rfl⟩
 rw[←h1,zoa,mW];constructor
 ·rintro (h | h)
  ·exact .inl (congrArg En.path h)
  ·obtain ⟨y,hy,he⟩:=List.mem_map.1 h
   have:y=x:=congrArg En.path he;exact .inr (by rw[←this];exact hy)
 ·rintro (h | h)
  ·exact .inl (by rw[h])
  ·exact .inr (List.mem_map.2 ⟨x,h,rfl⟩)
theorem zyf {ps:List Bs} {p:Bs} (h:pQ ps) (hn:p∉ps):pQ (gC ps p):=by
 rw[←uE,zoa];refine uF (uE.2 h) (fun x hx e=>?_)
 obtain ⟨y,hy,rfl⟩:=List.mem_map.1 hx;have:y=p:=e;exact hn (by rw[←this];exact hy)
theorem zrc {T:List En} (h:Fit T) (q:Bs):pQ (fZ T q):=by
 unfold pQ fZ;rw[List.pairwise_map];have h1:(cO T q).Pairwise (fun x y=>Op.bytesLess x.path y.path=true):=List.Pairwise.filter _ h.rise
 refine h1.imp_of_mem (fun {a b} ha hb hab=>?_)
 have ha':=List.mem_filter.1 ha;have hb':=List.mem_filter.1 hb;rw[zF (h.path ha'.1) (of_decide_eq_true ha'.2),zF (h.path hb'.1) (of_decide_eq_true hb'.2),zuk]at hab;exact hab
def xL (s:List Bs × List Bs) (e:En):List Bs × List Bs :=
 if cP e.path∈s.1 then s else (s.1 ++ [cP e.path],if e.kind=3 then s.2 else gC s.2 (cP e.path))
def eF (D:List En):List Bs × List Bs:=D.foldl xL ([],[])
theorem rV (D:List En) (e:En):eF (D ++ [e])=xL (eF D) e:=by simp[eF]
theorem wM (D:List En):(∀ x,x∈(eF D).1↔∃ e∈D,cP e.path=x)∧(∀ x,x∈(eF D).2↔(D.find? fun e=>decide (cP e.path=x)).any (fun e=>!decide (e.kind=3))=true)∧pQ (eF D).2∧(eF D).1.length≤D.length∧(eF D).2.length≤D.length:=by
 induction D using zjk with
 | nil=>exact ⟨fun x=>by simp[eF],fun x=>by simp[eF],List.Pairwise.nil,Nat.le_refl _,Nat.le_refl _⟩
 | snoc D e ih =>
  obtain ⟨h1,h2,h3,h4,h5⟩:=ih;rw[rV];unfold xL;by_cases hm:cP e.path∈(eF D).1
  ·rw[if_pos hm]
   obtain ⟨d,hd,hdl⟩:=(h1 _).1 hm;refine ⟨fun x=>?_,fun x=>?_,h3,by simp;omega,by simp;omega⟩
   ·rw[h1]
    constructor
    ·rintro ⟨y,hy,hl⟩;exact ⟨y,by simp[hy],hl⟩
    ·rintro ⟨y,hy,hl⟩
     rcases List.mem_append.1 hy with hy | hy
     ·exact ⟨y,hy,hl⟩
     ·simp at hy;subst hy;exact ⟨d,hd,by rw[hdl,hl]⟩
   ·rw[h2,List.find?_append]
    by_cases hx:cP e.path=x
    ·have:(D.find? fun e=>decide (cP e.path=x)).isSome=true:=by
      rw[List.find?_isSome];exact ⟨d,hd,decide_eq_true (by rw[hdl,hx])⟩
     obtain ⟨y,hy⟩:=Option.isSome_iff_exists.1 this;rw[hy];simp
    ·have h7:[e].find? (fun e=>decide (cP e.path=x))=none:=by simp[hx]
     rw[h7];simp
  ·rw[if_neg hm]
   have hno:D.find? (fun y=>decide (cP y.path=cP e.path))=none:=by
    rw[List.find?_eq_none];intro y hy hq;exact hm ((h1 _).2 ⟨y,hy,of_decide_eq_true hq⟩)
   have hno2:cP e.path∉(eF D).2:=fun hq=>by
    rw[h2,hno]at hq;simp at hq
   refine ⟨fun x=>?_,fun x=>?_,?_,by simp;omega,?_⟩
   ·rw[List.mem_append,h1]
    constructor
    ·rintro (⟨y,hy,hl⟩ | hx)
     ·exact ⟨y,by simp[hy],hl⟩
     ·simp at hx;exact ⟨e,by simp,hx.symm⟩
    ·rintro ⟨y,hy,hl⟩
     rcases List.mem_append.1 hy with hy | hy
     ·exact .inl ⟨y,hy,hl⟩
     ·simp at hy;subst hy;exact .inr (by simp[hl])
   ·rw[List.find?_append]
    by_cases hx:cP e.path=x
    ·subst hx
     rw[hno];by_cases h3k:e.kind=3
     ·simp only[h3k,if_true]
      have:¬ cP e.path∈(eF D).2:=hno2;simp[this,h3k]
     ·simp only[h3k,if_false]
      rw[zq6];simp[h3k]
    ·have h7:[e].find? (fun e=>decide (cP e.path=x))=none:=by simp[hx]
     rw[h7,Option.or_none];by_cases h3k:e.kind=3
     ·simp only[h3k,if_true];exact h2 x
     ·simp only[h3k,if_false]
      rw[zq6,h2];constructor
      ·rintro (h8 | h8)
       ·exact absurd h8.symm hx
       ·exact h8
      ·exact .inr
   ·by_cases h3k:e.kind=3
    ·simp only[h3k,if_true];exact h3
    ·simp only[h3k,if_false];exact zyf h3 hno2
   ·by_cases h3k:e.kind=3
    ·simp only[h3k,if_true];simp;omega
    ·simp only[h3k,if_false];rw[rA];simp;omega
def gL (es:List En) (q:Bs):Int:=if q=[] then 0 else eY es q
def fS (ls:List (List En)) (q:Bs):Nat→List En
 | 0=>[]
 | n+1=>match ls[n]? with
  | none=>[]
  | some es=>if gL es q=2 then [] else cO es q++(if gL es q=1 then [] else fS ls q n)
theorem tC {ls:List (List En)} {q:Bs} {n:Nat} {es:List En} (h:ls[n]?=some es) (h2:gL es q=2):fS ls q (n+1)=[]:=by simp[fS,h,h2]
theorem oA {ls:List (List En)} {q:Bs} {n:Nat} {es:List En} (h:ls[n]?=some es) (h1:gL es q=1):fS ls q (n+1)=cO es q:=by simp[fS,h,h1]
theorem qJ {ls:List (List En)} {q:Bs} {n:Nat} {es:List En} (h:ls[n]?=some es) (h2:gL es q≠2) (h1:gL es q≠1):fS ls q (n+1)=cO es q++fS ls q n:=by simp[fS,h,h1,h2]
theorem zb5 {ls:List (List En)} {q:Bs} (h:∀ es∈ls,aV es):∀ n,n≤ls.length→(fS ls q n).length≤12 * n
 | 0,_=>by simp[fS]
 | n+1,hn=>by
  have ih:=zb5 (q:=q) h n (by omega)
  obtain ⟨es,he⟩:∃ es,ls[n]?=some es:=⟨_,List.getElem?_eq_getElem (by omega)⟩
  have h12:=(h es (List.mem_of_getElem? he)).len;have hk:(cO es q).length≤es.length:=List.length_filter_le _ _;by_cases h2:gL es q=2
  ·rw[tC he h2];simp
  ·by_cases h1:gL es q=1
   ·rw[oA he h1];omega
   ·rw[qJ he h2 h1,List.length_append];omega
theorem zc5 {ls:List (List En)} {q:Bs}:∀ {n:Nat} {e:En},e∈fS ls q n→aE e.path=q∧∃ es∈ls,e∈es
 | 0,e,h=>by simp[fS]at h
 | n+1,e,h=>by
  cases he:ls[n]? with
  | none=>simp[fS,he]at h
  | some es =>
   have hk:∀ {x},x∈cO es q→aE x.path=q∧∃ es∈ls,x∈es:=fun hx=>⟨of_decide_eq_true (List.mem_filter.1 hx).2,es,List.mem_of_getElem? he,(List.mem_filter.1 hx).1⟩
   by_cases h2:gL es q=2
   ·rw[tC he h2]at h;simp at h
   ·by_cases h1:gL es q=1
    ·rw[oA he h1]at h;exact hk h
    ·rw[qJ he h2 h1]at h
     rcases List.mem_append.1 h with h | h
     ·exact hk h
     ·exact zc5 h
theorem mR {c q:Bs} (hc:aF c=0) (hq:aE c=q):bL c=if q=[] then [] else bL q ++ [q]:=by
 obtain ⟨ns,hN,hp,hcu,-⟩:=fT hc;rw[eP hc,hcu];have hpar:q=(bJ ns).getLastD []:=by rw[←hq];unfold aE;rw[hcu]
 by_cases h0:q=[]
 ·rw[if_pos h0]
  have:=mD.1 (hq.trans h0);rw[hcu]at this;exact this
 ·rw[if_neg h0]
  have hl:1<ns.length:=by
   refine Nat.lt_of_not_le (fun hle=>h0 ?_)
   have h4:bJ ns=[]:=List.eq_nil_of_length_eq_zero (by rw[iE];omega)
   rw[hpar,h4];rfl
  rw[sL hl]at hpar;have hT:nC (ns.take (ns.length - 1)):=qD hN (by omega)
  have hqf:aF q=0:=by rw[hpar];exact oX hT
  rw[eP hqf];have hcq:bF q.tail=ns.take (ns.length - 1):=by rw[hpar];exact zzd hT
  rw[hcq];unfold bJ;rw[List.length_take];obtain ⟨m,hm⟩:∃ m,ns.length=m+2:=⟨ns.length - 2,by omega⟩
  have e1:min (ns.length - 1) ns.length - 1=m:=by omega
  have e2:ns.length - 1=m+1:=by omega
  rw[e1,e2,List.range_succ,List.map_append]
  congr 1
  ·refine List.map_congr_left fun k hk=>?_
   have:=List.mem_range.1 hk;rw[List.take_take,Nat.min_eq_left (by omega)]
  ·simp[hpar,e2]
theorem zf9 (es:List En) (ups:List Bs) (q:Bs):dU es (ups ++ [q])=if dU es ups=2∨cU es q=2 then 2 else if dU es ups=1∨cU es q=1 then 1 else 0:=by
 unfold dU;simp only[List.any_append,List.any_cons,List.any_nil,Bool.or_false];by_cases h1:ups.any (fun u=>decide (cU es u=2))=true
 ·simp[h1]
 ·by_cases h2:ups.any (fun u=>decide (cU es u=1))=true
  ·rcases uB es q with h | h | h <;> simp[h1,h2,h]
  ·rcases uB es q with h | h | h <;> simp[h1,h2,h]
theorem tY {es:List En} {c q:Bs} (hc:aF c=0) (hq:aE c=q):dU es (bL c)=gL es q:=by
 rw[mR hc hq];unfold gL;by_cases h0:q=[]
 ·rw[if_pos h0,if_pos h0];simp[dU]
 ·rw[if_neg h0,if_neg h0,zf9];rfl
theorem zl2 {ls:List (List En)} (hR:∀ es∈ls,aV es) {c q:Bs} (hc:aF c=0) (hq:aE c=q) :
  ∀ n,n≤ls.length→((fS ls q n).find? fun e=>decide (cP e.path=cP c)).any (fun e=>!decide (e.kind=3))=(dN (cY ls) c n).isSome
 | 0,_=>by simp[fS,dN]
 | n+1,hn=>by
  have ih:=zl2 hR hc hq n (by omega)
  obtain ⟨es,he⟩:∃ es,ls[n]?=some es:=⟨_,List.getElem?_eq_getElem (by omega)⟩
  have hRi:=hR es (List.mem_of_getElem? he);have hF:=(jX.1 hRi).1;have hcp:c=cpB q (cP c):=by have:=zp3 hc;rw[hq]at this;exact this
  have hkid:∀ x∈cO es q,cP x.path=cP c→x.path=c:=fun x hx hl=>by
   have hx':=List.mem_filter.1 hx;have:=zF (hF.path hx'.1) (of_decide_eq_true hx'.2);rw[hl,←hcp]at this;exact this
  cases hf:aK es c with
  | none =>
   have hno:(cO es q).find? (fun e=>decide (cP e.path=cP c))=none:=by
    rw[List.find?_eq_none];intro x hx hl;have h1:=hkid x hx (of_decide_eq_true hl);have h2:=eA hRi.rise (List.mem_filter.1 hx).1;rw[h1,hf]at h2;cases h2
   by_cases h2:gL es q=2
   ·rw[tC he h2,xK he hRi hf (by rw[tY hc hq,h2];decide)];rfl
   ·by_cases h1:gL es q=1
    ·rw[oA he h1,hno,xK he hRi hf (by rw[tY hc hq,h1];decide)];rfl
    ·have h0:dU es (bL c)=0:=by
      have:=tY (es:=es) hc hq;rcases qF es (bL c) with h | h | h
      ·exact h
      ·rw[h]at this;exact absurd this.symm h1
      ·rw[h]at this;exact absurd this.symm h2
     rw[qJ he h2 h1,List.find?_append,hno,Option.none_or,zqa he hRi hf h0];exact ih
  | some e =>
   obtain ⟨hem,hep⟩:=eN hf;have h2:gL es q≠2:=by rw[←tY hc hq];exact ze1 hRi hc hf
   have hek:e∈cO es q:=List.mem_filter.2 ⟨hem,decide_eq_true (by rw[hep];exact hq)⟩
   have hfi:(cO es q).find? (fun x=>decide (cP x.path=cP c))=some e:=by
    have:((cO es q).find? (fun x=>decide (cP x.path=cP c))).isSome=true:=by
     rw[List.find?_isSome];exact ⟨e,hek,decide_eq_true (by rw[hep])⟩
    obtain ⟨y,hy⟩:=Option.isSome_iff_exists.1 this;have hy1:=List.mem_of_find?_eq_some hy;have hy4:=List.find?_some hy;have hy2:=hkid y hy1 (by simpa using hy4)
    have hy3:=eA hRi.rise (List.mem_filter.1 hy1).1;rw[hy2,hf]at hy3;rw[hy,←hy3]
   have hpre:∃ r,fS ls q (n+1)=cO es q++r:=by
    by_cases h1:gL es q=1
    ·exact ⟨[],by rw[oA he h1,List.append_nil]⟩
    ·exact ⟨_,qJ he h2 h1⟩
   obtain ⟨r,hr⟩:=hpre;rw[hr,List.find?_append,hfi,rC (by rw[oH he];exact hf)]
   by_cases h3:e.kind=3 <;> simp[h3]
theorem zdb {ls:List (List En)} (hR:∀ es∈ls,aV es) (h4:ls.length≤4) (q:Bs):(eF (fS ls q ls.length)).2=fZ (aY ls) q:=by
 obtain ⟨-,h2,h3,-⟩:=wM (fS ls q ls.length);have hF:=jF hR;have hfa:=sN hF;refine zxf h3 (zrc hfa.fit q) (fun x=>?_)
 have key:∀ c,aF c=0→aE c=q→cP c=x→(x∈(eF (fS ls q ls.length)).2↔(aK (aY ls) c).isSome=true):=fun c hc hq hx=>by
  rw[h2,←hx,zl2 hR hc hq ls.length (Nat.le_refl _),nX hF h4 hc];have e1:dN (cY ls) c ls.length=gD ls c:=(rW h4).symm;rw[e1];unfold uH;cases hs:gD ls c with
  | none=>simp
  | some k =>
   obtain ⟨-,e,he,-⟩:=jY (show dN (cY ls) c 4=some k from hs)
   simp[he]
 constructor
 ·intro hx
  have hx':=(h2 x).1 hx;cases hf:(fS ls q ls.length).find? fun e=>decide (cP e.path=x) with
  | none=>rw[hf]at hx';simp at hx'
  | some e =>
   have hem:=List.mem_of_find?_eq_some hf;have hel0:=List.find?_some hf;have hel:cP e.path=x:=by simpa using hel0
   obtain ⟨hpq,es,hes,hee⟩:=zc5 hem;have hpf:=(hF es hes).path hee;obtain ⟨y,hy⟩:=Option.isSome_iff_exists.1 ((key e.path hpf hpq hel).1 hx);obtain ⟨hym,hyp⟩:=eN hy;exact List.mem_map.2 ⟨y,List.mem_filter.2 ⟨hym,decide_eq_true (by rw[hyp];exact hpq)⟩,by rw[hyp];exact hel⟩
 ·intro hx
  obtain ⟨y,hy,hyl⟩:=List.mem_map.1 hx;obtain ⟨hym,hyp⟩:=List.mem_filter.1 hy;exact (key y.path (hfa.fit.path hym) (of_decide_eq_true hyp) hyl).2 (by rw[eA hfa.fit.rise hym];rfl)
end Go.Proofs.YtgaeikgoknoamaaGreat
namespace Go.Proofs.YtgaeikgoknoamaaGreat
open Go.RowKit Go.Maps
attribute [local go_sem ↓] Go.wp_at_zero Go.wp_at_succ
def gU (q:Bs):En:=⟨q,2,0,[]⟩
def jE (U:List En) (e:En):Bool:=!decide (aE e.path=[])&&(aK U (aE e.path)).isNone
def iT:Nat→List En→En→Int × List En
 | 0,U,e=>(fA U e,gM U e)
 | n+1,U,e=>if jE U e=true then (if (iT n U (gU (aE e.path))).1=0 then (fA (iT n U (gU (aE e.path))).2 e,gM (iT n U (gU (aE e.path))).2 e) else iT n U (gU (aE e.path))) else (fA U e,gM U e)
theorem zo2 {n:Nat} {U:List En} {e:En} (h:jE U e=false):iT n U e=(fA U e,gM U e):=by
 cases n <;> simp[iT,h]
theorem zk5 {n:Nat} {U:List En} {e:En} (h:jE U e=true) (h0:(iT n U (gU (aE e.path))).1=0):iT (n+1) U e=(fA (iT n U (gU (aE e.path))).2 e,gM (iT n U (gU (aE e.path))).2 e):=by simp[iT,h,h0]
theorem zj5 {n:Nat} {U:List En} {e:En} (h:jE U e=true) (h0:(iT n U (gU (aE e.path))).1≠0):iT (n+1) U e=iT n U (gU (aE e.path)):=by simp[iT,h,h0]
theorem zp2:∀ {n:Nat} {U:List En} {e:En},(iT n U e).1=0→aV (iT n U e).2∧cG (iT n U e).2
 | 0,U,e,h=>by
  have h1:=wG (show fA U e=0 from h)
  have h2:(iT 0 U e).2=dC U e:=by show gM U e=_;rw[gM,if_pos (show fA U e=0 from h)]
  rw[h2];exact ⟨h1.2.2.2.2,cN h1.2.2.2.2⟩
 | n+1,U,e,h=>by
  have key:∀ {L:List En},fA L e=0→aV (gM L e)∧cG (gM L e):=fun {L} hL=>by
   have h1:=wG hL;rw[gM,if_pos hL];exact ⟨h1.2.2.2.2,cN h1.2.2.2.2⟩
  cases hn:jE U e
  ·rw[zo2 hn]at h ⊢
   exact key h
  ·by_cases h0:(iT n U (gU (aE e.path))).1=0
   ·rw[zk5 hn h0]at h ⊢
    exact key h
   ·rw[zj5 hn h0]at h
    exact absurd h h0
theorem zam {e:En} {n:Nat} (hp:aF e.path=0) (h0:aE e.path≠[]) (hn:(bL e.path).length=n+1):(bL (aE e.path)).length=n:=by
 have h1:=mR hp rfl;rw[if_neg h0]at h1;rw[h1,List.length_append]at hn;simpa using hn
theorem zmf {e:En} (hp:aF e.path=0) (hn:(bL e.path).length=0):aE e.path=[]:=by
 by_cases h0:aE e.path=[]
 ·exact h0
 ·have h1:=mR hp rfl
  rw[if_neg h0]at h1;rw[h1]at hn;simp at hn
end Go.Proofs.YtgaeikgoknoamaaGreat
namespace Go.Proofs.YtgaeikgoknoamaaGreat
open Go.RowKit Go.Maps
theorem iP {P:Program} {wr:World} {news:Array Value} {ops:Array Oper} {rest:List Oper} {o:Oper} {a:Act} {Q:Exit→Act→World→Prop} (hgd:o.guard=none) (s x:Operand) (t:TypeId)
  (ho:o.op=.call { callee:=.builtin .append,args:=#[s,x],argTypes:=#[t,t] })
  (base:Nat) (e:TypeId) (i:TypeInfo) (z:Value) (size bytes:Nat) (ht:P.underlying t=some (.slice e)) (hi:P.info? e=some i) (hz:i.zero=some z)
  (hsize:i.size=size) (hby:i.bytes=bytes) (hzs:z.cells.size=size) (hsz:0<size)
  (v:Value) (n:Nat) (xs:List Value) (hs:a.eval s=v) (hown:wr.ownsRow base e size v n xs)
  (hx:a.eval x=.slice (some ⟨wr.heap.size,0,none⟩) 1 1) (hl:news.size=size) (h1:∀ u∈news.toList,u.oneCell'=true)
  (h63:n+1≤maxLen) (hbytes:(n+1) * bytes≤140737488355328) (hbase:base≤wr.heap.size)
  (h:∀ v' w',w'.ownsRow base e size v' (n+1) (xs++news.toList)→aD (fun b=>v.ownBlock=some b) wr w'→(v'.ownBlock=v.ownBlock∨∃ g,v'.ownBlock=some g∧wr.heap.size≤g)→wpList P ops Q rest (a.put o.dst v') w') :
  wpList P ops Q (o :: rest) a (wr.alloc (.cells news e)):=by
 refine wpList_append_own_at _ hgd s x t ho base e i z size bytes ht hi hz hsize hby hzs hsz v n xs hs (hown.alloc _) ⟨wr.heap.size,0,none⟩ 1 1 news.toList hx (by simp[hl]) ?_ h1 h63 hbytes (by simp;omega) ?_
 ·intro j u hj
  have hadd:(⟨wr.heap.size,0,none⟩:Addr).add j=⟨wr.heap.size,j,none⟩:=by unfold Addr.add;split <;> simp_all
  rw[hadd,cell_of_row _ wr.heap.size j news e (0,0) (heap_alloc_new wr _)];simpa using hj
 ·intro v' w' ho' hg _ hat
  refine h v' w' ho' ⟨hg.os,hg.tape,hg.output,Nat.le_trans (by simp) hg.size,fun k hk hn=>?_⟩ ?_
  ·rw[hg.block k (by simp;omega) (fun e=>hn e.symm)]
   exact Below.heap_alloc _ _ _ hk
  ·rcases hat with hat | hat
   ·exact .inl hat
   ·exact .inr ⟨_,hat,by simp⟩
end Go.Proofs.YtgaeikgoknoamaaGreat
