/-
  Texts put together: Mem PathL Strs PathM PathS.
-/
import Derived.Test.YtgaeikgoknoamaaGreatRows
import Derived.WalkKit
import Derived.WalkSpells
import Derived.WalkLawsBesides
import Derived.Deep.OwnRows
import Derived.BigQuiet
import Derived.Deep.QuietTactic
import Derived.Carry
import Derived.Lib.Bytealg
import Derived.Lib.Strings
set_option linter.unusedVariables false
set_option maxHeartbeats 1600000
set_option maxRecDepth 100000
namespace Go.Proofs.YtgaeikgoknoamaaGreat
open Go.RowKit
theorem zsE {α:Type}:(∀ (l:List α) (i:Nat) (a:α),l.toArray.setIfInBounds i a=(l.set i a).toArray)∧(∀ (x y:α) l,(x::l).set 0 y=y::l)∧∀ (x y:α) l n,(x::l).set (n+1) y=x::l.set n y:=⟨fun _ _ _=>by simp,fun _ _ _=>rfl,fun _ _ _ _=>rfl⟩
theorem aA {p:Prop} (h:p):Hid p:=h
theorem dD {a b:Bool} (h:a=b):Ending.returned (.bool a)=.returned (.bool b):=by rw[h]
theorem aM {k:IntKind} {a b:Int} (h:a=b):Ending.returned (.int k a)=.returned (.int k b):=by rw[h]
def aO (k:IntKind) (w:World) (a:Option Addr) (zs:List Int):Prop :=
 zs≠[]→∃ b off,a=some ⟨b,off,none⟩∧b<w.heap.size∧∀ i,i<zs.length→w.cell? ⟨b,off+i,none⟩=some (.int k (zs.getD i 0))
structure aD (S:Nat→Prop) (w w':World):Prop where
 os:w'.os=w.os
 tape:w'.tape=w.tape
 output:w'.output=w.output
 size:w.heap.size≤w'.heap.size
 block:∀ k,k<w.heap.size→¬ S k→w'.heap[k]?=w.heap[k]?
namespace aD
variable {S T:Nat→Prop} {w w' w'':World}
theorem refl (S:Nat→Prop) (w:World):aD S w w:=⟨rfl,rfl,rfl,Nat.le_refl _,fun _ _ _=>rfl⟩
theorem trans (h:aD S w w') (k:aD S w' w''):aD S w w'' :=
 ⟨k.os.trans h.os,k.tape.trans h.tape,k.output.trans h.output,Nat.le_trans h.size k.size,fun i hi hn=>(k.block i (Nat.lt_of_lt_of_le hi h.size) hn).trans (h.block i hi hn)⟩
theorem mono (h:aD S w w') (hs:∀ k,k<w.heap.size→S k→T k):aD T w w':=⟨h.os,h.tape,h.output,h.size,fun k hk hn=>h.block k hk (fun hS=>hn (hs k hk hS))⟩
theorem drew (h:aD S w w'):aD S w w'.drew:=⟨h.os,h.tape,h.output,h.size,h.block⟩
theorem drewN (h:aD S w w'):∀ n,aD S w (w'.drewN n)
 | 0=>h
 | n+1=>(drewN h n).drew
theorem alloc (h:aD S w w') (o:Obj):aD S w (w'.alloc o) :=
 ⟨h.os,h.tape,h.output,Nat.le_trans h.size (by simp),fun k hk hn=>(Below.heap_alloc _ _ _ (Nat.lt_of_lt_of_le hk h.size)).trans (h.block k hk hn)⟩
theorem setCell (h:aD S w w') {p:Addr} (hp:p.block<w.heap.size→S p.block) (u:Value):aD S w (w'.setCell p u) :=
 ⟨h.os,h.tape,h.output,Nat.le_trans h.size (by simp[World.setCell]),fun k hk hn=>(Below.heap_setCell _ _ _ _ (fun e=>by subst e;exact hn (hp hk))).trans (h.block k hk hn)⟩
theorem cell (h:aD S w w') {p:Addr} (hp:p.block<w.heap.size) (hn:¬ S p.block):w'.cell? p=w.cell? p:=World.cell?_of_block (w:=w) (h.block _ hp hn)
theorem frozen (h:aD S w w') {p:Addr} (hp:p.block<w.heap.size) (hn:¬ S p.block):w'.frozen? p=w.frozen? p:=World.frozen?_of_block (w:=w) (h.block _ hp hn)
theorem below (h:aD S w w') {B:Nat} (hB:B≤w.heap.size) (hS:∀ k,k<B→¬ S k):Below B w w':=⟨h.os,h.tape,h.output,h.size,fun k hk=>h.block k (by omega) (hS k hk)⟩
theorem trans_own (h:aD S w w') (k:aD T w' w'') (hn:∀ b,b<w.heap.size→¬ T b):aD S w w'' :=
 ⟨k.os.trans h.os,k.tape.trans h.tape,k.output.trans h.output,Nat.le_trans h.size k.size,fun i hi hs=>(k.block i (Nat.lt_of_lt_of_le hi h.size) (hn i hi)).trans (h.block i hi hs)⟩
theorem of_below (h:Below w.heap.size w w'):aD S w w':=⟨h.os,h.tape,h.output,h.size,fun k hk _=>h.block k hk⟩
end aD
theorem aD.two (w:World) (b i j:Nat) (u v:Value):aD (fun x=>x=b) w ((w.setCell ⟨b,i,none⟩ u).setCell ⟨b,j,none⟩ v) :=
 aD.setCell (S:=fun x=>x=b) (p:=⟨b,j,none⟩) (aD.setCell (S:=fun x=>x=b) (p:=⟨b,i,none⟩) (aD.refl _ w) (fun _=>rfl) u) (fun _=>rfl) v
def Two (w:World) (b:Nat) (u v:Value):Prop:=w.cell? ⟨b,0,none⟩=some u∧w.cell? ⟨b,1,none⟩=some v
theorem Two.lt {w:World} {b:Nat} {u v:Value} (h:Two w b u v):b<w.heap.size:=World.block_lt_of_cell? w ⟨b,0,none⟩ h.1
theorem Two.kept {S:Nat→Prop} {w w':World} {b:Nat} {u v:Value} (h:Two w b u v) (hk:aD S w w') (hn:¬ S b):Two w' b u v :=
 ⟨(hk.cell (p:=⟨b,0,none⟩) h.lt hn).trans h.1,(hk.cell (p:=⟨b,1,none⟩) h.lt hn).trans h.2⟩
theorem Two.below {w w':World} {b:Nat} {u v:Value} (h:Two w b u v) (hk:Below w.heap.size w w'):Two w' b u v :=
 h.kept (S:=fun _=>False) (aD.of_below hk) id
theorem Two.new (w:World) (u v:Value) (t:TypeId):Two (w.alloc (.cells #[u,v] t)) w.heap.size u v:=⟨by simp,by simp⟩
def Box (w:World) (b:Nat) (u v:Value):Prop:=Two w b u v∧w.frozen? ⟨b,0,none⟩=false∧w.frozen? ⟨b,1,none⟩=false
theorem Box.kept {S:Nat→Prop} {w w':World} {b:Nat} {u v:Value} (h:Box w b u v) (hk:aD S w w') (hn:¬ S b):Box w' b u v :=
 ⟨h.1.kept hk hn,(hk.frozen (p:=⟨b,0,none⟩) h.1.lt hn).trans h.2.1,(hk.frozen (p:=⟨b,1,none⟩) h.1.lt hn).trans h.2.2⟩
theorem Box.below {w w':World} {b:Nat} {u v:Value} (h:Box w b u v) (hk:Below w.heap.size w w'):Box w' b u v :=
 h.kept (S:=fun _=>False) (aD.of_below hk) id
theorem Box.new (w:World) (u v:Value) (t:TypeId):Box (w.alloc (.cells #[u,v] t)) w.heap.size u v:=⟨Two.new w u v t,by simp,by simp⟩
theorem aC (w:World) (o:Obj):Below w.heap.size w (w.alloc o):=(Below.refl _ _).alloc (Nat.le_refl _) _
theorem aB {w w' w'':World} (h:Below w.heap.size w w') (k:Below w'.heap.size w' w''):Below w.heap.size w w'':=h.trans (k.mono h.size)
theorem aO.kept {k:IntKind} {S:Nat→Prop} {w w':World} {a:Option Addr} {zs:List Int} (h:aO k w a zs) (hk:aD S w w') (hn:zs≠[]→∀ x,a=some x→¬ S x.block):aO k w' a zs:=by
 intro hz;obtain ⟨b,off,rfl,hb,hc⟩:=h hz;exact ⟨b,off,rfl,Nat.lt_of_lt_of_le hb hk.size,fun i hi=>(hk.cell (p:=⟨b,off+i,none⟩) hb (hn hz ⟨b,off,none⟩ rfl)).trans (hc i hi)⟩
theorem aO.below {k:IntKind} {w w':World} {a:Option Addr} {zs:List Int} (h:aO k w a zs) (hk:Below w.heap.size w w'):aO k w' a zs :=
 h.kept (S:=fun _=>False) (aD.of_below hk) (fun _ _ _=>id)
def U8 (zs:List Int):Prop:=∀ z∈zs,0≤z∧z≤255
theorem U8.get {zs:List Int} (h:U8 zs) (i:Nat):0≤zs.getD i 0∧zs.getD i 0≤255:=by
 by_cases hi:i<zs.length
 ·have e:zs.getD i 0=zs[i]:=by simp[List.getD_eq_getElem?_getD,hi]
  rw[e];exact h _ (List.getElem_mem hi)
 ·have e:zs.getD i 0=0:=by simp[List.getD_eq_getElem?_getD,List.getElem?_eq_none (Nat.le_of_not_lt hi)]
  rw[e];omega
theorem zf7 {W:World} {x:Addr} {l c:Nat} {zs:List Int} (hz:zs.length=c) (hl:l≤c) (hm:c≤maxLen) (hcell:∀ i,i<zs.length→W.cell? (x.add i)=some (.int .u8 (zs.getD i 0))) (hwz:∀ n∈zs,(Lit.int .u8 n).wf=true) :
  ∃ ys:List Int,ys.length=l∧aO .u8 W (some x) ys∧U8 ys∧ys.length≤maxLen:=by
 have hlen:(zs.take l).length=l:=by simp;omega
 refine ⟨zs.take l,hlen,?_,?_,by omega⟩
 ·intro hne
  have h0:0<l:=by
   rcases Nat.eq_zero_or_pos l with h | h
   ·subst h;exact absurd rfl hne
   ·exact h
  obtain ⟨b,off,spot⟩:=x;have hc:=hcell 0 (by omega)
  have hspot:spot=none:=by simpa [Addr.add] using World.cell?_spot hc
  subst hspot;refine ⟨b,off,rfl,World.block_lt_of_cell? W _ (by simpa [Addr.add] using hc),fun i hi=>?_⟩
  have:=hcell i (by omega)
  have e:(zs.take l).getD i 0=zs.getD i 0:=by
   have h2:i<l:=by omega
   simp[List.getD_eq_getElem?_getD,h2]
  rw[e];have ea:(⟨b,off,none⟩:Addr).add i=⟨b,off+i,none⟩:=by unfold Addr.add;split <;> simp_all
  rw[ea]at this;exact this
 ·intro z hz'
  have:=hwz z (List.mem_of_mem_take hz');simp[Lit.wf,IntKind.min,IntKind.max,IntKind.signed,IntKind.bits]at this
  omega
theorem dS {w:World} {a:Addr} {v u:Value} (h:w.cell? a=some u):(w.setCell a v).cell? a=some v :=
 World.cell?_setCell_same' w a v (by rw[h];rfl)
theorem aR {w:World} {a b:Addr} {v:Value} (h:a≠b):(w.setCell a v).cell? b=w.cell? b:=by
 apply World.cell?_setCell_other;exact h
theorem qO {w:World} {b o b' o':Nat} {v u:Value} (h:b≠b') (hc:w.cell? ⟨b',o',none⟩=some u):(w.setCell ⟨b,o,none⟩ v).cell? ⟨b',o',none⟩=some u :=
 (World.cell?_of_block (a:=⟨b',o',none⟩) (w:=w) (Below.heap_setCell w ⟨b,o,none⟩ v b' (fun e=>h e.symm))).trans hc
theorem bS {P:Program} {wr:World} {news:Array Value} {ops:Array Oper} {rest:List Oper} {o:Oper} {a:Act} {Q:Exit→Act→World→Prop} (hgd:o.guard=none) (s x:Operand) (t:TypeId)
  (ho:o.op=.call { callee:=.builtin .append,args:=#[s,x],argTypes:=#[t,t] })
  (base:Nat) (e:TypeId) (i:TypeInfo) (z:Value) (size bytes:Nat) (ht:P.underlying t=some (.slice e)) (hi:P.info? e=some i) (hz:i.zero=some z)
  (hsize:i.size=size) (hby:i.bytes=bytes) (hzs:z.cells.size=size) (hsz:0<size)
  (v:Value) (n:Nat) (xs:List Value) (hs:a.eval s=v) (hown:wr.ownsRow base e size v n xs)
  (hx:a.eval x=.slice (some ⟨wr.heap.size,0,none⟩) 1 1) (hl:news.size=size) (h1:∀ u∈news.toList,u.oneCell'=true)
  (h63:n+1≤maxLen) (hbytes:(n+1) * bytes≤140737488355328) (hbase:base≤wr.heap.size)
  (h:∀ v' w',w'.ownsRow base e size v' (n+1) (xs++news.toList)→aD (fun b=>v.ownBlock=some b) wr w'→wpList P ops Q rest (a.put o.dst v') w') :
  wpList P ops Q (o :: rest) a (wr.alloc (.cells news e)):=by
 refine wpList_append_own _ hgd s x t ho base e i z size bytes ht hi hz hsize hby hzs hsz v n xs hs (hown.alloc _) ⟨wr.heap.size,0,none⟩ 1 1 news.toList hx (by simp[hl]) ?_ h1 h63 hbytes (by simp;omega) ?_
 ·intro j u hj
  have hadd:(⟨wr.heap.size,0,none⟩:Addr).add j=⟨wr.heap.size,j,none⟩:=by unfold Addr.add;split <;> simp_all
  rw[hadd,cell_of_row _ wr.heap.size j news e (0,0) (heap_alloc_new wr _)];simpa using hj
 ·intro v' w' ho' hg _
  refine h v' w' ho' ⟨hg.os,hg.tape,hg.output,Nat.le_trans (by simp) hg.size,fun k hk hn=>?_⟩
  rw[hg.block k (by simp;omega) (fun e=>hn e.symm)]
  exact Below.heap_alloc _ _ _ hk
theorem aD.below_own {w w' wr:World} {B:Nat} {v:Value} {e:TypeId} {size n:Nat} {xs:List Value} (hb:Below B w wr) (hB:B≤wr.heap.size) (hown:wr.ownsRow B e size v n xs) (hk:aD (fun b=>v.ownBlock=some b) wr w'):Below B w w' :=
 hb.trans (hk.below hB (fun k hk' he=>by have:=(hown.lt k he).1;omega))
theorem nP {w:World} {base:Nat} {e:TypeId} {v:Value} {k:IntKind} {n:Nat} {zs:List Int} (h:w.ownsRow base e 1 v n (zs.map (Value.int k))) (hn:n=zs.length) (hz:0<n) :
  ∃ g cap,v=.slice (some ⟨g,0,none⟩) n cap∧base≤g∧g<w.heap.size∧(∀ i,i<n→w.cell? ⟨g,i,none⟩=some (.int k (zs.getD i 0)))∧∀ i,w.frozen? ⟨g,i,none⟩=false:=by
 obtain ⟨h1,h2⟩:=h;rcases h2 with ⟨_,h0⟩ | ⟨g,cap,cur,rfl,hg,hh,hc,hm,hs,ht⟩
 ·omega
 ·refine ⟨g,cap,rfl,hg,(Array.getElem?_eq_some_iff.1 hh).1,fun i hi=>?_,fun i=>by simp[World.frozen?,hh]⟩
  rw[cell_of_row w g i cur e (0,0) hh];have e1:(cur.toList.take (n * 1))[i]?=(zs.map (Value.int k))[i]?:=by rw[ht]
  rw[List.getElem?_take,if_pos (by omega)]at e1
  have hi2:i<zs.length:=by omega
  simp[hi2]at e1
  simpa [List.getD_eq_getElem?_getD,hi2] using e1
theorem aH {S:Nat→Prop} {w w':World} {base:Nat} {e:TypeId} {size:Nat} {v:Value} {n:Nat} {xs:List Value} (h:w.ownsRow base e size v n xs) (hk:aD S w w') (hn:∀ b,v.ownBlock=some b→¬ S b):w'.ownsRow base e size v n xs:=by
 refine ⟨h.1,?_⟩;rcases h.2 with hz | ⟨g,cap,cur,rfl,hb,hgg,rest⟩
 ·exact .inl hz
 ·refine .inr ⟨g,cap,cur,rfl,hb,?_,rest⟩
  rw[hk.block g (Array.getElem?_eq_some_iff.1 hgg).1 (hn g rfl)];exact hgg
theorem aG {w w':World} {base:Nat} {e:TypeId} {size:Nat} {v:Value} {n:Nat} {xs:List Value} (h:w.ownsRow base e size v n xs) (hk:Below w.heap.size w w'):w'.ownsRow base e size v n xs :=
 aH (S:=fun _=>False) h (aD.of_below hk) (fun _ _=>id)
theorem aS {w:World} {base base':Nat} {e:TypeId} {size:Nat} {v:Value} {n:Nat} {xs:List Value} (h:w.ownsRow base e size v n xs) (hb:base'≤base):w.ownsRow base' e size v n xs:=by
 refine ⟨h.1,?_⟩;rcases h.2 with hz | ⟨g,cap,cur,hv,hg,rest⟩
 ·exact .inl hz
 ·exact .inr ⟨g,cap,cur,hv,by omega,rest⟩
theorem aQ {w:World} {base:Nat} {e:TypeId} {size:Nat} {v:Value} {n:Nat} {xs:List Value} (h:w.ownsRow base e size v n xs):∃ a c,v=.slice a n c:=by
 rcases h.2 with ⟨rfl,rfl⟩ | ⟨g,cap,cur,rfl,_⟩
 ·exact ⟨_,_,rfl⟩
 ·exact ⟨_,_,rfl⟩
theorem aX {w:World} {b1 b2:Nat} {e1 e2:TypeId} {s1 s2:Nat} {v1 v2:Value} {n1 n2:Nat} {x1 x2:List Value} (h1:w.ownsRow b1 e1 s1 v1 n1 x1) (h2:w.ownsRow b2 e2 s2 v2 n2 x2) (he:e1≠e2) {g:Nat} (hg1:v1.ownBlock=some g) (hg2:v2.ownBlock=some g):False:=by
 rcases h1.2 with ⟨rfl,_⟩ | ⟨g1,c1,cur1,rfl,_,hh1,_⟩
 ·simp[Value.ownBlock]at hg1
 ·rcases h2.2 with ⟨rfl,_⟩ | ⟨g2,c2,cur2,rfl,_,hh2,_⟩
  ·simp[Value.ownBlock]at hg2
  ·simp[Value.ownBlock]at hg1 hg2
   subst hg1 hg2;rw[hh1]at hh2;simp at hh2
   exact he hh2.2
def Own (k:IntKind) (w:World) (a:Option Addr) (zs:List Int):Prop :=
 zs≠[]→∃ b off,a=some ⟨b,off,none⟩∧b<w.heap.size∧∀ i,i<zs.length→w.cell? ⟨b,off+i,none⟩=some (.int k (zs.getD i 0))∧w.frozen? ⟨b,off+i,none⟩=false
def zbb (a:Option Addr) (b:Nat):Prop:=a.map Addr.block=some b
theorem Own.reads {k:IntKind} {w:World} {a:Option Addr} {zs:List Int} (h:Own k w a zs):aO k w a zs:=by
 intro hz;obtain ⟨b,off,e,hb,hc⟩:=h hz;exact ⟨b,off,e,hb,fun i hi=>(hc i hi).1⟩
def zg2 (w w':World):Prop:=∀ (g:Nat) (cur:Array Value) (t:TypeId),w.heap[g]?=some (.cells cur t (0,0))→∃ cur':Array Value,w'.heap[g]?=some (.cells cur' t (0,0))∧cur'.size=cur.size
theorem zyh {w w':World} {B:Nat} {e:TypeId} {g n cap:Nat} {xs ys:List Value} (h:w.ownsRow B e 1 (.slice (some ⟨g,0,none⟩) n cap) n xs) (hs:zg2 w w') (hy:ys.length=n) (hc:∀ i,i<n→w'.cell? ⟨g,i,none⟩=ys[i]?) :
  w'.ownsRow B e 1 (.slice (some ⟨g,0,none⟩) n cap) n ys:=by
 refine ⟨by omega,.inr ?_⟩
 rcases h.2 with ⟨h',_⟩ | ⟨g',cap',cur,h',hb,hh,hnc,hcm,hcs,htake⟩
 ·simp at h'
 ·simp only[Value.slice.injEq,Option.some.injEq,Addr.mk.injEq,and_true,true_and]at h'
  obtain ⟨rfl,rfl⟩:=h';obtain ⟨cur',e',s'⟩:=hs g cur e hh;refine ⟨g,cap,cur',rfl,hb,e',hnc,hcm,by omega,?_⟩
  apply List.ext_getElem?
  intro i;by_cases hi:i<n
  ·have:=hc i hi
   rw[cell_of_row w' g i cur' e (0,0) e']at this;rw[List.getElem?_take,if_pos (by omega),←this]
   simp
  ·rw[List.getElem?_take,if_neg (by omega),List.getElem?_eq_none (by omega)]
theorem kM {w:World} {base:Nat} {e:TypeId} {size:Nat} {a:Option Addr} {n c:Nat} {xs:List Value} (h:w.ownsRow base e size (.slice a n c) n xs):n≤c:=by
 rcases h.2 with ⟨h',rfl⟩ | ⟨g,cap,cur,h',_,_,hc,_⟩
 ·omega
 ·simp only[Value.slice.injEq,true_and]at h'
  omega
def zpl (P:Nat→List Int):Nat→Nat
 | 0=>0
 | i+1=>zpl P i+(P i).length
theorem mC {w:World} {B:Nat} {e:TypeId} {k:IntKind} {a:Option Addr} {n c:Nat} {zs:List Int} (h:w.ownsRow B e 1 (.slice a n c) n (zs.map (Value.int k))) (hn:n=zs.length):Own k w a zs:=by
 intro hz;have h0:0<n:=by rw[hn];exact List.length_pos_iff.2 hz
 rcases h.2 with ⟨h',_⟩ | ⟨g,cap,cur,h',hb,hh,hnc,hcm,hcs,htake⟩
 ·simp only[Value.slice.injEq]at h'
  omega
 ·simp only[Value.slice.injEq,true_and]at h'
  obtain ⟨rfl,rfl⟩:=h';refine ⟨g,0,rfl,(h.lt g rfl).2,fun i hi=>⟨?_,h.frozenAt _⟩⟩
  rw[Nat.zero_add,h.cellAt i (by omega)]
  simp[List.getD_eq_getElem?_getD,hi]
end Go.Proofs.YtgaeikgoknoamaaGreat
namespace Go.Proofs.YtgaeikgoknoamaaGreat
abbrev Bs:=List UInt8
def str (l:Bs):ByteArray:=⟨l.toArray⟩
theorem bD (l:Bs):(str l).data.toList=l:=by simp[str]
theorem aP (l:Bs):(str l).size=l.length:=by simp[str,ByteArray.size]
theorem zhl (s:ByteArray):str s.data.toList=s:=by simp[str]
theorem zkk {a b:Bs} (h:str a=str b):a=b:=by
 have:=congrArg (fun s:ByteArray=>s.data.toList) h
 simpa [bD] using this
def bF:Bs→List Bs
 | []=>[[]]
 | c :: l=>if c=47 then [] :: bF l else
  match bF l with
  | []=>[[c]]
  | p :: ps=>(c :: p) :: ps
def bR:List Bs→Bs
 | []=>[]
 | n :: ns=>47 :: (n++bR ns)
theorem qK (l:Bs):bF l≠[]:=by
 cases l with
 | nil=>simp[bF]
 | cons c l =>
  simp only[bF];split
  ·simp
  ·split <;> simp
theorem jH (l:Bs):bF (47 :: l)=[] :: bF l:=by simp[bF]
theorem fW {c:UInt8} (h:c≠47) {l:Bs} {p:Bs} {ps:List Bs} (e:bF l=p :: ps):bF (c :: l)=(c :: p) :: ps:=by
 simp[bF,h,e]
theorem oV (l:Bs):∃ p ps,bF l=p :: ps:=by
 cases e:bF l with
 | nil=>exact absurd e (qK l)
 | cons p ps=>exact ⟨p,ps,rfl⟩
theorem zm2 {l:Bs} (h:(47:UInt8)∉l):bF l=[l]:=by
 induction l with
 | nil=>rfl
 | cons c l ih =>
  have h1:c≠47:=fun e=>h (by simp[e])
  have h2:(47:UInt8)∉l:=fun e=>h (by simp[e])
  exact fW h1 (ih h2)
theorem zd5 {a:Bs} (b:Bs) (h:(47:UInt8)∉a):bF (a++47 :: b)=a :: bF b:=by
 induction a with
 | nil=>exact jH b
 | cons c a ih =>
  have h1:c≠47:=fun e=>h (by simp[e])
  have h2:(47:UInt8)∉a:=fun e=>h (by simp[e])
  exact fW h1 (ih h2)
theorem oW:∀ (l:Bs) (c:UInt8) (o:List Bs) (x:Bs),bF l=o ++ [x]→bF (l ++ [c])=if c=47 then o ++ [x] ++ [[]] else o ++ [x ++ [c]]
 | [],c,o,x,h=>by
  have e:o=[]∧x=[]:=by
   cases o with
   | nil=>simpa [bF,eq_comm] using h
   | cons a o=>simp[bF]at h
  obtain ⟨rfl,rfl⟩:=e;by_cases hc:c=47
  ·subst hc;simp[bF]
  ·simp[bF,hc]
 | d :: l,c,o,x,h=>by
  by_cases hd:d=47
  ·subst hd
   rw[jH]at h;cases o with
   | nil =>
    simp at h
    exact absurd h.2 (qK l)
   | cons a o =>
    simp at h
    obtain ⟨rfl,h⟩:=h;have ih:=oW l c o x h;simp only[List.cons_append,jH,ih];split <;> simp
  ·obtain ⟨p,ps,e⟩:=oV l
   rw[fW hd e]at h;cases o with
   | nil =>
    simp at h
    obtain ⟨rfl,rfl⟩:=h;have ih:=oW l c [] p e;by_cases hc:c=47
    ·simp only[hc,if_pos,List.nil_append,List.cons_append]at ih ⊢
     exact fW hd ih
    ·simp only[hc,if_false,List.nil_append,List.cons_append]at ih ⊢
     exact fW hd ih
   | cons a o =>
    simp at h
    obtain ⟨rfl,h⟩:=h;have ih:=oW l c (p :: o) x (by simp[e,h])
    by_cases hc:c=47
    ·simp only[hc,if_pos,List.cons_append]at ih ⊢
     exact fW hd ih
    ·simp only[hc,if_false,List.cons_append]at ih ⊢
     exact fW hd ih
theorem xC:∀ (l:Bs),∀ n∈bF l,(47:UInt8)∉n
 | [],n,h=>by simp[bF]at h;simp[h]
 | c :: l,n,h=>by
  by_cases hc:c=47
  ·subst hc
   rw[jH]at h;rcases List.mem_cons.1 h with rfl | h
   ·simp
   ·exact xC l n h
  ·obtain ⟨p,ps,e⟩:=oV l
   rw[fW hc e]at h;rcases List.mem_cons.1 h with rfl | h
   ·have:=xC l p (by simp[e])
    simp[this,Ne.symm hc]
   ·exact xC l n (by simp[e,h])
theorem kL (a b:List Bs):bR (a++b)=bR a++bR b:=by
 induction a with
 | nil=>rfl
 | cons n a ih=>simp[bR,ih]
theorem qW:∀ (l:Bs),bR (bF l)=47 :: l
 | []=>rfl
 | c :: l=>by
  by_cases hc:c=47
  ·subst hc
   rw[jH,bR,qW l];rfl
  ·obtain ⟨p,ps,e⟩:=oV l
   have ih:=qW l;rw[e,bR]at ih;rw[fW hc e,bR];simp at ih ⊢
   exact ih
theorem qP:∀ {ns:List Bs},ns≠[]→(∀ n∈ns,(47:UInt8)∉n)→bF (bR ns).tail=ns
 | [],h,_=>absurd rfl h
 | [n],_,h=>by simpa [bR] using zm2 (h n (by simp))
 | n :: m :: ns,_,h=>by
  have ih:=qP (ns:=m :: ns) (by simp) (fun x hx=>h x (by simp[List.mem_cons.1 hx]))
  have e:bR (n :: m :: ns)=47 :: (n++47 :: (bR (m :: ns)).tail):=by simp[bR]
  rw[e,List.tail_cons,zd5 _ (h n (by simp)),ih]
theorem zdc {ns:List Bs} (h:ns≠[]):bR ns=47 :: (bR ns).tail:=by
 cases ns with
 | nil=>exact absurd rfl h
 | cons n ns=>rfl
theorem kK (l:Bs):(bF l).length≤l.length+1:=by
 induction l with
 | nil=>simp[bF]
 | cons c l ih =>
  by_cases hc:c=47
  ·subst hc;rw[jH];simp;omega
  ·obtain ⟨p,ps,e⟩:=oV l
   rw[fW hc e];rw[e]at ih;simp at ih ⊢;omega
theorem rH:∀ (l:Bs),∀ n∈bF l,n.length≤l.length
 | [],n,h=>by simp[bF]at h;simp[h]
 | c :: l,n,h=>by
  by_cases hc:c=47
  ·subst hc
   rw[jH]at h;rcases List.mem_cons.1 h with rfl | h
   ·simp
   ·have:=rH l n h;simp;omega
  ·obtain ⟨p,ps,e⟩:=oV l
   rw[fW hc e]at h;rcases List.mem_cons.1 h with rfl | h
   ·have:=rH l p (by simp[e]);simp;omega
   ·have:=rH l n (by simp[e,h]);simp;omega
def small (c:UInt8):Bool:=decide (97≤(c.toNat:Int)∧(c.toNat:Int)≤122)
def dX (n:Bs):Bool:=n.all small&&!n.isEmpty
def eR (ns:List Bs):Int:=if ns.all dX then (if ns.all (fun n=>decide (n.length≤4))&&decide (ns.length≤3) then 0 else 2) else 5
def aF (p:Bs):Int :=
 match p with
 | []=>5
 | c :: r=>if c=47 then eR (bF r) else 5
def nC (ns:List Bs):Prop:=ns≠[]∧(∀ n∈ns,dX n=true)∧(∀ n∈ns,n.length≤4)∧ns.length≤3
theorem zdi {n:Bs} (h:dX n=true):(47:UInt8)∉n:=by
 intro hm;simp only[dX,Bool.and_eq_true,List.all_eq_true]at h;have:=h.1 47 hm;exact absurd this (by decide)
theorem zci {n:Bs} (h:dX n=true):n≠[]:=by
 intro e;subst e;simp[dX]at h
theorem zh8 {ns:List Bs} (hne:ns≠[]) (h:eR ns=0):nC ns:=by
 unfold eR at h;split at h
 ·rename_i hp
  split at h
  ·rename_i hq
   simp at hp hq
   exact ⟨hne,hp,hq.1,hq.2⟩
  ·omega
 ·omega
theorem zce {ns:List Bs} (h:nC ns):eR ns=0:=by
 obtain ⟨h0,h1,h2,h3⟩:=h;unfold eR;rw[if_pos (by simpa using h1),if_pos (by simpa using ⟨h2,h3⟩)]
theorem tW {ns:List Bs} (h:nC ns):∀ n∈ns,(47:UInt8)∉n:=fun n hn=>zdi (h.2.1 n hn)
theorem fT {p:Bs} (h:aF p=0):∃ ns,nC ns∧p=bR ns∧bF p.tail=ns∧p=47 :: p.tail:=by
 cases p with
 | nil=>simp[aF]at h
 | cons c r =>
  by_cases hc:c=47
  ·subst hc
   simp only[aF,if_pos]at h;have hn:=zh8 (qK r) h;exact ⟨bF r,hn,by rw[qW],rfl,rfl⟩
  ·simp[aF,hc]at h
theorem oX {ns:List Bs} (h:nC ns):aF (bR ns)=0:=by
 rw[zdc h.1];simp only[aF,if_pos];rw[qP h.1 (tW h)];exact zce h
theorem zzd {ns:List Bs} (h:nC ns):bF (bR ns).tail=ns:=qP h.1 (tW h)
def bJ (ns:List Bs):List Bs:=(List.range (ns.length - 1)).map fun k=>bR (ns.take (k+1))
def bL (p:Bs):List Bs:=if aF p=0 then bJ (bF p.tail) else []
theorem iE (ns:List Bs):(bJ ns).length=ns.length - 1:=by simp[bJ]
theorem qD {ns:List Bs} (h:nC ns) {k:Nat} (hk:0<k):nC (ns.take k):=by
 obtain ⟨h0,h1,h2,h3⟩:=h;refine ⟨?_,fun n hn=>h1 n (List.mem_of_mem_take hn),fun n hn=>h2 n (List.mem_of_mem_take hn),by simp;omega⟩
 cases ns with
 | nil=>exact absurd rfl h0
 | cons a l=>cases k with
  | zero=>omega
  | succ k=>simp
theorem qC {ns:List Bs} {t:Bs}:t∈bJ ns↔∃ k,0<k∧k<ns.length∧t=bR (ns.take k):=by
 unfold bJ;simp only[List.mem_map,List.mem_range];constructor
 ·rintro ⟨k,hk,rfl⟩;exact ⟨k+1,by omega,by omega,rfl⟩
 ·rintro ⟨k,h0,hk,rfl⟩
  refine ⟨k - 1,by omega,?_⟩
  have:k - 1+1=k:=by omega
  rw[this]
def bG (p t:Bs):Bool:=decide (t.length+1<p.length)&&(p.take t.length==t)&&(p.drop t.length).head?==some 47
theorem jT {p t:Bs} (hp:aF p=0):t∈bJ (bF p.tail)↔aF t=0∧bG p t=true:=by
 obtain ⟨ns,hN,hpe,hc,hs⟩:=fT hp;rw[hc,qC];constructor
 ·rintro ⟨k,h0,hk,rfl⟩
  refine ⟨oX (qD hN h0),?_⟩;have hd:ns.drop k≠[]:=by intro e;have:=congrArg List.length e;simp at this;omega
  obtain ⟨m,ms,hm⟩:∃ m ms,ns.drop k=m :: ms:=by
   cases e:ns.drop k with
   | nil=>exact absurd e hd
   | cons m ms=>exact ⟨m,ms,rfl⟩
  have hm1:m∈ns:=List.mem_of_mem_drop (by rw[hm];simp)
  have hm2:=zci (hN.2.1 m hm1);have e:p=bR (ns.take k)++47 :: (m++bR ms):=by
   rw[hpe]
   conv=>lhs;rw[←List.take_append_drop k ns,kL,hm,bR]
  have hl:0<m.length:=List.length_pos_iff.2 hm2;rw[e];simp[bG]
  omega
 ·rintro ⟨ht,hb⟩
  obtain ⟨ms,hM,hte,hcm,hsm⟩:=fT ht;simp only[bG,Bool.and_eq_true,decide_eq_true_eq,beq_iff_eq]at hb;obtain ⟨⟨hlen,htake⟩,hhead⟩:=hb;obtain ⟨r,hr⟩:∃ r,p.drop t.length=47 :: r:=by
   cases e:p.drop t.length with
   | nil=>rw[e]at hhead;simp at hhead
   | cons c r=>rw[e]at hhead;simp at hhead;exact ⟨r,by rw[hhead]⟩
  have e:p=bR (ms++bF r):=by
   rw[kL,qW,←hte,←hr]
   conv=>lhs;rw[←List.take_append_drop t.length p,htake]
  have hns:ns=ms++bF r:=by
   rw[←hc,e];refine qP (by simp[hM.1]) (fun n hn=>?_)
   rcases List.mem_append.1 hn with h | h
   ·exact tW hM n h
   ·exact xC r n h
  refine ⟨ms.length,List.length_pos_iff.2 hM.1,?_,?_⟩
  ·rw[hns];have:=List.length_pos_iff.2 (qK r);simp;omega
  ·rw[hns];simp[hte]
def tQ (ns:List Bs):Bs:=ns.getLastD []
theorem znc {ns:List Bs} (h:ns≠[]):ns=ns.dropLast ++ [tQ ns]:=by
 rw[tQ,List.getLastD_eq_getLast?];rw[List.getLast?_eq_some_getLast h];exact (List.dropLast_concat_getLast h).symm
end Go.Proofs.YtgaeikgoknoamaaGreat
namespace Go.Proofs.YtgaeikgoknoamaaGreat
open Go.RowKit
theorem zc2 {a b:ByteArray} (h:a=b):Ending.returned (.string a)=.returned (.string b):=by rw[h]
def vS (p:Bs):Value:=.string (str p)
def cJ (B:Nat) (w:World) (v:Value) (ps:List Bs):Prop:=w.ownsRow B 9 1 v ps.length (ps.map vS)
def bM (w:World) (a:Option Addr) (ps:List Bs):Prop :=
 ps≠[]→∃ b off,a=some ⟨b,off,none⟩∧b<w.heap.size∧∀ i,i<ps.length→w.cell? ⟨b,off+i,none⟩=some (.string (str (ps.getD i [])))
theorem bM.kept {S:Nat→Prop} {w w':World} {a:Option Addr} {ps:List Bs} (h:bM w a ps) (hk:aD S w w') (hn:ps≠[]→∀ x,a=some x→¬ S x.block):bM w' a ps:=by
 intro hz;obtain ⟨b,off,rfl,hb,hc⟩:=h hz;exact ⟨b,off,rfl,Nat.lt_of_lt_of_le hb hk.size,fun i hi=>(hk.cell (p:=⟨b,off+i,none⟩) hb (hn hz ⟨b,off,none⟩ rfl)).trans (hc i hi)⟩
theorem bM.below {w w':World} {a:Option Addr} {ps:List Bs} (h:bM w a ps) (hk:Below w.heap.size w w'):bM w' a ps :=
 h.kept (S:=fun _=>False) (aD.of_below hk) (fun _ _ _=>id)
theorem bM.nil (w:World) (a:Option Addr):bM w a []:=fun h=>absurd rfl h
theorem bM.take {w:World} {a:Option Addr} {ps:List Bs} (h:bM w a ps) (k:Nat):bM w a (ps.take k):=by
 intro hz;have hp:ps≠[]:=by rintro rfl;simp at hz
 obtain ⟨b,off,rfl,hb,hc⟩:=h hp;refine ⟨b,off,rfl,hb,fun i hi=>?_⟩
 have hi':i<k∧i<ps.length:=by simpa [Nat.lt_min] using hi
 rw[hc i hi'.2];simp[List.getD_eq_getElem?_getD,hi'.1]
theorem bM.at {w:World} {a:Option Addr} {ps:List Bs} (h:bM w a ps) {k:Nat} (hk:k<ps.length) :
  ∃ b off p,a=some ⟨b,off,none⟩∧b<w.heap.size∧ps[k]?=some p∧w.cell? ⟨b,off+k,none⟩=some (.string (str p)):=by
 obtain ⟨b,off,e,hb,hc⟩:=h (by intro e;simp[e]at hk)
 refine ⟨b,off,ps[k],e,hb,by simp[hk],?_⟩
 rw[hc k hk];simp[List.getD_eq_getElem?_getD,hk]
namespace cJ
variable {B:Nat} {w w':World} {v:Value} {ps:List Bs}
theorem nil (B:Nat) (w:World):cJ B w (.slice none 0 0) []:=World.ownsRow_nil _ _ _ _
theorem shape (h:cJ B w v ps):∃ a c,v=.slice a ps.length c:=aQ h
theorem below (h:cJ B w v ps) (hk:Below w.heap.size w w'):cJ B w' v ps:=aG h hk
theorem kept {S:Nat→Prop} (h:cJ B w v ps) (hk:aD S w w') (hn:∀ b,v.ownBlock=some b→¬ S b):cJ B w' v ps:=aH h hk hn
theorem mono {B':Nat} (h:cJ B w v ps) (hb:B'≤B):cJ B' w v ps:=aS h hb
theorem cap {a:Option Addr} {n c:Nat} (h:cJ B w (.slice a n c) ps) (hn:n=ps.length):n≤c:=by
 subst hn;exact kM h
theorem reads {a:Option Addr} {n c:Nat} (h:cJ B w (.slice a n c) ps):bM w a ps:=by
 intro hz;have h0:0<ps.length:=List.length_pos_iff.2 hz;rcases h.2 with ⟨h',hh⟩ | ⟨g,cap,cur,h',hb,hh,hnc,hcm,hcs,htake⟩
 ·omega
 ·have hl:n=ps.length∧a=some ⟨g,0,none⟩:=by simp only[Value.slice.injEq]at h';exact ⟨h'.2.1,h'.1⟩
  obtain ⟨rfl,rfl⟩:=hl;refine ⟨g,0,rfl,(h.lt g rfl).2,fun i hi=>?_⟩
  have:=World.ownsRow.cellAt h i (by omega)
  rw[Nat.zero_add,this];simp[List.getD_eq_getElem?_getD,hi,vS]
end cJ
theorem cJ.snoc {B:Nat} {w:World} {v:Value} {ps:List Bs} {p:Bs} {s:ByteArray} (h:w.ownsRow B 9 1 v (ps.length+1) (ps.map vS ++ #[Value.string s].toList)) (hs:s=str p):cJ B w v (ps ++ [p]):=by
 unfold cJ;subst hs;simpa [vS] using h
end Go.Proofs.YtgaeikgoknoamaaGreat
namespace Go.Proofs.YtgaeikgoknoamaaGreat
open Go.RowKit
theorem nT (s:ByteArray) (k:Nat) (h:k<s.size):s.data.toList.take (k+1)=s.data.toList.take k ++ [s[k]]:=by
 rw[List.take_succ_eq_append_getElem (by simpa using h)];rfl
theorem uO {s:ByteArray} {k:Nat} (h:k<s.size) (ha:(s.data.toList.take k).all small=true) (hc:small s[k]=true):(s.data.toList.take (k+1)).all small=true:=by
 rw[nT s k h];simp[ha,hc]
theorem sZ {s:ByteArray} {k:Nat} (h:k<s.size) (hc:small s[k]=false):dX s.data.toList=false:=by
 have:s[k]∈s.data.toList:=Array.mem_toList_iff.2 (Array.getElem_mem (xs:=s.data) (i:=k) h);have h2:s.data.toList.all small=false:=by
  rw[List.all_eq_false];exact ⟨_,this,by simp[hc]⟩
 simp[dX,h2]
theorem zy3 {c:UInt8} (h1:97≤(c.toNat:Int)) (h2:(c.toNat:Int)≤122):small c=true:=decide_eq_true ⟨h1,h2⟩
theorem uJ {c:UInt8} (h:(c.toNat:Int)<97∨122<(c.toNat:Int)):small c=false:=decide_eq_false (by omega)
theorem zr3 {s:ByteArray} {k:Nat} (hk:s.size≤k) (ha:(s.data.toList.take k).all small=true) (b:Bool) (hb:b=!s.data.toList.isEmpty):dX s.data.toList=b:=by
 rw[List.take_of_length_le (by simpa using hk)]at ha
 simp[dX,ha,hb]
theorem wV (s:ByteArray):(!s.toList.isEmpty)=!s.data.toList.isEmpty:=by rw[ByteArray.toList_eq]
theorem sI (s:ByteArray) (w:World) (hs:s.size≤9223372036854775807) :
  Calls Tryz.prog 159 #[.string s] w fun e w'=>e=.returned (.bool (dX s.data.toList))∧w'=w:=by
 go_enter Tryz.func159,Tryz.ntmps159;go_wp2
 go_loop [3] (fun i=>∃ k:Nat,k≤s.size∧i=.int .i64 k∧(s.data.toList.take k).all small=true) (fun i=>s.size - (intOf i).toNat)
 case atStart=>exact ⟨0,Nat.zero_le _,rfl,rfl⟩
 case round =>
  obtain ⟨k,hk,rfl,ha⟩:=hrel;have HA:=aA ha;clear ha;by_cases hlt:k<s.size
  ·by_cases c1:(s[k].toNat:Int)<97
   ·have HN:=aA (sZ hlt (uJ (.inl c1)))
    go_wp2
    go_ret
    exact ⟨dD HN.out.symm,rfl⟩
   ·by_cases c2:122<(s[k].toNat:Int)
    ·have HN:=aA (sZ hlt (uJ (.inr c2)))
     go_wp2
     go_ret
     exact ⟨dD HN.out.symm,rfl⟩
    ·have HN:=aA (uO hlt HA.out (zy3 (by omega) (by omega)))
     go_wp2
     go_round
     case rel=>exact ⟨k+1,by omega,by go_num,HN.out⟩
     case measure=>simp[intOf];omega
  ·have HN:=aA (fun b hb=>zr3 (s:=s) (k:=k) (by omega) HA.out b hb)
   go_wp2
   go_ret
   exact ⟨dD (HN.out _ (wV s)).symm,rfl⟩
theorem uU (s:ByteArray) (w:World) (hs:s.size≤9223372036854775807) :
  Calls Tryz.prog 80 #[.string s] w fun e w'=>e=.returned (.bool (dX s.data.toList))∧w'=w:=by
 go_enter Tryz.func80,Tryz.ntmps80;go_wp2
 go_loop [3,6] (fun _ i=>∃ k:Nat,k≤s.size∧i=.int .i64 k∧(s.data.toList.take k).all small=true) (fun _ i=>s.size - (intOf i).toNat)
 case atStart=>exact ⟨0,Nat.zero_le _,rfl,rfl⟩
 case round =>
  obtain ⟨k,hk,rfl,ha⟩:=hrel;have HA:=aA ha;clear ha;by_cases hlt:k<s.size
  ·by_cases c1:(s[k].toNat:Int)<97
   ·have HN:=aA (sZ hlt (uJ (.inl c1)))
    go_wp2
    go_ret
    exact ⟨dD HN.out.symm,rfl⟩
   ·by_cases c2:122<(s[k].toNat:Int)
    ·have HN:=aA (sZ hlt (uJ (.inr c2)))
     go_wp2
     go_ret
     exact ⟨dD HN.out.symm,rfl⟩
    ·have HN:=aA (uO hlt HA.out (zy3 (by omega) (by omega)))
     go_wp2
     go_round
     case rel=>exact ⟨k+1,by omega,by go_num,HN.out⟩
     case measure=>simp[intOf];omega
  ·have HN:=aA (fun b hb=>zr3 (s:=s) (k:=k) (by omega) HA.out b hb)
   go_wp2
   go_ret
   exact ⟨dD (HN.out _ (wV s)).symm,rfl⟩
theorem rK:(Tryz.prog.info? 9).map (fun i=>(i.zero,i.size,i.bytes))=some (some (.string ⟨#[]⟩),1,16):=by kernel_rfl
def pR (l:Bs) (q:List Bs) (j k:Nat):Prop:=(k≤l.length→bF (l.take k)=q ++ [(l.drop j).take (k - j)])∧(l.length<k→q=bF l)
theorem zfb (l:Bs):pR l [] 0 0:=⟨fun _=>by simp[bF],fun h=>by omega⟩
theorem zhd (s:ByteArray) {j k:Nat} (hj:j≤k) (hk:k<s.size):(s.data.toList.drop j).take (k+1 - j)=(s.data.toList.drop j).take (k - j) ++ [s[k]]:=by
 have e:k+1 - j=(k - j)+1:=by omega
 have hl:k - j<(s.data.toList.drop j).length:=by simp;omega
 rw[e,List.take_succ_eq_append_getElem hl]
 congr 2
 rw[List.getElem_drop];have:j+(k - j)=k:=by omega
 simp[this]
 rfl
theorem zwd {l:Bs} {q:List Bs} {j:Nat} (h:pR l q j l.length):pR l (q ++ [(l.drop j).take (l.length - j)]) (l.length+1) (l.length+1):=by
 refine ⟨fun h=>by omega,fun _=>?_⟩
 rw[←h.1 (Nat.le_refl _),List.take_length]
theorem zxd {s:ByteArray} {q:List Bs} {j k:Nat} (h:pR s.data.toList q j k) (hk:k<s.size) (hj:j≤k) (hc:s[k]=47):pR s.data.toList (q ++ [(s.data.toList.drop j).take (k - j)]) (k+1) (k+1):=by
 have hl:s.data.toList.length=s.size:=(Lib.size_eq s).symm;refine ⟨fun _=>?_,fun h'=>by omega⟩
 rw[nT s k hk,oW _ _ _ _ (h.1 (by omega)),if_pos hc]
 simp
theorem zeb {s:ByteArray} {q:List Bs} {j k:Nat} (h:pR s.data.toList q j k) (hk:k<s.size) (hj:j≤k) (hc:s[k]≠47):pR s.data.toList q j (k+1):=by
 have hl:s.data.toList.length=s.size:=(Lib.size_eq s).symm;refine ⟨fun _=>?_,fun h'=>by omega⟩
 rw[nT s k hk,oW _ _ _ _ (h.1 (by omega)),if_neg hc,zhd s hj hk]
theorem vV (s:ByteArray) (w:World) (hs:s.size≤2097152) :
  Calls Tryz.prog 219 #[.string s,.int .u8 47] w fun e w'=>∃ v,e=.returned v∧cJ w.heap.size w' v (bF s.data.toList)∧Below w.heap.size w w':=by
 obtain ⟨i1,ki,kz0,kz1,kz2⟩:=info_parts rK;have hl:s.data.toList.length=s.size:=(Lib.size_eq s).symm;have HL:=aA hl;clear hl;have O1:=aA (World.ownsRow_made (base:=w.heap.size) (e:=9) (size:=1) w #[] 0 (Nat.le_refl _) (Nat.zero_le _) rfl);go_enter Tryz.func219,Tryz.ntmps219;go_wp2_with fail
 go_loopw [5,6,7] (fun v f i wr=>∃ (k j:Nat) (q:List Bs),k≤s.size+1∧j≤k∧q.length≤k∧i=.int .i64 k∧f=.int .i64 j∧Hid (cJ w.heap.size wr v q)∧Hid (pR s.data.toList q j k)∧Hid (Below w.heap.size w wr)) (fun _ _ i _=>s.size+1 - (intOf i).toNat)
 case atStart=>exact ⟨0,0,[],by omega,by omega,by simp,rfl,rfl,aA O1.out,aA (zfb _),aA (aC _ _)⟩
 case round =>
  obtain ⟨k,j,q,hk,hj,hq,rfl,rfl,HO,HC,HB⟩:=hrel;obtain ⟨va,vc,rfl⟩:=HO.out.shape;have hm1:q.length+1≤maxLen:=by unfold maxLen;omega
  have hm2:(q.length+1) * 16≤140737488355328:=by omega
  have hsz:=HB.out.size;have HX:=aA (show s.extract j k=str ((s.data.toList.drop j).take (k - j)) from Lib.extract_eq s j k)
  by_cases hlt:k<s.size
  ·by_cases hc:(s[k].toNat:Int)=47
   ·have hne:((k:Int)==(s.size:Int))=false:=by simp;omega
    have HN:=aA (zxd HC.out hlt hj (by apply UInt8.toNat_inj.1;show _=47;omega))
    go_wp2_with (at_builtin;refine bS rfl (.tmp 26) (.tmp 31) 25 rfl w.heap.size 9 i1 (.string ⟨#[]⟩) 1 16 Tryz.underlying25 ki kz0 kz1 kz2 rfl (by decide) _ _ _ rfl HO.out rfl rfl (by intro u hu;simp at hu;subst hu;rfl) hm1 hm2 hsz ?_;intro v' w2 hown2 hkept;have O2:=aA hown2;have K2:=aA hkept;clear hown2 hkept)
    go_roundw
    case rel=>exact ⟨k+1,k+1,q ++ [(s.data.toList.drop j).take (k - j)],by omega,by omega,by simp;omega,by go_num,by go_num,aA (cJ.snoc O2.out HX.out),HN,aA (aD.below_own HB.out hsz HO.out K2.out)⟩
    case measure=>simp[intOf];omega
   ·have hne:((k:Int)==(s.size:Int))=false:=by simp;omega
    have hne2:((s[k].toNat:Int)==47)=false:=by simp;omega
    have HN:=aA (zeb HC.out hlt hj (by intro e;apply hc;rw[e];rfl))
    go_wp2
    go_roundw
    case rel=>exact ⟨k+1,j,q,by omega,by omega,by omega,by go_num,rfl,HO,HN,HB⟩
    case measure=>simp[intOf];omega
  ·by_cases hk2:k=s.size
   ·subst hk2
    have HN:=aA (show pR s.data.toList (q ++ [(s.data.toList.drop j).take (s.size - j)]) (s.size+1) (s.size+1) by have h:=HC.out;rw[←HL.out]at h ⊢;exact zwd h)
    go_wp2_with (at_builtin;refine bS rfl (.tmp 26) (.tmp 31) 25 rfl w.heap.size 9 i1 (.string ⟨#[]⟩) 1 16 Tryz.underlying25 ki kz0 kz1 kz2 rfl (by decide) _ _ _ rfl HO.out rfl rfl (by intro u hu;simp at hu;subst hu;rfl) hm1 hm2 hsz ?_;intro v' w2 hown2 hkept;have O2:=aA hown2;have K2:=aA hkept;clear hown2 hkept)
    go_roundw
    case rel=>exact ⟨s.size+1,s.size+1,q ++ [(s.data.toList.drop j).take (s.size - j)],by omega,by omega,by simp;omega,by go_num,by go_num,aA (cJ.snoc O2.out HX.out),HN,aA (aD.below_own HB.out hsz HO.out K2.out)⟩
    case measure=>simp[intOf]
   ·have hk3:¬ (k:Int)≤(s.size:Int):=by omega
    have HN:=aA (HC.out.2 (by rw[HL.out];omega))
    go_wp2
    go_ret
    exact ⟨_,rfl,by rw[←HN.out];exact HO.out,HB.out⟩
theorem qI (a b:Bs):str a++str b=str (a++b):=by
 apply ByteArray.ext
 simp[str]
theorem cT {α:Type} {ps:List α} {k:Nat} {p:α} (h:ps[k]?=some p):ps.take (k+1)=ps.take k ++ [p]:=by
 obtain ⟨hk,e⟩:=List.getElem?_eq_some_iff.1 h;rw[List.take_succ_eq_append_getElem hk,e]
theorem zwe {ps:List Bs} {k:Nat} {p:Bs} (h:ps[k]?=some p):bR (ps.take (k+1))=bR (ps.take k)++47 :: p:=by
 rw[cT h,kL];simp[bR]
theorem zgh (x p:Bs):str x++(⟨#[47]⟩:ByteArray)++str p=str (x++47 :: p):=by
 have e:(⟨#[47]⟩:ByteArray)=str [47]:=rfl;rw[e,qI,qI];simp
theorem vR (ps:List Bs) (k:Nat):(bR (ps.take k)).length≤(bR ps).length:=by
 conv=>rhs;rw[←List.take_append_drop k ps,kL]
 simp
theorem zy0 (a:Option Addr) (cap:Nat) (ps:List Bs) (w:World) (h:bM w a ps) (hn:ps.length≤4194304) (hj:(bR ps).length≤4194304) (n:Nat) (hpn:n=ps.length) :
  Calls Tryz.prog 197 #[.slice a n cap] w fun e w'=>e=.returned (.string (str (bR ps)))∧w'=w:=by
 have HR:=aA h;clear h;subst hpn;go_enter Tryz.func197,Tryz.ntmps197;go_wp2
 go_loop [3,4] (fun o i=>∃ (k:Nat) (x:Bs),k≤ps.length∧i=.int .i64 k∧o=.string (str x)∧Hid (x=bR (ps.take k))) (fun _ i=>ps.length - (intOf i).toNat)
 case atStart=>exact ⟨0,[],Nat.zero_le _,rfl,rfl,aA rfl⟩
 case round =>
  obtain ⟨k,x,hk,rfl,rfl,HX⟩:=hrel;by_cases hlt:k<ps.length
  ·obtain ⟨b,off,p,rfl,hb,hp,hck⟩:=HR.out.at hlt
   have HE:=aA (zwe hp);have hz:=vR ps (k+1);rw[HE.out,←HX.out]at hz;simp only[List.length_append,List.length_cons]at hz;have hz1:¬ 9223372036854775807<(str x).size+1:=by rw[aP];omega
   have hz2:¬ 9223372036854775807<(str x).size+1+(str p).size:=by rw[aP,aP];omega
   have HP:=aA hp;clear hp;go_wp2
   go_round
   case rel=>exact ⟨k+1,x++47 :: p,by omega,by go_num,by rw[zgh],aA (by rw[HE.out,HX.out])⟩
   case measure=>simp[intOf];omega
  ·have HE:=aA (show ps.take k=ps from List.take_of_length_le (by omega))
   go_wp2
   go_ret
   exact ⟨zc2 (by rw[HX.out,HE.out]),rfl⟩
theorem vK (s:ByteArray) (h:0<s.size):s.data.toList=s[0] :: s.data.toList.tail:=by
 have hl:0<s.data.toList.length:=by rw[←Lib.size_eq];exact h
 cases e:s.data.toList with
 | nil=>rw[e]at hl;simp at hl
 | cons c r =>
  have:s[0]=s.data.toList[0]:=rfl;simp[this,e]
theorem rZ (s:ByteArray):(s.extract 1 s.size).data.toList=s.data.toList.tail:=by
 rw[Lib.extract_data,List.drop_one,List.take_of_length_le (by rw[List.length_tail,←Lib.size_eq];exact Nat.le_refl _)]
theorem pS (s:ByteArray) (a b:Nat):(s.extract a b).size≤s.size:=by
 rw[Lib.size_eq,Lib.extract_data,Lib.size_eq s];simp
 omega
theorem zbc {s:ByteArray} (h:0<s.size):s.toList.isEmpty=false:=by
 rw[ByteArray.toList_eq,vK s h];rfl
theorem zee {s:ByteArray} (h:0<s.size) (hc:s[0]≠47):aF s.data.toList=5:=by
 rw[vK s h];simp[aF,hc]
theorem zkb {s:ByteArray} (h:0<s.size) (hc:s[0]=47):aF s.data.toList=eR (bF s.data.toList.tail):=by
 conv=>lhs;rw[vK s h]
 simp[aF,hc]
theorem zg8 {ns:List Bs} {k:Nat} {p:Bs} (h:ns[k]?=some p) (hp:dX p=false):eR ns=5:=by
 have:ns.all dX=false:=by rw[List.all_eq_false];exact ⟨p,List.mem_of_getElem? h,by simp[hp]⟩
 simp[eR,this]
theorem zt4 {f:Bs→Bool} {ns:List Bs} {k:Nat} {p:Bs} (h:ns[k]?=some p) (ha:(ns.take k).all f=true) (hp:f p=true):(ns.take (k+1)).all f=true:=by
 rw[cT h];simp[ha,hp]
theorem ze8 {ns:List Bs} {k:Nat} {p:Bs} (ha:ns.all dX=true) (h:ns[k]?=some p) (hp:4<p.length):eR ns=2:=by
 have:ns.all (fun n=>decide (n.length≤4))=false:=by rw[List.all_eq_false];exact ⟨p,List.mem_of_getElem? h,by simp;omega⟩
 simp[eR,ha,this]
theorem zf8 {ns:List Bs} (ha:ns.all dX=true) (h:3<ns.length):eR ns=2:=by
 have:¬ ns.length≤3:=by omega
 simp[eR,ha,this]
theorem zde {ns:List Bs} (ha:ns.all dX=true) (hb:ns.all (fun n=>decide (n.length≤4))=true) (h:ns.length≤3):eR ns=0:=by
 simp only[eR,ha,hb,h,decide_true,Bool.and_self,if_true]
theorem zx9 {f:Bs→Bool} {ns:List Bs} {k:Nat} (hk:ns.length≤k) (ha:(ns.take k).all f=true):ns.all f=true:=by
 rwa [List.take_of_length_le hk]at ha
theorem sH (s:ByteArray) (w:World) (hs:s.size≤2097152) :
  Calls Tryz.prog 202 #[.string s] w fun e w'=>e=.returned (.int .i64 (aF s.data.toList))∧Below w.heap.size w w':=by
 by_cases h0:0<s.size
 ·have he:=zbc h0
  by_cases hc:(s[0].toNat:Int)=47
  ·have HF:=aA (zkb h0 (by apply UInt8.toNat_inj.1;show _=47;omega))
   have HT:=aA (rZ s);have hel:=pS s 1 s.size;have hcl:=kK s.data.toList.tail;have hel2:s.data.toList.tail.length≤s.size:=by rw[List.length_tail,←Lib.size_eq];omega
   have HEa:=aA (rH s.data.toList.tail);generalize hns:bF s.data.toList.tail=ns at *;have HN:=aA hns;clear hns;have h1:(1:Int)≤(s.size:Int):=by omega
   go_enter Tryz.func202,Tryz.ntmps202;go_wp2_with fail
   refine (vV _ _ (by omega)).mono ?_
   rintro e w1 ⟨v,rfl,hO,hb1⟩;rw[HT.out,HN.out]at hO;obtain ⟨va,vc,rfl⟩:=hO.shape;have HR:=aA hO.reads;have HB:=aA hb1;clear hO hb1;go_wp2_with fail
   go_loop [4] (fun i=>∃ k:Nat,k≤ns.length∧i=.int .i64 k∧Hid ((ns.take k).all dX=true)) (fun i=>ns.length - (intOf i).toNat)
   case atStart=>exact ⟨0,Nat.zero_le _,rfl,aA (by simp)⟩
   case round =>
    obtain ⟨k,hk,rfl,HA⟩:=hrel;by_cases hlt:k<ns.length
    ·obtain ⟨b,off,p,rfl,hb,hp,hck⟩:=HR.out.at hlt
     have hpz:p.length≤2097152:=by have:=HEa.out p (List.mem_of_getElem? hp);omega
     have HP:=aA hp;clear hp;cases hpl:dX p
     ·have HZ:=aA (zg8 HP.out hpl)
      have HPL:=aA hpl;clear hpl;go_wp2_with (go_at_call 159;refine (sI _ _ (by rw[aP];omega)).mono ?_;rintro e w' ⟨rfl,rfl⟩;rw[bD,HPL.out])
      go_ret
      exact ⟨aM (by rw[HF.out,HZ.out]),HB.out⟩
     ·have HZ:=aA (zt4 HP.out HA.out hpl)
      have HPL:=aA hpl;clear hpl;go_wp2_with (go_at_call 159;refine (sI _ _ (by rw[aP];omega)).mono ?_;rintro e w' ⟨rfl,rfl⟩;rw[bD,HPL.out])
      go_round
      case rel=>exact ⟨k+1,by omega,by go_num,HZ⟩
      case measure=>simp[intOf];omega
    ·have HAll:=aA (zx9 (by omega) HA.out)
     clear HA;go_wp2_with fail
     go_loop [5] (fun i=>∃ k:Nat,k≤ns.length∧i=.int .i64 k∧Hid ((ns.take k).all (fun n=>decide (n.length≤4))=true)) (fun i=>ns.length - (intOf i).toNat)
     case atStart=>exact ⟨0,Nat.zero_le _,rfl,aA (by simp)⟩
     case round =>
      obtain ⟨m,hm,rfl,HA⟩:=hrel;by_cases hlt2:m<ns.length
      ·obtain ⟨b,off,p,rfl,hb,hp,hck⟩:=HR.out.at hlt2
       have HP:=aA hp;clear hp;by_cases hl4:4<p.length
       ·have HZ:=aA (ze8 HAll.out HP.out hl4)
        have hl5:(4:Int)<((str p).size:Int):=by rw[aP];omega
        go_wp2_with fail
        go_ret
        exact ⟨aM (by rw[HF.out,HZ.out]),HB.out⟩
       ·have HZ:=aA (zt4 HP.out HA.out (by simp;omega))
        have hl5:¬ (4:Int)<((str p).size:Int):=by rw[aP];omega
        go_wp2_with fail
        go_round
        case rel=>exact ⟨m+1,by omega,by go_num,HZ⟩
        case measure=>simp[intOf];omega
      ·have HAll2:=aA (zx9 (by omega) HA.out)
       clear HA;by_cases hl3:3<ns.length
       ·have HZ:=aA (zf8 HAll.out hl3)
        have hl5:(3:Int)<(ns.length:Int):=by omega
        go_wp2_with fail
        go_ret
        exact ⟨aM (by rw[HF.out,HZ.out]),HB.out⟩
       ·have HZ:=aA (zde HAll.out HAll2.out (by omega))
        have hl5:¬ (3:Int)<(ns.length:Int):=by omega
        go_wp2_with fail
        go_ret
        exact ⟨aM (by rw[HF.out,HZ.out]),HB.out⟩
  ·have HF:=aA (zee h0 (by intro e;apply hc;rw[e];rfl))
   have hc2:((s[0].toNat:Int) != 47)=true:=by simp;omega
   go_enter Tryz.func202,Tryz.ntmps202;go_wp2
   go_ret
   exact ⟨aM (by rw[HF.out]),Below.refl _ _⟩
 ·have he:s=⟨#[]⟩:=by
   have:=Lib.size_eq s;apply ByteArray.ext
   apply Array.toList_inj.1
   exact List.length_eq_zero_iff.1 (by omega)
  subst he;go_enter Tryz.func202,Tryz.ntmps202;go_wp2
  go_ret
  exact ⟨rfl,Below.refl _ _⟩
end Go.Proofs.YtgaeikgoknoamaaGreat
