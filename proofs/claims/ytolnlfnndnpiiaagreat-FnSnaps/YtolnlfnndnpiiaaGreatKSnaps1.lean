/-
  Texts put together: Mem PathL Strs PathM PathS.
-/
import Derived.Test.YtolnlfnndnpiiaaGreatRows
import Derived.WalkKit
import Derived.WalkSpells
import Derived.WalkLawsBesides
import Derived.Deep.OwnRows
import Derived.BigQuiet
import Derived.Deep.QuietTactic
import Derived.Carry
import Derived.Lib.Bytealg
import Derived.Lib.Strings
set_option linter.unusedVariables false
set_option maxHeartbeats 1600000
set_option maxRecDepth 100000
namespace Go.Proofs.YtolnlfnndnpiiaaGreat
open Go.RowKit
theorem zsE {α:Type}:(∀ (l:List α) (i:Nat) (a:α),l.toArray.setIfInBounds i a=(l.set i a).toArray)∧(∀ (x y:α) l,(x::l).set 0 y=y::l)∧∀ (x y:α) l n,(x::l).set (n+1) y=x::l.set n y:=⟨fun _ _ _=>by simp,fun _ _ _=>rfl,fun _ _ _ _=>rfl⟩
theorem aA {p:Prop} (h:p):Hid p:=h
theorem bQ {a b:Bool} (h:a=b):Ending.returned (.bool a)=.returned (.bool b):=by rw[h]
theorem aO {k:IntKind} {a b:Int} (h:a=b):Ending.returned (.int k a)=.returned (.int k b):=by rw[h]
def aP (k:IntKind) (w:World) (a:Option Addr) (zs:List Int):Prop :=
 zs≠[]→∃ b off,a=some ⟨b,off,none⟩∧b<w.heap.size∧∀ i,i<zs.length→w.cell? ⟨b,off+i,none⟩=some (.int k (zs.getD i 0))
structure aD (S:Nat→Prop) (w w':World):Prop where
 os:w'.os=w.os
 tape:w'.tape=w.tape
 output:w'.output=w.output
 size:w.heap.size≤w'.heap.size
 block:∀ k,k<w.heap.size→¬ S k→w'.heap[k]?=w.heap[k]?
namespace aD
variable {S T:Nat→Prop} {w w' w'':World}
theorem refl (S:Nat→Prop) (w:World):aD S w w:=⟨rfl,rfl,rfl,Nat.le_refl _,fun _ _ _=>rfl⟩
theorem trans (h:aD S w w') (k:aD S w' w''):aD S w w'' :=
 ⟨k.os.trans h.os,k.tape.trans h.tape,k.output.trans h.output,Nat.le_trans h.size k.size,fun i hi hn=>(k.block i (Nat.lt_of_lt_of_le hi h.size) hn).trans (h.block i hi hn)⟩
theorem mono (h:aD S w w') (hs:∀ k,k<w.heap.size→S k→T k):aD T w w':=⟨h.os,h.tape,h.output,h.size,fun k hk hn=>h.block k hk (fun hS=>hn (hs k hk hS))⟩
theorem drew (h:aD S w w'):aD S w w'.drew:=⟨h.os,h.tape,h.output,h.size,h.block⟩
theorem drewN (h:aD S w w'):∀ n,aD S w (w'.drewN n)
 | 0=>h
 | n+1=>(drewN h n).drew
theorem alloc (h:aD S w w') (o:Obj):aD S w (w'.alloc o) :=
 ⟨h.os,h.tape,h.output,Nat.le_trans h.size (by simp),fun k hk hn=>(Below.heap_alloc _ _ _ (Nat.lt_of_lt_of_le hk h.size)).trans (h.block k hk hn)⟩
theorem setCell (h:aD S w w') {p:Addr} (hp:p.block<w.heap.size→S p.block) (u:Value):aD S w (w'.setCell p u) :=
 ⟨h.os,h.tape,h.output,Nat.le_trans h.size (by simp[World.setCell]),fun k hk hn=>(Below.heap_setCell _ _ _ _ (fun e=>by subst e;exact hn (hp hk))).trans (h.block k hk hn)⟩
theorem cell (h:aD S w w') {p:Addr} (hp:p.block<w.heap.size) (hn:¬ S p.block):w'.cell? p=w.cell? p:=World.cell?_of_block (w:=w) (h.block _ hp hn)
theorem frozen (h:aD S w w') {p:Addr} (hp:p.block<w.heap.size) (hn:¬ S p.block):w'.frozen? p=w.frozen? p:=World.frozen?_of_block (w:=w) (h.block _ hp hn)
theorem below (h:aD S w w') {B:Nat} (hB:B≤w.heap.size) (hS:∀ k,k<B→¬ S k):Below B w w':=⟨h.os,h.tape,h.output,h.size,fun k hk=>h.block k (by omega) (hS k hk)⟩
theorem trans_own (h:aD S w w') (k:aD T w' w'') (hn:∀ b,b<w.heap.size→¬ T b):aD S w w'' :=
 ⟨k.os.trans h.os,k.tape.trans h.tape,k.output.trans h.output,Nat.le_trans h.size k.size,fun i hi hs=>(k.block i (Nat.lt_of_lt_of_le hi h.size) (hn i hi)).trans (h.block i hi hs)⟩
theorem of_below (h:Below w.heap.size w w'):aD S w w':=⟨h.os,h.tape,h.output,h.size,fun k hk _=>h.block k hk⟩
end aD
theorem aD.two (w:World) (b i j:Nat) (u v:Value):aD (fun x=>x=b) w ((w.setCell ⟨b,i,none⟩ u).setCell ⟨b,j,none⟩ v) :=
 aD.setCell (S:=fun x=>x=b) (p:=⟨b,j,none⟩) (aD.setCell (S:=fun x=>x=b) (p:=⟨b,i,none⟩) (aD.refl _ w) (fun _=>rfl) u) (fun _=>rfl) v
def Two (w:World) (b:Nat) (u v:Value):Prop:=w.cell? ⟨b,0,none⟩=some u∧w.cell? ⟨b,1,none⟩=some v
theorem Two.lt {w:World} {b:Nat} {u v:Value} (h:Two w b u v):b<w.heap.size:=World.block_lt_of_cell? w ⟨b,0,none⟩ h.1
theorem Two.kept {S:Nat→Prop} {w w':World} {b:Nat} {u v:Value} (h:Two w b u v) (hk:aD S w w') (hn:¬ S b):Two w' b u v :=
 ⟨(hk.cell (p:=⟨b,0,none⟩) h.lt hn).trans h.1,(hk.cell (p:=⟨b,1,none⟩) h.lt hn).trans h.2⟩
theorem Two.below {w w':World} {b:Nat} {u v:Value} (h:Two w b u v) (hk:Below w.heap.size w w'):Two w' b u v :=
 h.kept (S:=fun _=>False) (aD.of_below hk) id
theorem Two.new (w:World) (u v:Value) (t:TypeId):Two (w.alloc (.cells #[u,v] t)) w.heap.size u v:=⟨by simp,by simp⟩
def Box (w:World) (b:Nat) (u v:Value):Prop:=Two w b u v∧w.frozen? ⟨b,0,none⟩=false∧w.frozen? ⟨b,1,none⟩=false
theorem Box.kept {S:Nat→Prop} {w w':World} {b:Nat} {u v:Value} (h:Box w b u v) (hk:aD S w w') (hn:¬ S b):Box w' b u v :=
 ⟨h.1.kept hk hn,(hk.frozen (p:=⟨b,0,none⟩) h.1.lt hn).trans h.2.1,(hk.frozen (p:=⟨b,1,none⟩) h.1.lt hn).trans h.2.2⟩
theorem Box.below {w w':World} {b:Nat} {u v:Value} (h:Box w b u v) (hk:Below w.heap.size w w'):Box w' b u v :=
 h.kept (S:=fun _=>False) (aD.of_below hk) id
theorem Box.new (w:World) (u v:Value) (t:TypeId):Box (w.alloc (.cells #[u,v] t)) w.heap.size u v:=⟨Two.new w u v t,by simp,by simp⟩
theorem aC (w:World) (o:Obj):Below w.heap.size w (w.alloc o):=(Below.refl _ _).alloc (Nat.le_refl _) _
theorem aB {w w' w'':World} (h:Below w.heap.size w w') (k:Below w'.heap.size w' w''):Below w.heap.size w w'':=h.trans (k.mono h.size)
theorem aP.kept {k:IntKind} {S:Nat→Prop} {w w':World} {a:Option Addr} {zs:List Int} (h:aP k w a zs) (hk:aD S w w') (hn:zs≠[]→∀ x,a=some x→¬ S x.block):aP k w' a zs:=by
 intro hz;obtain ⟨b,off,rfl,hb,hc⟩:=h hz;exact ⟨b,off,rfl,Nat.lt_of_lt_of_le hb hk.size,fun i hi=>(hk.cell (p:=⟨b,off+i,none⟩) hb (hn hz ⟨b,off,none⟩ rfl)).trans (hc i hi)⟩
theorem aP.below {k:IntKind} {w w':World} {a:Option Addr} {zs:List Int} (h:aP k w a zs) (hk:Below w.heap.size w w'):aP k w' a zs :=
 h.kept (S:=fun _=>False) (aD.of_below hk) (fun _ _ _=>id)
def U8 (zs:List Int):Prop:=∀ z∈zs,0≤z∧z≤255
theorem U8.get {zs:List Int} (h:U8 zs) (i:Nat):0≤zs.getD i 0∧zs.getD i 0≤255:=by
 by_cases hi:i<zs.length
 ·have e:zs.getD i 0=zs[i]:=by simp[List.getD_eq_getElem?_getD,hi]
  rw[e];exact h _ (List.getElem_mem hi)
 ·have e:zs.getD i 0=0:=by simp[List.getD_eq_getElem?_getD,List.getElem?_eq_none (Nat.le_of_not_lt hi)]
  rw[e];omega
theorem zx8 {W:World} {x:Addr} {l c:Nat} {zs:List Int} (hz:zs.length=c) (hl:l≤c) (hm:c≤maxLen) (hcell:∀ i,i<zs.length→W.cell? (x.add i)=some (.int .u8 (zs.getD i 0))) (hwz:∀ n∈zs,(Lit.int .u8 n).wf=true) :
  ∃ ys:List Int,ys.length=l∧aP .u8 W (some x) ys∧U8 ys∧ys.length≤maxLen:=by
 have hlen:(zs.take l).length=l:=by simp;omega
 refine ⟨zs.take l,hlen,?_,?_,by omega⟩
 ·intro hne
  have h0:0<l:=by
   rcases Nat.eq_zero_or_pos l with h | h
   ·subst h;exact absurd rfl hne
   ·exact h
  obtain ⟨b,off,spot⟩:=x;have hc:=hcell 0 (by omega)
  have hspot:spot=none:=by simpa [Addr.add] using World.cell?_spot hc
  subst hspot;refine ⟨b,off,rfl,World.block_lt_of_cell? W _ (by simpa [Addr.add] using hc),fun i hi=>?_⟩
  have:=hcell i (by omega)
  have e:(zs.take l).getD i 0=zs.getD i 0:=by
   have h2:i<l:=by omega
   simp[List.getD_eq_getElem?_getD,h2]
  rw[e];have ea:(⟨b,off,none⟩:Addr).add i=⟨b,off+i,none⟩:=by unfold Addr.add;split <;> simp_all
  rw[ea]at this;exact this
 ·intro z hz'
  have:=hwz z (List.mem_of_mem_take hz');simp[Lit.wf,IntKind.min,IntKind.max,IntKind.signed,IntKind.bits]at this
  omega
theorem dG {w:World} {a:Addr} {v u:Value} (h:w.cell? a=some u):(w.setCell a v).cell? a=some v :=
 World.cell?_setCell_same' w a v (by rw[h];rfl)
theorem aM {w:World} {a b:Addr} {v:Value} (h:a≠b):(w.setCell a v).cell? b=w.cell? b:=by
 apply World.cell?_setCell_other;exact h
theorem rF {w:World} {b o b' o':Nat} {v u:Value} (h:b≠b') (hc:w.cell? ⟨b',o',none⟩=some u):(w.setCell ⟨b,o,none⟩ v).cell? ⟨b',o',none⟩=some u :=
 (World.cell?_of_block (a:=⟨b',o',none⟩) (w:=w) (Below.heap_setCell w ⟨b,o,none⟩ v b' (fun e=>h e.symm))).trans hc
theorem cS {P:Program} {wr:World} {news:Array Value} {ops:Array Oper} {rest:List Oper} {o:Oper} {a:Act} {Q:Exit→Act→World→Prop} (hgd:o.guard=none) (s x:Operand) (t:TypeId)
  (ho:o.op=.call { callee:=.builtin .append,args:=#[s,x],argTypes:=#[t,t] })
  (base:Nat) (e:TypeId) (i:TypeInfo) (z:Value) (size bytes:Nat) (ht:P.underlying t=some (.slice e)) (hi:P.info? e=some i) (hz:i.zero=some z)
  (hsize:i.size=size) (hby:i.bytes=bytes) (hzs:z.cells.size=size) (hsz:0<size)
  (v:Value) (n:Nat) (xs:List Value) (hs:a.eval s=v) (hown:wr.ownsRow base e size v n xs)
  (hx:a.eval x=.slice (some ⟨wr.heap.size,0,none⟩) 1 1) (hl:news.size=size) (h1:∀ u∈news.toList,u.oneCell'=true)
  (h63:n+1≤maxLen) (hbytes:(n+1) * bytes≤140737488355328) (hbase:base≤wr.heap.size)
  (h:∀ v' w',w'.ownsRow base e size v' (n+1) (xs++news.toList)→aD (fun b=>v.ownBlock=some b) wr w'→wpList P ops Q rest (a.put o.dst v') w') :
  wpList P ops Q (o :: rest) a (wr.alloc (.cells news e)):=by
 refine wpList_append_own _ hgd s x t ho base e i z size bytes ht hi hz hsize hby hzs hsz v n xs hs (hown.alloc _) ⟨wr.heap.size,0,none⟩ 1 1 news.toList hx (by simp[hl]) ?_ h1 h63 hbytes (by simp;omega) ?_
 ·intro j u hj
  have hadd:(⟨wr.heap.size,0,none⟩:Addr).add j=⟨wr.heap.size,j,none⟩:=by unfold Addr.add;split <;> simp_all
  rw[hadd,cell_of_row _ wr.heap.size j news e (0,0) (heap_alloc_new wr _)];simpa using hj
 ·intro v' w' ho' hg _
  refine h v' w' ho' ⟨hg.os,hg.tape,hg.output,Nat.le_trans (by simp) hg.size,fun k hk hn=>?_⟩
  rw[hg.block k (by simp;omega) (fun e=>hn e.symm)]
  exact Below.heap_alloc _ _ _ hk
theorem aD.below_own {w w' wr:World} {B:Nat} {v:Value} {e:TypeId} {size n:Nat} {xs:List Value} (hb:Below B w wr) (hB:B≤wr.heap.size) (hown:wr.ownsRow B e size v n xs) (hk:aD (fun b=>v.ownBlock=some b) wr w'):Below B w w' :=
 hb.trans (hk.below hB (fun k hk' he=>by have:=(hown.lt k he).1;omega))
theorem rP {w:World} {base:Nat} {e:TypeId} {v:Value} {k:IntKind} {n:Nat} {zs:List Int} (h:w.ownsRow base e 1 v n (zs.map (Value.int k))) (hn:n=zs.length) (hz:0<n) :
  ∃ g cap,v=.slice (some ⟨g,0,none⟩) n cap∧base≤g∧g<w.heap.size∧(∀ i,i<n→w.cell? ⟨g,i,none⟩=some (.int k (zs.getD i 0)))∧∀ i,w.frozen? ⟨g,i,none⟩=false:=by
 obtain ⟨h1,h2⟩:=h;rcases h2 with ⟨_,h0⟩ | ⟨g,cap,cur,rfl,hg,hh,hc,hm,hs,ht⟩
 ·omega
 ·refine ⟨g,cap,rfl,hg,(Array.getElem?_eq_some_iff.1 hh).1,fun i hi=>?_,fun i=>by simp[World.frozen?,hh]⟩
  rw[cell_of_row w g i cur e (0,0) hh];have e1:(cur.toList.take (n * 1))[i]?=(zs.map (Value.int k))[i]?:=by rw[ht]
  rw[List.getElem?_take,if_pos (by omega)]at e1
  have hi2:i<zs.length:=by omega
  simp[hi2]at e1
  simpa [List.getD_eq_getElem?_getD,hi2] using e1
theorem aL {S:Nat→Prop} {w w':World} {base:Nat} {e:TypeId} {size:Nat} {v:Value} {n:Nat} {xs:List Value} (h:w.ownsRow base e size v n xs) (hk:aD S w w') (hn:∀ b,v.ownBlock=some b→¬ S b):w'.ownsRow base e size v n xs:=by
 refine ⟨h.1,?_⟩;rcases h.2 with hz | ⟨g,cap,cur,rfl,hb,hgg,rest⟩
 ·exact .inl hz
 ·refine .inr ⟨g,cap,cur,rfl,hb,?_,rest⟩
  rw[hk.block g (Array.getElem?_eq_some_iff.1 hgg).1 (hn g rfl)];exact hgg
theorem aI {w w':World} {base:Nat} {e:TypeId} {size:Nat} {v:Value} {n:Nat} {xs:List Value} (h:w.ownsRow base e size v n xs) (hk:Below w.heap.size w w'):w'.ownsRow base e size v n xs :=
 aL (S:=fun _=>False) h (aD.of_below hk) (fun _ _=>id)
theorem bF {w:World} {base base':Nat} {e:TypeId} {size:Nat} {v:Value} {n:Nat} {xs:List Value} (h:w.ownsRow base e size v n xs) (hb:base'≤base):w.ownsRow base' e size v n xs:=by
 refine ⟨h.1,?_⟩;rcases h.2 with hz | ⟨g,cap,cur,hv,hg,rest⟩
 ·exact .inl hz
 ·exact .inr ⟨g,cap,cur,hv,by omega,rest⟩
theorem bH {w:World} {base:Nat} {e:TypeId} {size:Nat} {v:Value} {n:Nat} {xs:List Value} (h:w.ownsRow base e size v n xs):∃ a c,v=.slice a n c:=by
 rcases h.2 with ⟨rfl,rfl⟩ | ⟨g,cap,cur,rfl,_⟩
 ·exact ⟨_,_,rfl⟩
 ·exact ⟨_,_,rfl⟩
theorem cW {w:World} {b1 b2:Nat} {e1 e2:TypeId} {s1 s2:Nat} {v1 v2:Value} {n1 n2:Nat} {x1 x2:List Value} (h1:w.ownsRow b1 e1 s1 v1 n1 x1) (h2:w.ownsRow b2 e2 s2 v2 n2 x2) (he:e1≠e2) {g:Nat} (hg1:v1.ownBlock=some g) (hg2:v2.ownBlock=some g):False:=by
 rcases h1.2 with ⟨rfl,_⟩ | ⟨g1,c1,cur1,rfl,_,hh1,_⟩
 ·simp[Value.ownBlock]at hg1
 ·rcases h2.2 with ⟨rfl,_⟩ | ⟨g2,c2,cur2,rfl,_,hh2,_⟩
  ·simp[Value.ownBlock]at hg2
  ·simp[Value.ownBlock]at hg1 hg2
   subst hg1 hg2;rw[hh1]at hh2;simp at hh2
   exact he hh2.2
def Own (k:IntKind) (w:World) (a:Option Addr) (zs:List Int):Prop :=
 zs≠[]→∃ b off,a=some ⟨b,off,none⟩∧b<w.heap.size∧∀ i,i<zs.length→w.cell? ⟨b,off+i,none⟩=some (.int k (zs.getD i 0))∧w.frozen? ⟨b,off+i,none⟩=false
def zvc (a:Option Addr) (b:Nat):Prop:=a.map Addr.block=some b
theorem Own.reads {k:IntKind} {w:World} {a:Option Addr} {zs:List Int} (h:Own k w a zs):aP k w a zs:=by
 intro hz;obtain ⟨b,off,e,hb,hc⟩:=h hz;exact ⟨b,off,e,hb,fun i hi=>(hc i hi).1⟩
def zu3 (w w':World):Prop:=∀ (g:Nat) (cur:Array Value) (t:TypeId),w.heap[g]?=some (.cells cur t (0,0))→∃ cur':Array Value,w'.heap[g]?=some (.cells cur' t (0,0))∧cur'.size=cur.size
theorem ztk {w w':World} {B:Nat} {e:TypeId} {g n cap:Nat} {xs ys:List Value} (h:w.ownsRow B e 1 (.slice (some ⟨g,0,none⟩) n cap) n xs) (hs:zu3 w w') (hy:ys.length=n) (hc:∀ i,i<n→w'.cell? ⟨g,i,none⟩=ys[i]?) :
  w'.ownsRow B e 1 (.slice (some ⟨g,0,none⟩) n cap) n ys:=by
 refine ⟨by omega,.inr ?_⟩
 rcases h.2 with ⟨h',_⟩ | ⟨g',cap',cur,h',hb,hh,hnc,hcm,hcs,htake⟩
 ·simp at h'
 ·simp only[Value.slice.injEq,Option.some.injEq,Addr.mk.injEq,and_true,true_and]at h'
  obtain ⟨rfl,rfl⟩:=h';obtain ⟨cur',e',s'⟩:=hs g cur e hh;refine ⟨g,cap,cur',rfl,hb,e',hnc,hcm,by omega,?_⟩
  apply List.ext_getElem?
  intro i;by_cases hi:i<n
  ·have:=hc i hi
   rw[cell_of_row w' g i cur' e (0,0) e']at this;rw[List.getElem?_take,if_pos (by omega),←this]
   simp
  ·rw[List.getElem?_take,if_neg (by omega),List.getElem?_eq_none (by omega)]
theorem zl9 {xs ys:List Int} {k:Nat} (h1:k<xs.length) (h2:k<ys.length) (h:xs.take k=ys.take k) (e:xs.getD k 0=ys.getD k 0):xs.take (k+1)=ys.take (k+1):=by
 rw[List.take_succ_eq_append_getElem h1,List.take_succ_eq_append_getElem h2,h];simp[List.getD_eq_getElem?_getD,h1,h2]at e
 rw[e]
theorem zme {xs ys:List Int} {k:Nat} (e:xs.getD k 0≠ys.getD k 0):(xs==ys)=false:=by
 simp only[beq_eq_false_iff_ne];intro h;exact e (by rw[h])
theorem zfd {xs ys:List Int} {k:Nat} (hk:xs.length≤k) (hk2:ys.length≤k) (h:xs.take k=ys.take k):(xs==ys)=true:=by
 rw[List.take_of_length_le hk,List.take_of_length_le hk2]at h;simp[h]
theorem mQ {w:World} {base:Nat} {e:TypeId} {size:Nat} {a:Option Addr} {n c:Nat} {xs:List Value} (h:w.ownsRow base e size (.slice a n c) n xs):n≤c:=by
 rcases h.2 with ⟨h',rfl⟩ | ⟨g,cap,cur,h',_,_,hc,_⟩
 ·omega
 ·simp only[Value.slice.injEq,true_and]at h'
  omega
def zco (P:Nat→List Int):Nat→Nat
 | 0=>0
 | i+1=>zco P i+(P i).length
theorem zW {w:World} {B:Nat} {e:TypeId} {k:IntKind} {a:Option Addr} {n c:Nat} {zs:List Int} (h:w.ownsRow B e 1 (.slice a n c) n (zs.map (Value.int k))) (hn:n=zs.length):Own k w a zs:=by
 intro hz;have h0:0<n:=by rw[hn];exact List.length_pos_iff.2 hz
 rcases h.2 with ⟨h',_⟩ | ⟨g,cap,cur,h',hb,hh,hnc,hcm,hcs,htake⟩
 ·simp only[Value.slice.injEq]at h'
  omega
 ·simp only[Value.slice.injEq,true_and]at h'
  obtain ⟨rfl,rfl⟩:=h';refine ⟨g,0,rfl,(h.lt g rfl).2,fun i hi=>⟨?_,h.frozenAt _⟩⟩
  rw[Nat.zero_add,h.cellAt i (by omega)]
  simp[List.getD_eq_getElem?_getD,hi]
end Go.Proofs.YtolnlfnndnpiiaaGreat
namespace Go.Proofs.YtolnlfnndnpiiaaGreat
abbrev Bs:=List UInt8
def str (l:Bs):ByteArray:=⟨l.toArray⟩
theorem aT (l:Bs):(str l).data.toList=l:=by simp[str]
theorem aK (l:Bs):(str l).size=l.length:=by simp[str,ByteArray.size]
theorem zj9 (s:ByteArray):str s.data.toList=s:=by simp[str]
def aX:Bs→List Bs
 | []=>[[]]
 | c :: l=>if c=47 then [] :: aX l else
  match aX l with
  | []=>[[c]]
  | p :: ps=>(c :: p) :: ps
def cA:List Bs→Bs
 | []=>[]
 | n :: ns=>47 :: (n++cA ns)
theorem oX (l:Bs):aX l≠[]:=by
 cases l with
 | nil=>simp[aX]
 | cons c l =>
  simp only[aX];split
  ·simp
  ·split <;> simp
theorem jX (l:Bs):aX (47 :: l)=[] :: aX l:=by simp[aX]
theorem gK {c:UInt8} (h:c≠47) {l:Bs} {p:Bs} {ps:List Bs} (e:aX l=p :: ps):aX (c :: l)=(c :: p) :: ps:=by
 simp[aX,h,e]
theorem pT (l:Bs):∃ p ps,aX l=p :: ps:=by
 cases e:aX l with
 | nil=>exact absurd e (oX l)
 | cons p ps=>exact ⟨p,ps,rfl⟩
theorem zz3 {l:Bs} (h:(47:UInt8)∉l):aX l=[l]:=by
 induction l with
 | nil=>rfl
 | cons c l ih =>
  have h1:c≠47:=fun e=>h (by simp[e])
  have h2:(47:UInt8)∉l:=fun e=>h (by simp[e])
  exact gK h1 (ih h2)
theorem zx6 {a:Bs} (b:Bs) (h:(47:UInt8)∉a):aX (a++47 :: b)=a :: aX b:=by
 induction a with
 | nil=>exact jX b
 | cons c a ih =>
  have h1:c≠47:=fun e=>h (by simp[e])
  have h2:(47:UInt8)∉a:=fun e=>h (by simp[e])
  exact gK h1 (ih h2)
theorem pU:∀ (l:Bs) (c:UInt8) (o:List Bs) (x:Bs),aX l=o ++ [x]→aX (l ++ [c])=if c=47 then o ++ [x] ++ [[]] else o ++ [x ++ [c]]
 | [],c,o,x,h=>by
  have e:o=[]∧x=[]:=by
   cases o with
   | nil=>simpa [aX,eq_comm] using h
   | cons a o=>simp[aX]at h
  obtain ⟨rfl,rfl⟩:=e;by_cases hc:c=47
  ·subst hc;simp[aX]
  ·simp[aX,hc]
 | d :: l,c,o,x,h=>by
  by_cases hd:d=47
  ·subst hd
   rw[jX]at h;cases o with
   | nil =>
    simp at h
    exact absurd h.2 (oX l)
   | cons a o =>
    simp at h
    obtain ⟨rfl,h⟩:=h;have ih:=pU l c o x h;simp only[List.cons_append,jX,ih];split <;> simp
  ·obtain ⟨p,ps,e⟩:=pT l
   rw[gK hd e]at h;cases o with
   | nil =>
    simp at h
    obtain ⟨rfl,rfl⟩:=h;have ih:=pU l c [] p e;by_cases hc:c=47
    ·simp only[hc,if_pos,List.nil_append,List.cons_append]at ih ⊢
     exact gK hd ih
    ·simp only[hc,if_false,List.nil_append,List.cons_append]at ih ⊢
     exact gK hd ih
   | cons a o =>
    simp at h
    obtain ⟨rfl,h⟩:=h;have ih:=pU l c (p :: o) x (by simp[e,h])
    by_cases hc:c=47
    ·simp only[hc,if_pos,List.cons_append]at ih ⊢
     exact gK hd ih
    ·simp only[hc,if_false,List.cons_append]at ih ⊢
     exact gK hd ih
theorem yJ:∀ (l:Bs),∀ n∈aX l,(47:UInt8)∉n
 | [],n,h=>by simp[aX]at h;simp[h]
 | c :: l,n,h=>by
  by_cases hc:c=47
  ·subst hc
   rw[jX]at h;rcases List.mem_cons.1 h with rfl | h
   ·simp
   ·exact yJ l n h
  ·obtain ⟨p,ps,e⟩:=pT l
   rw[gK hc e]at h;rcases List.mem_cons.1 h with rfl | h
   ·have:=yJ l p (by simp[e])
    simp[this,Ne.symm hc]
   ·exact yJ l n (by simp[e,h])
theorem lE (a b:List Bs):cA (a++b)=cA a++cA b:=by
 induction a with
 | nil=>rfl
 | cons n a ih=>simp[cA,ih]
theorem rM:∀ (l:Bs),cA (aX l)=47 :: l
 | []=>rfl
 | c :: l=>by
  by_cases hc:c=47
  ·subst hc
   rw[jX,cA,rM l];rfl
  ·obtain ⟨p,ps,e⟩:=pT l
   have ih:=rM l;rw[e,cA]at ih;rw[gK hc e,cA];simp at ih ⊢
   exact ih
theorem rI:∀ {ns:List Bs},ns≠[]→(∀ n∈ns,(47:UInt8)∉n)→aX (cA ns).tail=ns
 | [],h,_=>absurd rfl h
 | [n],_,h=>by simpa [cA] using zz3 (h n (by simp))
 | n :: m :: ns,_,h=>by
  have ih:=rI (ns:=m :: ns) (by simp) (fun x hx=>h x (by simp[List.mem_cons.1 hx]))
  have e:cA (n :: m :: ns)=47 :: (n++47 :: (cA (m :: ns)).tail):=by simp[cA]
  rw[e,List.tail_cons,zx6 _ (h n (by simp)),ih]
theorem zae {ns:List Bs} (h:ns≠[]):cA ns=47 :: (cA ns).tail:=by
 cases ns with
 | nil=>exact absurd rfl h
 | cons n ns=>rfl
theorem lD (l:Bs):(aX l).length≤l.length+1:=by
 induction l with
 | nil=>simp[aX]
 | cons c l ih =>
  by_cases hc:c=47
  ·subst hc;rw[jX];simp;omega
  ·obtain ⟨p,ps,e⟩:=pT l
   rw[gK hc e];rw[e]at ih;simp at ih ⊢;omega
theorem pS:∀ (l:Bs),∀ n∈aX l,n.length≤l.length
 | [],n,h=>by simp[aX]at h;simp[h]
 | c :: l,n,h=>by
  by_cases hc:c=47
  ·subst hc
   rw[jX]at h;rcases List.mem_cons.1 h with rfl | h
   ·simp
   ·have:=pS l n h;simp;omega
  ·obtain ⟨p,ps,e⟩:=pT l
   rw[gK hc e]at h;rcases List.mem_cons.1 h with rfl | h
   ·have:=pS l p (by simp[e]);simp;omega
   ·have:=pS l n (by simp[e,h]);simp;omega
def small (c:UInt8):Bool:=decide (97≤(c.toNat:Int)∧(c.toNat:Int)≤122)
def eH (n:Bs):Bool:=n.all small&&!n.isEmpty
def fI (ns:List Bs):Int:=if ns.all eH then (if ns.all (fun n=>decide (n.length≤4))&&decide (ns.length≤3) then 0 else 2) else 5
def aF (p:Bs):Int :=
 match p with
 | []=>5
 | c :: r=>if c=47 then fI (aX r) else 5
def nP (ns:List Bs):Prop:=ns≠[]∧(∀ n∈ns,eH n=true)∧(∀ n∈ns,n.length≤4)∧ns.length≤3
theorem zwk {n:Bs} (h:eH n=true):(47:UInt8)∉n:=by
 intro hm;simp only[eH,Bool.and_eq_true,List.all_eq_true]at h;have:=h.1 47 hm;exact absurd this (by decide)
theorem zvk {n:Bs} (h:eH n=true):n≠[]:=by
 intro e;subst e;simp[eH]at h
theorem zja {ns:List Bs} (hne:ns≠[]) (h:fI ns=0):nP ns:=by
 unfold fI at h;split at h
 ·rename_i hp
  split at h
  ·rename_i hq
   simp at hp hq
   exact ⟨hne,hp,hq.1,hq.2⟩
  ·omega
 ·omega
theorem zeg {ns:List Bs} (h:nP ns):fI ns=0:=by
 obtain ⟨h0,h1,h2,h3⟩:=h;unfold fI;rw[if_pos (by simpa using h1),if_pos (by simpa using ⟨h2,h3⟩)]
theorem uZ {ns:List Bs} (h:nP ns):∀ n∈ns,(47:UInt8)∉n:=fun n hn=>zwk (h.2.1 n hn)
theorem fV {p:Bs} (h:aF p=0):∃ ns,nP ns∧p=cA ns∧aX p.tail=ns∧p=47 :: p.tail:=by
 cases p with
 | nil=>simp[aF]at h
 | cons c r =>
  by_cases hc:c=47
  ·subst hc
   simp only[aF,if_pos]at h;have hn:=zja (oX r) h;exact ⟨aX r,hn,by rw[rM],rfl,rfl⟩
  ·simp[aF,hc]at h
theorem pV {ns:List Bs} (h:nP ns):aF (cA ns)=0:=by
 rw[zae h.1];simp only[aF,if_pos];rw[rI h.1 (uZ h)];exact zeg h
theorem zzf {ns:List Bs} (h:nP ns):aX (cA ns).tail=ns:=rI h.1 (uZ h)
theorem zo7:∀ (ns:List Bs),(∀ n∈ns,n.length≤4)→(cA ns).length≤5 * ns.length
 | [],_=>by simp[cA]
 | n :: ns,h=>by
  have:=zo7 ns (fun m hm=>h m (by simp[hm]))
  have:=h n (by simp)
  simp[cA];omega
def bR (ns:List Bs):List Bs:=(List.range (ns.length - 1)).map fun k=>cA (ns.take (k+1))
def bG (p:Bs):List Bs:=if aF p=0 then bR (aX p.tail) else []
theorem iX (ns:List Bs):(bR ns).length=ns.length - 1:=by simp[bR]
theorem qS {ns:List Bs} (h:nP ns) {k:Nat} (hk:0<k):nP (ns.take k):=by
 obtain ⟨h0,h1,h2,h3⟩:=h;refine ⟨?_,fun n hn=>h1 n (List.mem_of_mem_take hn),fun n hn=>h2 n (List.mem_of_mem_take hn),by simp;omega⟩
 cases ns with
 | nil=>exact absurd rfl h0
 | cons a l=>cases k with
  | zero=>omega
  | succ k=>simp
theorem qQ {ns:List Bs} {t:Bs}:t∈bR ns↔∃ k,0<k∧k<ns.length∧t=cA (ns.take k):=by
 unfold bR;simp only[List.mem_map,List.mem_range];constructor
 ·rintro ⟨k,hk,rfl⟩;exact ⟨k+1,by omega,by omega,rfl⟩
 ·rintro ⟨k,h0,hk,rfl⟩
  refine ⟨k - 1,by omega,?_⟩
  have:k - 1+1=k:=by omega
  rw[this]
def bD (p t:Bs):Bool:=decide (t.length+1<p.length)&&(p.take t.length==t)&&(p.drop t.length).head?==some 47
theorem kO {p t:Bs} (hp:aF p=0):t∈bR (aX p.tail)↔aF t=0∧bD p t=true:=by
 obtain ⟨ns,hN,hpe,hc,hs⟩:=fV hp;rw[hc,qQ];constructor
 ·rintro ⟨k,h0,hk,rfl⟩
  refine ⟨pV (qS hN h0),?_⟩;have hd:ns.drop k≠[]:=by intro e;have:=congrArg List.length e;simp at this;omega
  obtain ⟨m,ms,hm⟩:∃ m ms,ns.drop k=m :: ms:=by
   cases e:ns.drop k with
   | nil=>exact absurd e hd
   | cons m ms=>exact ⟨m,ms,rfl⟩
  have hm1:m∈ns:=List.mem_of_mem_drop (by rw[hm];simp)
  have hm2:=zvk (hN.2.1 m hm1);have e:p=cA (ns.take k)++47 :: (m++cA ms):=by
   rw[hpe]
   conv=>lhs;rw[←List.take_append_drop k ns,lE,hm,cA]
  have hl:0<m.length:=List.length_pos_iff.2 hm2;rw[e];simp[bD]
  omega
 ·rintro ⟨ht,hb⟩
  obtain ⟨ms,hM,hte,hcm,hsm⟩:=fV ht;simp only[bD,Bool.and_eq_true,decide_eq_true_eq,beq_iff_eq]at hb;obtain ⟨⟨hlen,htake⟩,hhead⟩:=hb;obtain ⟨r,hr⟩:∃ r,p.drop t.length=47 :: r:=by
   cases e:p.drop t.length with
   | nil=>rw[e]at hhead;simp at hhead
   | cons c r=>rw[e]at hhead;simp at hhead;exact ⟨r,by rw[hhead]⟩
  have e:p=cA (ms++aX r):=by
   rw[lE,rM,←hte,←hr]
   conv=>lhs;rw[←List.take_append_drop t.length p,htake]
  have hns:ns=ms++aX r:=by
   rw[←hc,e];refine rI (by simp[hM.1]) (fun n hn=>?_)
   rcases List.mem_append.1 hn with h | h
   ·exact uZ hM n h
   ·exact yJ r n h
  refine ⟨ms.length,List.length_pos_iff.2 hM.1,?_,?_⟩
  ·rw[hns];have:=List.length_pos_iff.2 (oX r);simp;omega
  ·rw[hns];simp[hte]
def kY (ns:List Bs):Bs:=ns.getLastD []
theorem zie {ns:List Bs} (h:ns≠[]):ns=ns.dropLast ++ [kY ns]:=by
 rw[kY,List.getLastD_eq_getLast?];rw[List.getLast?_eq_some_getLast h];exact (List.dropLast_concat_getLast h).symm
end Go.Proofs.YtolnlfnndnpiiaaGreat
namespace Go.Proofs.YtolnlfnndnpiiaaGreat
open Go.RowKit
theorem zp3 {a b:ByteArray} (h:a=b):Ending.returned (.string a)=.returned (.string b):=by rw[h]
def vS (p:Bs):Value:=.string (str p)
def cT (B:Nat) (w:World) (v:Value) (ps:List Bs):Prop:=w.ownsRow B 9 1 v ps.length (ps.map vS)
def bX (w:World) (a:Option Addr) (ps:List Bs):Prop :=
 ps≠[]→∃ b off,a=some ⟨b,off,none⟩∧b<w.heap.size∧∀ i,i<ps.length→w.cell? ⟨b,off+i,none⟩=some (.string (str (ps.getD i [])))
theorem bX.kept {S:Nat→Prop} {w w':World} {a:Option Addr} {ps:List Bs} (h:bX w a ps) (hk:aD S w w') (hn:ps≠[]→∀ x,a=some x→¬ S x.block):bX w' a ps:=by
 intro hz;obtain ⟨b,off,rfl,hb,hc⟩:=h hz;exact ⟨b,off,rfl,Nat.lt_of_lt_of_le hb hk.size,fun i hi=>(hk.cell (p:=⟨b,off+i,none⟩) hb (hn hz ⟨b,off,none⟩ rfl)).trans (hc i hi)⟩
theorem bX.below {w w':World} {a:Option Addr} {ps:List Bs} (h:bX w a ps) (hk:Below w.heap.size w w'):bX w' a ps :=
 h.kept (S:=fun _=>False) (aD.of_below hk) (fun _ _ _=>id)
theorem bX.nil (w:World) (a:Option Addr):bX w a []:=fun h=>absurd rfl h
theorem bX.take {w:World} {a:Option Addr} {ps:List Bs} (h:bX w a ps) (k:Nat):bX w a (ps.take k):=by
 intro hz;have hp:ps≠[]:=by rintro rfl;simp at hz
 obtain ⟨b,off,rfl,hb,hc⟩:=h hp;refine ⟨b,off,rfl,hb,fun i hi=>?_⟩
 have hi':i<k∧i<ps.length:=by simpa [Nat.lt_min] using hi
 rw[hc i hi'.2];simp[List.getD_eq_getElem?_getD,hi'.1]
theorem bX.at {w:World} {a:Option Addr} {ps:List Bs} (h:bX w a ps) {k:Nat} (hk:k<ps.length) :
  ∃ b off p,a=some ⟨b,off,none⟩∧b<w.heap.size∧ps[k]?=some p∧w.cell? ⟨b,off+k,none⟩=some (.string (str p)):=by
 obtain ⟨b,off,e,hb,hc⟩:=h (by intro e;simp[e]at hk)
 refine ⟨b,off,ps[k],e,hb,by simp[hk],?_⟩
 rw[hc k hk];simp[List.getD_eq_getElem?_getD,hk]
namespace cT
variable {B:Nat} {w w':World} {v:Value} {ps:List Bs}
theorem nil (B:Nat) (w:World):cT B w (.slice none 0 0) []:=World.ownsRow_nil _ _ _ _
theorem shape (h:cT B w v ps):∃ a c,v=.slice a ps.length c:=bH h
theorem below (h:cT B w v ps) (hk:Below w.heap.size w w'):cT B w' v ps:=aI h hk
theorem kept {S:Nat→Prop} (h:cT B w v ps) (hk:aD S w w') (hn:∀ b,v.ownBlock=some b→¬ S b):cT B w' v ps:=aL h hk hn
theorem mono {B':Nat} (h:cT B w v ps) (hb:B'≤B):cT B' w v ps:=bF h hb
theorem cap {a:Option Addr} {n c:Nat} (h:cT B w (.slice a n c) ps) (hn:n=ps.length):n≤c:=by
 subst hn;exact mQ h
theorem reads {a:Option Addr} {n c:Nat} (h:cT B w (.slice a n c) ps):bX w a ps:=by
 intro hz;have h0:0<ps.length:=List.length_pos_iff.2 hz;rcases h.2 with ⟨h',hh⟩ | ⟨g,cap,cur,h',hb,hh,hnc,hcm,hcs,htake⟩
 ·omega
 ·have hl:n=ps.length∧a=some ⟨g,0,none⟩:=by simp only[Value.slice.injEq]at h';exact ⟨h'.2.1,h'.1⟩
  obtain ⟨rfl,rfl⟩:=hl;refine ⟨g,0,rfl,(h.lt g rfl).2,fun i hi=>?_⟩
  have:=World.ownsRow.cellAt h i (by omega)
  rw[Nat.zero_add,this];simp[List.getD_eq_getElem?_getD,hi,vS]
end cT
theorem cT.snoc {B:Nat} {w:World} {v:Value} {ps:List Bs} {p:Bs} {s:ByteArray} (h:w.ownsRow B 9 1 v (ps.length+1) (ps.map vS ++ #[Value.string s].toList)) (hs:s=str p):cT B w v (ps ++ [p]):=by
 unfold cT;subst hs;simpa [vS] using h
end Go.Proofs.YtolnlfnndnpiiaaGreat
namespace Go.Proofs.YtolnlfnndnpiiaaGreat
open Go.RowKit
theorem oN (s:ByteArray) (k:Nat) (h:k<s.size):s.data.toList.take (k+1)=s.data.toList.take k ++ [s[k]]:=by
 rw[List.take_succ_eq_append_getElem (by simpa using h)];rfl
theorem vM {s:ByteArray} {k:Nat} (h:k<s.size) (ha:(s.data.toList.take k).all small=true) (hc:small s[k]=true):(s.data.toList.take (k+1)).all small=true:=by
 rw[oN s k h];simp[ha,hc]
theorem uB {s:ByteArray} {k:Nat} (h:k<s.size) (hc:small s[k]=false):eH s.data.toList=false:=by
 have:s[k]∈s.data.toList:=Array.mem_toList_iff.2 (Array.getElem_mem (xs:=s.data) (i:=k) h);have h2:s.data.toList.all small=false:=by
  rw[List.all_eq_false];exact ⟨_,this,by simp[hc]⟩
 simp[eH,h2]
theorem zj5 {c:UInt8} (h1:97≤(c.toNat:Int)) (h2:(c.toNat:Int)≤122):small c=true:=decide_eq_true ⟨h1,h2⟩
theorem vK {c:UInt8} (h:(c.toNat:Int)<97∨122<(c.toNat:Int)):small c=false:=decide_eq_false (by omega)
theorem za5 {s:ByteArray} {k:Nat} (hk:s.size≤k) (ha:(s.data.toList.take k).all small=true) (b:Bool) (hb:b=!s.data.toList.isEmpty):eH s.data.toList=b:=by
 rw[List.take_of_length_le (by simpa using hk)]at ha
 simp[eH,ha,hb]
theorem yC (s:ByteArray):(!s.toList.isEmpty)=!s.data.toList.isEmpty:=by rw[ByteArray.toList_eq]
theorem tE (s:ByteArray) (w:World) (hs:s.size≤9223372036854775807) :
  Calls Tryz.prog 116 #[.string s] w fun e w'=>e=.returned (.bool (eH s.data.toList))∧w'=w:=by
 go_enter Tryz.func116,Tryz.ntmps116;go_wp2
 go_loop [3] (fun i=>∃ k:Nat,k≤s.size∧i=.int .i64 k∧(s.data.toList.take k).all small=true) (fun i=>s.size - (intOf i).toNat)
 case atStart=>exact ⟨0,Nat.zero_le _,rfl,rfl⟩
 case round =>
  obtain ⟨k,hk,rfl,ha⟩:=hrel;have HA:=aA ha;clear ha;by_cases hlt:k<s.size
  ·by_cases c1:(s[k].toNat:Int)<97
   ·have HN:=aA (uB hlt (vK (.inl c1)))
    go_wp2
    go_ret
    exact ⟨bQ HN.out.symm,rfl⟩
   ·by_cases c2:122<(s[k].toNat:Int)
    ·have HN:=aA (uB hlt (vK (.inr c2)))
     go_wp2
     go_ret
     exact ⟨bQ HN.out.symm,rfl⟩
    ·have HN:=aA (vM hlt HA.out (zj5 (by omega) (by omega)))
     go_wp2
     go_round
     case rel=>exact ⟨k+1,by omega,by go_num,HN.out⟩
     case measure=>simp[intOf];omega
  ·have HN:=aA (fun b hb=>za5 (s:=s) (k:=k) (by omega) HA.out b hb)
   go_wp2
   go_ret
   exact ⟨bQ (HN.out _ (yC s)).symm,rfl⟩
theorem vP (s:ByteArray) (w:World) (hs:s.size≤9223372036854775807) :
  Calls Tryz.prog 77 #[.string s] w fun e w'=>e=.returned (.bool (eH s.data.toList))∧w'=w:=by
 go_enter Tryz.func77,Tryz.ntmps77;go_wp2
 go_loop [3,6] (fun _ i=>∃ k:Nat,k≤s.size∧i=.int .i64 k∧(s.data.toList.take k).all small=true) (fun _ i=>s.size - (intOf i).toNat)
 case atStart=>exact ⟨0,Nat.zero_le _,rfl,rfl⟩
 case round =>
  obtain ⟨k,hk,rfl,ha⟩:=hrel;have HA:=aA ha;clear ha;by_cases hlt:k<s.size
  ·by_cases c1:(s[k].toNat:Int)<97
   ·have HN:=aA (uB hlt (vK (.inl c1)))
    go_wp2
    go_ret
    exact ⟨bQ HN.out.symm,rfl⟩
   ·by_cases c2:122<(s[k].toNat:Int)
    ·have HN:=aA (uB hlt (vK (.inr c2)))
     go_wp2
     go_ret
     exact ⟨bQ HN.out.symm,rfl⟩
    ·have HN:=aA (vM hlt HA.out (zj5 (by omega) (by omega)))
     go_wp2
     go_round
     case rel=>exact ⟨k+1,by omega,by go_num,HN.out⟩
     case measure=>simp[intOf];omega
  ·have HN:=aA (fun b hb=>za5 (s:=s) (k:=k) (by omega) HA.out b hb)
   go_wp2
   go_ret
   exact ⟨bQ (HN.out _ (yC s)).symm,rfl⟩
theorem sF:(Tryz.prog.info? 9).map (fun i=>(i.zero,i.size,i.bytes))=some (some (.string ⟨#[]⟩),1,16):=by kernel_rfl
def qN (l:Bs) (q:List Bs) (j k:Nat):Prop:=(k≤l.length→aX (l.take k)=q ++ [(l.drop j).take (k - j)])∧(l.length<k→q=aX l)
theorem zyc (l:Bs):qN l [] 0 0:=⟨fun _=>by simp[aX],fun h=>by omega⟩
theorem zdf (s:ByteArray) {j k:Nat} (hj:j≤k) (hk:k<s.size):(s.data.toList.drop j).take (k+1 - j)=(s.data.toList.drop j).take (k - j) ++ [s[k]]:=by
 have e:k+1 - j=(k - j)+1:=by omega
 have hl:k - j<(s.data.toList.drop j).length:=by simp;omega
 rw[e,List.take_succ_eq_append_getElem hl]
 congr 2
 rw[List.getElem_drop];have:j+(k - j)=k:=by omega
 simp[this]
 rfl
theorem zwf {l:Bs} {q:List Bs} {j:Nat} (h:qN l q j l.length):qN l (q ++ [(l.drop j).take (l.length - j)]) (l.length+1) (l.length+1):=by
 refine ⟨fun h=>by omega,fun _=>?_⟩
 rw[←h.1 (Nat.le_refl _),List.take_length]
theorem zxf {s:ByteArray} {q:List Bs} {j k:Nat} (h:qN s.data.toList q j k) (hk:k<s.size) (hj:j≤k) (hc:s[k]=47):qN s.data.toList (q ++ [(s.data.toList.drop j).take (k - j)]) (k+1) (k+1):=by
 have hl:s.data.toList.length=s.size:=(Lib.size_eq s).symm;refine ⟨fun _=>?_,fun h'=>by omega⟩
 rw[oN s k hk,pU _ _ _ _ (h.1 (by omega)),if_pos hc]
 simp
theorem zxc {s:ByteArray} {q:List Bs} {j k:Nat} (h:qN s.data.toList q j k) (hk:k<s.size) (hj:j≤k) (hc:s[k]≠47):qN s.data.toList q j (k+1):=by
 have hl:s.data.toList.length=s.size:=(Lib.size_eq s).symm;refine ⟨fun _=>?_,fun h'=>by omega⟩
 rw[oN s k hk,pU _ _ _ _ (h.1 (by omega)),if_neg hc,zdf s hj hk]
theorem xA (s:ByteArray) (w:World) (hs:s.size≤2097152) :
  Calls Tryz.prog 213 #[.string s,.int .u8 47] w fun e w'=>∃ v,e=.returned v∧cT w.heap.size w' v (aX s.data.toList)∧Below w.heap.size w w':=by
 obtain ⟨i1,ki,kz0,kz1,kz2⟩:=info_parts sF;have hl:s.data.toList.length=s.size:=(Lib.size_eq s).symm;have HL:=aA hl;clear hl;have O1:=aA (World.ownsRow_made (base:=w.heap.size) (e:=9) (size:=1) w #[] 0 (Nat.le_refl _) (Nat.zero_le _) rfl);go_enter Tryz.func213,Tryz.ntmps213;go_wp2_with fail
 go_loopw [5,6,7] (fun v f i wr=>∃ (k j:Nat) (q:List Bs),k≤s.size+1∧j≤k∧q.length≤k∧i=.int .i64 k∧f=.int .i64 j∧Hid (cT w.heap.size wr v q)∧Hid (qN s.data.toList q j k)∧Hid (Below w.heap.size w wr)) (fun _ _ i _=>s.size+1 - (intOf i).toNat)
 case atStart=>exact ⟨0,0,[],by omega,by omega,by simp,rfl,rfl,aA O1.out,aA (zyc _),aA (aC _ _)⟩
 case round =>
  obtain ⟨k,j,q,hk,hj,hq,rfl,rfl,HO,HC,HB⟩:=hrel;obtain ⟨va,vc,rfl⟩:=HO.out.shape;have hm1:q.length+1≤maxLen:=by unfold maxLen;omega
  have hm2:(q.length+1) * 16≤140737488355328:=by omega
  have hsz:=HB.out.size;have HX:=aA (show s.extract j k=str ((s.data.toList.drop j).take (k - j)) from Lib.extract_eq s j k)
  by_cases hlt:k<s.size
  ·by_cases hc:(s[k].toNat:Int)=47
   ·have hne:((k:Int)==(s.size:Int))=false:=by simp;omega
    have HN:=aA (zxf HC.out hlt hj (by apply UInt8.toNat_inj.1;show _=47;omega))
    go_wp2_with (at_builtin;refine cS rfl (.tmp 26) (.tmp 31) 100 rfl w.heap.size 9 i1 (.string ⟨#[]⟩) 1 16 Tryz.underlying100 ki kz0 kz1 kz2 rfl (by decide) _ _ _ rfl HO.out rfl rfl (by intro u hu;simp at hu;subst hu;rfl) hm1 hm2 hsz ?_;intro v' w2 hown2 hkept;have O2:=aA hown2;have K2:=aA hkept;clear hown2 hkept)
    go_roundw
    case rel=>exact ⟨k+1,k+1,q ++ [(s.data.toList.drop j).take (k - j)],by omega,by omega,by simp;omega,by go_num,by go_num,aA (cT.snoc O2.out HX.out),HN,aA (aD.below_own HB.out hsz HO.out K2.out)⟩
    case measure=>simp[intOf];omega
   ·have hne:((k:Int)==(s.size:Int))=false:=by simp;omega
    have hne2:((s[k].toNat:Int)==47)=false:=by simp;omega
    have HN:=aA (zxc HC.out hlt hj (by intro e;apply hc;rw[e];rfl))
    go_wp2
    go_roundw
    case rel=>exact ⟨k+1,j,q,by omega,by omega,by omega,by go_num,rfl,HO,HN,HB⟩
    case measure=>simp[intOf];omega
  ·by_cases hk2:k=s.size
   ·subst hk2
    have HN:=aA (show qN s.data.toList (q ++ [(s.data.toList.drop j).take (s.size - j)]) (s.size+1) (s.size+1) by have h:=HC.out;rw[←HL.out]at h ⊢;exact zwf h)
    go_wp2_with (at_builtin;refine cS rfl (.tmp 26) (.tmp 31) 100 rfl w.heap.size 9 i1 (.string ⟨#[]⟩) 1 16 Tryz.underlying100 ki kz0 kz1 kz2 rfl (by decide) _ _ _ rfl HO.out rfl rfl (by intro u hu;simp at hu;subst hu;rfl) hm1 hm2 hsz ?_;intro v' w2 hown2 hkept;have O2:=aA hown2;have K2:=aA hkept;clear hown2 hkept)
    go_roundw
    case rel=>exact ⟨s.size+1,s.size+1,q ++ [(s.data.toList.drop j).take (s.size - j)],by omega,by omega,by simp;omega,by go_num,by go_num,aA (cT.snoc O2.out HX.out),HN,aA (aD.below_own HB.out hsz HO.out K2.out)⟩
    case measure=>simp[intOf]
   ·have hk3:¬ (k:Int)≤(s.size:Int):=by omega
    have HN:=aA (HC.out.2 (by rw[HL.out];omega))
    go_wp2
    go_ret
    exact ⟨_,rfl,by rw[←HN.out];exact HO.out,HB.out⟩
theorem qY (a b:Bs):str a++str b=str (a++b):=by
 apply ByteArray.ext
 simp[str]
theorem bY {α:Type} {ps:List α} {k:Nat} {p:α} (h:ps[k]?=some p):ps.take (k+1)=ps.take k ++ [p]:=by
 obtain ⟨hk,e⟩:=List.getElem?_eq_some_iff.1 h;rw[List.take_succ_eq_append_getElem hk,e]
theorem zdh {ps:List Bs} {k:Nat} {p:Bs} (h:ps[k]?=some p):cA (ps.take (k+1))=cA (ps.take k)++47 :: p:=by
 rw[bY h,lE];simp[cA]
theorem zuj (x p:Bs):str x++(⟨#[47]⟩:ByteArray)++str p=str (x++47 :: p):=by
 have e:(⟨#[47]⟩:ByteArray)=str [47]:=rfl;rw[e,qY,qY];simp
theorem wX (ps:List Bs) (k:Nat):(cA (ps.take k)).length≤(cA ps).length:=by
 conv=>rhs;rw[←List.take_append_drop k ps,lE]
 simp
theorem zd2 (a:Option Addr) (cap:Nat) (ps:List Bs) (w:World) (h:bX w a ps) (hn:ps.length≤4194304) (hj:(cA ps).length≤4194304) (n:Nat) (hpn:n=ps.length) :
  Calls Tryz.prog 101 #[.slice a n cap] w fun e w'=>e=.returned (.string (str (cA ps)))∧w'=w:=by
 have HR:=aA h;clear h;subst hpn;go_enter Tryz.func101,Tryz.ntmps101;go_wp2
 go_loop [3,4] (fun o i=>∃ (k:Nat) (x:Bs),k≤ps.length∧i=.int .i64 k∧o=.string (str x)∧Hid (x=cA (ps.take k))) (fun _ i=>ps.length - (intOf i).toNat)
 case atStart=>exact ⟨0,[],Nat.zero_le _,rfl,rfl,aA rfl⟩
 case round =>
  obtain ⟨k,x,hk,rfl,rfl,HX⟩:=hrel;by_cases hlt:k<ps.length
  ·obtain ⟨b,off,p,rfl,hb,hp,hck⟩:=HR.out.at hlt
   have HE:=aA (zdh hp);have hz:=wX ps (k+1);rw[HE.out,←HX.out]at hz;simp only[List.length_append,List.length_cons]at hz;have hz1:¬ 9223372036854775807<(str x).size+1:=by rw[aK];omega
   have hz2:¬ 9223372036854775807<(str x).size+1+(str p).size:=by rw[aK,aK];omega
   have HP:=aA hp;clear hp;go_wp2
   go_round
   case rel=>exact ⟨k+1,x++47 :: p,by omega,by go_num,by rw[zuj],aA (by rw[HE.out,HX.out])⟩
   case measure=>simp[intOf];omega
  ·have HE:=aA (show ps.take k=ps from List.take_of_length_le (by omega))
   go_wp2
   go_ret
   exact ⟨zp3 (by rw[HX.out,HE.out]),rfl⟩
theorem wN (s:ByteArray) (h:0<s.size):s.data.toList=s[0] :: s.data.toList.tail:=by
 have hl:0<s.data.toList.length:=by rw[←Lib.size_eq];exact h
 cases e:s.data.toList with
 | nil=>rw[e]at hl;simp at hl
 | cons c r =>
  have:s[0]=s.data.toList[0]:=rfl;simp[this,e]
theorem qF (s:ByteArray):(s.extract 1 s.size).data.toList=s.data.toList.tail:=by
 rw[Lib.extract_data,List.drop_one,List.take_of_length_le (by rw[List.length_tail,←Lib.size_eq];exact Nat.le_refl _)]
theorem nV (s:ByteArray) (a b:Nat):(s.extract a b).size≤s.size:=by
 rw[Lib.size_eq,Lib.extract_data,Lib.size_eq s];simp
 omega
theorem zyd {s:ByteArray} (h:0<s.size):s.toList.isEmpty=false:=by
 rw[ByteArray.toList_eq,wN s h];rfl
theorem zgg {s:ByteArray} (h:0<s.size) (hc:s[0]≠47):aF s.data.toList=5:=by
 rw[wN s h];simp[aF,hc]
theorem zhd {s:ByteArray} (h:0<s.size) (hc:s[0]=47):aF s.data.toList=fI (aX s.data.toList.tail):=by
 conv=>lhs;rw[wN s h]
 simp[aF,hc]
theorem zia {ns:List Bs} {k:Nat} {p:Bs} (h:ns[k]?=some p) (hp:eH p=false):fI ns=5:=by
 have:ns.all eH=false:=by rw[List.all_eq_false];exact ⟨p,List.mem_of_getElem? h,by simp[hp]⟩
 simp[fI,this]
theorem zk6 {f:Bs→Bool} {ns:List Bs} {k:Nat} {p:Bs} (h:ns[k]?=some p) (ha:(ns.take k).all f=true) (hp:f p=true):(ns.take (k+1)).all f=true:=by
 rw[bY h];simp[ha,hp]
theorem zga {ns:List Bs} {k:Nat} {p:Bs} (ha:ns.all eH=true) (h:ns[k]?=some p) (hp:4<p.length):fI ns=2:=by
 have:ns.all (fun n=>decide (n.length≤4))=false:=by rw[List.all_eq_false];exact ⟨p,List.mem_of_getElem? h,by simp;omega⟩
 simp[fI,ha,this]
theorem zha {ns:List Bs} (ha:ns.all eH=true) (h:3<ns.length):fI ns=2:=by
 have:¬ ns.length≤3:=by omega
 simp[fI,ha,this]
theorem zfg {ns:List Bs} (ha:ns.all eH=true) (hb:ns.all (fun n=>decide (n.length≤4))=true) (h:ns.length≤3):fI ns=0:=by
 simp only[fI,ha,hb,h,decide_true,Bool.and_self,if_true]
theorem zxb {f:Bs→Bool} {ns:List Bs} {k:Nat} (hk:ns.length≤k) (ha:(ns.take k).all f=true):ns.all f=true:=by
 rwa [List.take_of_length_le hk]at ha
theorem tD (s:ByteArray) (w:World) (hs:s.size≤2097152) :
  Calls Tryz.prog 159 #[.string s] w fun e w'=>e=.returned (.int .i64 (aF s.data.toList))∧Below w.heap.size w w':=by
 by_cases h0:0<s.size
 ·have he:=zyd h0
  by_cases hc:(s[0].toNat:Int)=47
  ·have HF:=aA (zhd h0 (by apply UInt8.toNat_inj.1;show _=47;omega))
   have HT:=aA (qF s);have hel:=nV s 1 s.size;have hcl:=lD s.data.toList.tail;have hel2:s.data.toList.tail.length≤s.size:=by rw[List.length_tail,←Lib.size_eq];omega
   have HEa:=aA (pS s.data.toList.tail);generalize hns:aX s.data.toList.tail=ns at *;have HN:=aA hns;clear hns;have h1:(1:Int)≤(s.size:Int):=by omega
   go_enter Tryz.func159,Tryz.ntmps159;go_wp2_with fail
   refine (xA _ _ (by omega)).mono ?_
   rintro e w1 ⟨v,rfl,hO,hb1⟩;rw[HT.out,HN.out]at hO;obtain ⟨va,vc,rfl⟩:=hO.shape;have HR:=aA hO.reads;have HB:=aA hb1;clear hO hb1;go_wp2_with fail
   go_loop [4] (fun i=>∃ k:Nat,k≤ns.length∧i=.int .i64 k∧Hid ((ns.take k).all eH=true)) (fun i=>ns.length - (intOf i).toNat)
   case atStart=>exact ⟨0,Nat.zero_le _,rfl,aA (by simp)⟩
   case round =>
    obtain ⟨k,hk,rfl,HA⟩:=hrel;by_cases hlt:k<ns.length
    ·obtain ⟨b,off,p,rfl,hb,hp,hck⟩:=HR.out.at hlt
     have hpz:p.length≤2097152:=by have:=HEa.out p (List.mem_of_getElem? hp);omega
     have HP:=aA hp;clear hp;cases hpl:eH p
     ·have HZ:=aA (zia HP.out hpl)
      have HPL:=aA hpl;clear hpl;go_wp2_with (go_at_call 116;refine (tE _ _ (by rw[aK];omega)).mono ?_;rintro e w' ⟨rfl,rfl⟩;rw[aT,HPL.out])
      go_ret
      exact ⟨aO (by rw[HF.out,HZ.out]),HB.out⟩
     ·have HZ:=aA (zk6 HP.out HA.out hpl)
      have HPL:=aA hpl;clear hpl;go_wp2_with (go_at_call 116;refine (tE _ _ (by rw[aK];omega)).mono ?_;rintro e w' ⟨rfl,rfl⟩;rw[aT,HPL.out])
      go_round
      case rel=>exact ⟨k+1,by omega,by go_num,HZ⟩
      case measure=>simp[intOf];omega
    ·have HAll:=aA (zxb (by omega) HA.out)
     clear HA;go_wp2_with fail
     go_loop [5] (fun i=>∃ k:Nat,k≤ns.length∧i=.int .i64 k∧Hid ((ns.take k).all (fun n=>decide (n.length≤4))=true)) (fun i=>ns.length - (intOf i).toNat)
     case atStart=>exact ⟨0,Nat.zero_le _,rfl,aA (by simp)⟩
     case round =>
      obtain ⟨m,hm,rfl,HA⟩:=hrel;by_cases hlt2:m<ns.length
      ·obtain ⟨b,off,p,rfl,hb,hp,hck⟩:=HR.out.at hlt2
       have HP:=aA hp;clear hp;by_cases hl4:4<p.length
       ·have HZ:=aA (zga HAll.out HP.out hl4)
        have hl5:(4:Int)<((str p).size:Int):=by rw[aK];omega
        go_wp2_with fail
        go_ret
        exact ⟨aO (by rw[HF.out,HZ.out]),HB.out⟩
       ·have HZ:=aA (zk6 HP.out HA.out (by simp;omega))
        have hl5:¬ (4:Int)<((str p).size:Int):=by rw[aK];omega
        go_wp2_with fail
        go_round
        case rel=>exact ⟨m+1,by omega,by go_num,HZ⟩
        case measure=>simp[intOf];omega
      ·have HAll2:=aA (zxb (by omega) HA.out)
       clear HA;by_cases hl3:3<ns.length
       ·have HZ:=aA (zha HAll.out hl3)
        have hl5:(3:Int)<(ns.length:Int):=by omega
        go_wp2_with fail
        go_ret
        exact ⟨aO (by rw[HF.out,HZ.out]),HB.out⟩
       ·have HZ:=aA (zfg HAll.out HAll2.out (by omega))
        have hl5:¬ (3:Int)<(ns.length:Int):=by omega
        go_wp2_with fail
        go_ret
        exact ⟨aO (by rw[HF.out,HZ.out]),HB.out⟩
  ·have HF:=aA (zgg h0 (by intro e;apply hc;rw[e];rfl))
   have hc2:((s[0].toNat:Int) != 47)=true:=by simp;omega
   go_enter Tryz.func159,Tryz.ntmps159;go_wp2
   go_ret
   exact ⟨aO (by rw[HF.out]),Below.refl _ _⟩
 ·have he:s=⟨#[]⟩:=by
   have:=Lib.size_eq s;apply ByteArray.ext
   apply Array.toList_inj.1
   exact List.length_eq_zero_iff.1 (by omega)
  subst he;go_enter Tryz.func159,Tryz.ntmps159;go_wp2
  go_ret
  exact ⟨rfl,Below.refl _ _⟩
end Go.Proofs.YtolnlfnndnpiiaaGreat
