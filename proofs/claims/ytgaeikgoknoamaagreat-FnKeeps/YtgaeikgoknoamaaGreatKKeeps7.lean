/-
  Texts put together: SeeA MerL OvrL SeeB OvrM SeeC.
-/
import Derived.Test.YtgaeikgoknoamaaGreatKKeeps6
import Derived.Maps.OwnSet
import Derived.DeepKeys5
import Derived.Deep.RegionLaw
import Derived.Test.YtgaeikgoknoamaaGreatKKeeps3
set_option linter.unusedVariables false
set_option maxHeartbeats 6400000
set_option maxRecDepth 100000
namespace Go.Proofs.YtgaeikgoknoamaaGreat
open Go.RowKit Go.Maps
attribute [local go_sem ↓] Go.wp_at_zero Go.wp_at_succ
theorem zdd:laidOutB Tryz.prog=true:=by kernel_rfl
theorem fQ:Keyed Tryz.prog 177:=Keyed.of_law (deep_law_gate zdd (by decide +kernel) (by decide +kernel) (by kernel_rfl) (by kernel_rfl))
def gE (i:Nat) (p:Bs):Value:=.agg #[.int .i64 i,.string (str p)]
def eC (i:Nat) (p:Bs):Lit:=.string (keyBytes [.int .i64 i,.string (str p).data.toList])
theorem zsi:Tryz.prog.keyType 177=true:=by kernel_rfl
theorem zz3:Tryz.prog.cellsOf 177=2:=by kernel_rfl
theorem zeh:Tryz.prog.cellsOf 3=1:=by kernel_rfl
theorem zui:Tryz.prog.cellsOf 9=1:=by kernel_rfl
theorem zel:∃ m,Tryz.prog.types.size+1=m+1+1:=⟨Tryz.prog.types.size - 1,by have:1≤Tryz.prog.types.size:=(by decide +kernel);omega⟩
theorem zsj {i:Nat} (h:i≤100):(Lit.int .i64 (i:Int)).wf=true:=by
 simp[Lit.wf,IntKind.min,IntKind.max,IntKind.signed,IntKind.bits];omega
theorem lL {i:Nat} {p:Bs} (hi:i≤100) (hp:p.length≤1048576):keyOf Tryz.prog 177 (gE i p)=some (eC i p):=by
 have hs:(str p).size≤maxLen:=by rw[aP];unfold maxLen;omega
 have hw:=zsj hi;obtain ⟨m,hm⟩:=zel;unfold keyOf gE eC;rw[Tryz.underlying177];simp only[zsi,Value.formed,Tryz.underlying177,zz3,Value.cells];rw[hm];simp[Program.keyLits,Tryz.underlying177,zz3,Tryz.underlying3,Tryz.underlying9,zeh,zui,hs,hw]
theorem zeg {i j:Nat} {p q:Bs} (h:gE i p=gE j q):i=j∧p=q:=by
 unfold gE at h;simp only[Value.agg.injEq,Array.mk.injEq,List.cons.injEq,Value.int.injEq,Value.string.injEq,true_and,and_true]at h;refine ⟨by omega,?_⟩
 have:=congrArg (fun s:ByteArray=>s.data.toList) h.2
 simpa [bD] using this
theorem rX {i j:Nat} {p q:Bs} (hi:i≤100) (hj:j≤100) (hp:p.length≤1048576) (hq:q.length≤1048576) (h:eC i p=eC j q):i=j∧p=q:=by
 have h1:=lL hi hp;have h2:=lL hj hq;rw[←h]at h2;exact zeg (fQ.inj h1 h2)
def RVs (v:Value):Option (DataW Value × List MemPlace):=some (.held v,[])
def itV (e:En) (a:Option Addr) (c:Nat):Value:=.agg #[.int .i64 e.size,.slice a e.chunks.length c,.string (str e.path),.int .i64 e.kind]
theorem zt7 (w:World):(zeroValue 91).run Tryz.prog w=.ok (.agg #[.int .i64 0,.slice none 0 0,.string ⟨#[]⟩,.int .i64 0]) w:=by kernel_rfl
def dZ (w0 w:World) (b N:Nat) (S:Nat→Bs→Option En):Prop :=
 ∃ (Dt:DataW Value) (A:Nat→Bs→Option Addr) (C:Nat→Bs→Nat),w.ownsMap Tryz.prog 177 RVs b N Dt ∧
  (∀ i p,i≤100→p.length≤1048576→has Dt (eC i p)=(S i p).isSome) ∧
  (∀ i p e,i≤100→p.length≤1048576→S i p=some e→(∀ z,Dt.atKey (eC i p) z=.held (itV e (A i p) (C i p)))∧aO .i64 w0 (A i p) e.chunks) ∧
  (∀ kl,has Dt kl=true→∃ i p,i≤100∧p.length≤1048576∧kl=eC i p)
theorem dZ.lt {w0 w:World} {b N:Nat} {S:Nat→Bs→Option En} (h:dZ w0 w b N S):b<w.heap.size:=by
 obtain ⟨Dt,A,C,h1,_⟩:=h;exact h1.lt
theorem dZ.kept {Q:Nat→Prop} {w0 w w':World} {b N:Nat} {S:Nat→Bs→Option En} (h:dZ w0 w b N S) (hk:aD Q w w') (hb:¬ Q b):dZ w0 w' b N S:=by
 obtain ⟨Dt,A,C,h1,h2⟩:=h;have hlt:=h1.lt;obtain ⟨es,clock,hh,r⟩:=h1;exact ⟨Dt,A,C,⟨es,clock,(hk.block b hlt hb).trans hh,r⟩,h2⟩
theorem dZ.below {w0 w w':World} {b N:Nat} {S:Nat→Bs→Option En} (h:dZ w0 w b N S) (hk:Below w.heap.size w w'):dZ w0 w' b N S :=
 h.kept (Q:=fun _=>False) (aD.of_below hk) id
theorem dZ.congr {w0 w:World} {b N:Nat} {S S':Nat→Bs→Option En} (h:dZ w0 w b N S) (hS:∀ i p,S i p=S' i p):dZ w0 w b N S':=by
 have:S=S':=funext fun i=>funext fun p=>hS i p
 rw[←this];exact h
theorem dZ.made (w0 w:World):dZ w0 (w.alloc (.map #[] 0)) w.heap.size 0 (fun _ _=>none):=by
 refine ⟨.map [],fun _ _=>none,fun _ _=>0,World.ownsMap_made _ _ _ _,?_,?_,?_⟩
 ·intro i p _ _
  simp[has]
 ·intro i p e _ _ h
  simp at h
 ·intro kl h
  simp[has]at h
theorem wP {w w':World} {b:Nat} (h:w.grownBy w' (some b)):aD (fun x=>x=b) w w' :=
 ⟨h.os,h.tape,h.output,h.size,fun k hk hn=>h.block k hk (fun e=>hn (by simpa using e))⟩
theorem uM {i:Nat} {p:Bs} (hi:i≤100) (hp:p.length≤1048576):WideAt.IsKeyLit (eC i p):=fQ.key (lL hi hp)
theorem dZ.put {w0 w:World} {b N i:Nat} {p:Bs} {S:Nat→Bs→Option En} {e:En} {a:Option Addr} {c:Nat} (h:dZ w0 w b N S) (hi:i≤100) (hp:p.length≤1048576) (hr:aO .i64 w0 a e.chunks) :
  ∃ Dt,w.ownsMap Tryz.prog 177 RVs b N Dt∧∀ w',w'.ownsMap Tryz.prog 177 RVs b (N+1) (Dt.put (eC i p) (.held (itV e a c)))→dZ w0 w' b (N+1) (fun j q=>if j=i∧q=p then some e else S j q):=by
 obtain ⟨Dt,A,C,h1,h2,h3,h4⟩:=h;refine ⟨Dt,h1,fun w' ho=>?_⟩
 refine ⟨_,fun j q=>if j=i∧q=p then a else A j q,fun j q=>if j=i∧q=p then c else C j q,ho,fun j q hj hq=>?_,fun j q x hj hq hx=>?_,fun kl hkl=>?_⟩
 ·by_cases e1:j=i∧q=p
  ·obtain ⟨rfl,rfl⟩:=e1
   rw[has_put_same h1.isMap (uM hj hq)];simp
  ·have hne:eC j q≠eC i p:=fun hk=>e1 (rX hj hi hq hp hk)
   rw[has_put_other (by simpa using hne),h2 j q hj hq]
   simp[e1]
 ·by_cases e1:j=i∧q=p
  ·simp only[if_pos e1]at hx ⊢
   cases hx
   obtain ⟨rfl,rfl⟩:=e1;exact ⟨fun z=>atKey_put_same h1.isMap (uM hj hq) _ _,hr⟩
  ·have hne:eC j q≠eC i p:=fun hk=>e1 (rX hj hi hq hp hk)
   simp only[if_neg e1]at hx ⊢;exact ⟨fun z=>by rw[atKey_put_other (by simpa using hne)];exact (h3 j q x hj hq hx).1 z,(h3 j q x hj hq hx).2⟩
 ·by_cases e1:kl=eC i p
  ·exact ⟨i,p,hi,hp,e1⟩
  ·rw[has_put_other (by simpa using e1)]at hkl
   exact h4 kl hkl
theorem dZ.yes {w0 w:World} {b N i:Nat} {p:Bs} {S:Nat→Bs→Option En} {e:En} (h:dZ w0 w b N S) (hi:i≤100) (hp:p.length≤1048576) (he:S i p=some e) :
  ∃ a c,(Instr.lookup 120 (.map (some b)) (gE i p) true).run Tryz.prog w=.ok (.tuple #[itV e a c,.bool true]) w∧(Instr.lookup 120 (.map (some b)) (gE i p) false).run Tryz.prog w=.ok (itV e a c) w∧aO .i64 w0 a e.chunks:=by
 obtain ⟨Dt,A,C,h1,h2,h3,h4⟩:=h;refine ⟨A i p,C i p,?_,?_,(h3 i p e hi hp he).2⟩
 ·obtain ⟨v,ps,hrun,hv⟩:=h1.look_ok fQ Tryz.underlying120 (zt7 w) (zd:=.held (.agg #[.int .i64 0,.slice none 0 0,.string ⟨#[]⟩,.int .i64 0])) (zp:=[]) rfl (lL hi hp)
  simp only[RVs,Option.some.injEq,Prod.mk.injEq,(h3 i p e hi hp he).1]at hv;have e1:=hv.1;simp only[DataW.held.injEq]at e1;rw[hrun,h2 i p hi hp,he];simp[e1]
 ·obtain ⟨v,ps,hrun,hv⟩:=h1.lookup fQ Tryz.underlying120 (zt7 w) (zd:=.held (.agg #[.int .i64 0,.slice none 0 0,.string ⟨#[]⟩,.int .i64 0])) (zp:=[]) rfl (lL hi hp)
  simp only[RVs,Option.some.injEq,Prod.mk.injEq,(h3 i p e hi hp he).1]at hv;have e1:=hv.1;simp only[DataW.held.injEq]at e1;rw[hrun];simp[e1]
theorem dZ.no {w0 w:World} {b N i:Nat} {p:Bs} {S:Nat→Bs→Option En} (h:dZ w0 w b N S) (hi:i≤100) (hp:p.length≤1048576) (he:S i p=none) :
  (Instr.lookup 120 (.map (some b)) (gE i p) true).run Tryz.prog w=.ok (.tuple #[.agg #[.int .i64 0,.slice none 0 0,.string ⟨#[]⟩,.int .i64 0],.bool false]) w:=by
 obtain ⟨Dt,A,C,h1,h2,h3,h4⟩:=h;obtain ⟨v,ps,hrun,hv⟩:=h1.look_ok fQ Tryz.underlying120 (zt7 w) (zd:=.held (.agg #[.int .i64 0,.slice none 0 0,.string ⟨#[]⟩,.int .i64 0])) (zp:=[]) rfl (lL hi hp);have hh:has Dt (eC i p)=false:=by rw[h2 i p hi hp,he];rfl
 rw[atKey_of_not_has hh]at hv;simp only[RVs,Option.some.injEq,Prod.mk.injEq]at hv;have e1:=hv.1;simp only[DataW.held.injEq]at e1;rw[hrun,hh,e1]
theorem hI {P:Program} {w:World} {ops:Array Oper} {rest:List Oper} {o:Oper} {a:Act} {Q:Exit→Act→World→Prop} (hg:o.guard=none) (m x:Operand) (t:TypeId) (c:Bool) (hop:o.op=Op.lookup t m x c)
  (vm vx v:Value) (hm:a.eval m=vm) (hx:a.eval x=vx) (hrun:(Instr.lookup t vm vx c).run P w=.ok v w) (h:wpList P ops Q rest (a.put o.dst v) w):wpList P ops Q (o :: rest) a w:=by
 refine wpList_plain hg fun K' hK'=>?_
 unfold Oper.wp;simp[execOp,hop,hm,hx,hrun,Result.andThen]
 exact hK' _ _ h
end Go.Proofs.YtgaeikgoknoamaaGreat
namespace Go.Proofs.YtgaeikgoknoamaaGreat
structure Fit (es:List En):Prop where
 ent:∀ e∈es,aI e=0
 rise:eL es
 home:∀ e∈es,cQ es e.path=true
structure kO (es:List En):Prop where
 fit:Fit es
 kind:∀ e∈es,sA e.kind=true
theorem zoj:Fit []:=⟨fun e he=>by simp at he,List.Pairwise.nil,fun e he=>by simp at he⟩
theorem zah:kO []:=⟨zoj,fun e he=>by simp at he⟩
theorem jX {es:List En}:aV es↔Fit es∧es.length≤12:=⟨fun h=>⟨⟨h.ent,h.rise,h.home⟩,h.len⟩,fun h=>⟨h.2,h.1.ent,h.1.rise,h.1.home⟩⟩
theorem Fit.path {es:List En} (h:Fit es) {e:En} (he:e∈es):aF e.path=0:=bQ (h.ent e he)
theorem zk2:∀ (p:Bs) (c:UInt8) (r:Bs),Op.bytesLess p (p++c :: r)=true
 | [],c,r=>by simp[Op.bytesLess]
 | a :: p,c,r=>by simp[Op.bytesLess,zk2 p c r]
theorem za0 {q p:Bs} (h:bG q p=true):Op.bytesLess p q=true:=by
 obtain ⟨r,_,rfl⟩:=nH.1 h;exact zk2 p 47 r
theorem xR {q p:Bs} (h:Op.bytesLess q p=true):bG q p=false:=by
 cases hb:bG q p
 ·rfl
 ·have:=iR (za0 hb);rw[h]at this;cases this
theorem zj8 (es:List En) (f:Bs→Bool) (q:Bs):aK (es.filter fun e=>f e.path) q=if f q then aK es q else none:=by
 unfold aK;rw[List.find?_filter];cases hq:f q
 ·rw[if_neg (by simp),List.find?_eq_none]
  intro x hx;by_cases e:x.path=q
  ·simp[e,hq]
  ·simp[e]
 ·rw[if_pos rfl]
  congr 1
  funext x
  by_cases e:x.path=q
  ·simp[e,hq]
  ·simp[e]
theorem zqb {bs:List En} {e:En} (hn:∀ x∈bs,x.path≠e.path) (q:Bs):aK (gI bs e) q=if q=e.path then some e else aK bs q:=by
 unfold gI;by_cases h:q=e.path
 ·rw[if_pos h,aK,List.find?_append]
  have h1:List.find? (fun x:En=>decide (x.path=q)) (bs.take (lV bs e.path))=none:=by
   rw[List.find?_eq_none];intro x hx;simpa [h] using hn x (List.mem_of_mem_take hx)
  rw[h1];simp[h]
 ·rw[if_neg h]
  conv=>rhs;rw[←List.take_append_drop (lV bs e.path) bs]
  have h2:decide (e.path=q)=false:=by simpa using fun x:e.path=q=>h x.symm
  simp only[aK,List.find?_append,List.find?_cons,h2]
theorem vI {D:List En} {e:En} (hn:∀ x∈D,x.path≠e.path) (q:Bs):aK (D ++ [e]) q=if q=e.path then some e else aK D q:=by
 by_cases h:q=e.path
 ·rw[if_pos h,aK,List.find?_append]
  have h1:List.find? (fun x:En=>decide (x.path=q)) D=none:=by
   rw[List.find?_eq_none];intro x hx;simpa [h] using hn x hx
  rw[h1];simp[h]
 ·rw[if_neg h]
  have h2:decide (e.path=q)=false:=by simpa using fun x:e.path=q=>h x.symm
  simp only[aK,List.find?_append,List.find?_cons,h2,List.find?_nil,Option.or_none]
theorem zP:∀ {es fs:List En},eL es→eL fs→(∀ q,aK es q=aK fs q)→es=fs
 | [],[],_,_,_=>rfl
 | [],y :: fs,_,h2,h=>by
  have:=h y.path;rw[eA h2 List.mem_cons_self]at this;cases this
 | x :: es,[],h1,_,h=>by
  have:=h x.path;rw[eA h1 List.mem_cons_self]at this;cases this
 | x :: es,y :: fs,h1,h2,h=>by
  have p1:=List.pairwise_cons.1 h1;have p2:=List.pairwise_cons.1 h2;have hx:x∈y :: fs:=by
   have:=h x.path;rw[eA h1 List.mem_cons_self]at this;exact (eN this.symm).1
  have hy:y∈x :: es:=by
   have:=h y.path;rw[eA h2 List.mem_cons_self]at this;exact (eN this).1
  have hxy:x=y:=by
   rcases List.mem_cons.1 hx with e | hx
   ·exact e
   ·rcases List.mem_cons.1 hy with e | hy
    ·exact e.symm
    ·have a1:=p2.1 x hx
     have a2:=p1.1 y hy;have:=iR a1;rw[a2]at this;cases this
  subst hxy
  congr 1
  refine zP p1.2 p2.2 (fun q=>?_)
  by_cases e:x.path=q
  ·rw[iZ (fun y hy e2=>kB (p1.1 y hy) (e.trans e2.symm)),iZ (fun y hy e2=>kB (p2.1 y hy) (e.trans e2.symm))]
  ·have:=h q
   simpa [aK,e] using this
theorem Fit.bare {es:List En} (h:Fit es) {p:Bs} (hp:aF p=0) (hf:∀ d∈es,d.path=p→bX d.kind=false):∀ x∈es,bG x.path p=false:=by
 have:∀ n,∀ x∈es,x.path.length≤n→bG x.path p=false:=by
  intro n
  induction n with
  | zero =>
   intro x hx hl;cases hb:bG x.path p
   ·rfl
   ·have:=eV hb;omega
  | succ n ih =>
   intro x hx hl;cases hb:bG x.path p
   ·rfl
   ·exfalso
    obtain ⟨h0,h1⟩:=zza (h.path hx) hp hb;rcases dH.1 (h.home x hx) with h2 | ⟨d,hd,hdp,hdk⟩
    ·exact h0 h2
    ·rcases h1 with h1 | h1
     ·rw[hf d hd (hdp.trans h1)]at hdk;cases hdk
     ·have h3:=eV (eD (h.path hx) h0).2
      have:=ih d hd (by rw[hdp];omega)
      rw[hdp,h1]at this;cases this
 exact fun x hx=>this _ x hx (Nat.le_refl _)
theorem Fit.bare_find {es:List En} (h:Fit es) {p q:Bs} (hp:aF p=0) (hf:∀ d∈es,d.path=p→bX d.kind=false) (hb:bG q p=true):aK es q=none:=by
 refine iZ (fun x hx e=>?_)
 have:=h.bare hp hf x hx;rw[e,hb]at this;cases this
theorem Fit.up {es:List En} (h:Fit es) {p:Bs} {x:En} (hp:aF p=0) (hx:x∈es) (hb:bG x.path p=true):∃ d∈es,d.path=p∧bX d.kind=true:=by
 by_cases hd:∃ d∈es,d.path=p∧bX d.kind=true
 ·exact hd
 ·exfalso
  have:=h.bare hp (fun d hd1 hd2=>by
   cases hk:bX d.kind
   ·rfl
   ·exact absurd ⟨d,hd1,hd2,hk⟩ hd) x hx
  rw[hb]at this;cases this
theorem yZ {e:En} (h:aI e=0) (hk:e.kind≠1):e.size=0∧e.chunks=[]:=by
 have hp:=bQ h;have hf:gR e=true:=by
  cases hf:gR e
  ·rw[gG hp hf]at h;cases h
  ·rfl
 simp only[gR,decide_eq_true_eq]at hf;rcases hf.2 with h1 | ⟨h1,h2⟩
 ·exact absurd h1 hk
 ·exact ⟨h1,List.length_eq_zero_iff.1 h2⟩
theorem mV {e:En} (h:aI e=0):e.kind=1∨e.kind=2∨e.kind=3∨e.kind=4:=by
 have hp:=bQ h;have hf:gR e=true:=by
  cases hf:gR e
  ·rw[gG hp hf]at h;cases h
  ·rfl
 simp only[gR,decide_eq_true_eq]at hf;omega
theorem zda {d e:En} (h1:aI d=0) (h2:aI e=0) (hp:d.path=e.path) (hk:d.kind=e.kind) (hn:e.kind≠1):d=e:=by
 obtain ⟨a1,a2⟩:=yZ h1 (by rw[hk];exact hn)
 obtain ⟨b1,b2⟩:=yZ h2 hn;cases d;cases e;simp_all
def kG (e:En) (k:Int):En:={ e with kind:=k }
theorem zxg {e:En} {k:Int} (h:aI e=0) (hk:e.kind≠1∨(e.size=0∧e.chunks=[])) (h1:1≤k) (h2:k≤4):aI (kG e k)=0:=by
 have hp:=bQ h;obtain ⟨a1,a2⟩:e.size=0∧e.chunks=[]:=hk.elim (fun x=>yZ h x) id
 have b1:gR (kG e k)=true:=by simp[gR,kG,a1,a2,h1,h2]
 have b2:kW (kG e k)=true:=by simp[kW,kG,a1]
 have b3:lQ (kG e k)=true:=by simp[lQ,kG,a1,a2]
 have b4:(kG e k).chunks.all fO=true:=by simp[kG,a2]
 have b5:aF (kG e k).path=0:=hp;rw[fN b5 b1 b2 b3,if_pos b4]
theorem lI {t:List En} {p:Bs} {x:En}:x∈bO t p true↔x∈t∧x.path≠p∧bG x.path p=false:=by
 simp only[bO,kF,List.mem_filter,Bool.not_eq_true',Bool.or_eq_false_iff,Bool.true_and,decide_eq_false_iff_not];exact ⟨fun h=>⟨h.1,h.2.2,h.2.1⟩,fun h=>⟨h.1,h.2.2,h.2.1⟩⟩
theorem zq2 (t:List En) (p q:Bs):aK (bO t p true) q=if q=p then none else if bG q p then none else aK t q:=by
 have:=zj8 t (fun y=>!(bG y p||(true&&decide (y=p)))) q
 have e1:bO t p true=t.filter (fun e=>(fun y=>!(bG y p||(true&&decide (y=p)))) e.path):=rfl
 rw[e1,this];by_cases h1:q=p
 ·simp[h1]
 ·cases h2:bG q p <;> simp[h1]
theorem ztf {t:List En} (h:eL t) (p:Bs):eL (bO t p true):=h.sublist List.filter_sublist
theorem zsf {t:List En} (h:Fit t) {p:Bs} (hp:aF p=0):∀ x∈bO t p true,cQ (bO t p true) x.path=true:=by
 intro x hx;obtain ⟨hx,hn,hb⟩:=lI.1 hx;rw[dH];rcases dH.1 (h.home x hx) with h0 | ⟨d,hd,hdp,hdk⟩
 ·exact .inl h0
 ·by_cases h0:aE x.path=[]
  ·exact .inl h0
  ·have hbx:=(eD (h.path hx) h0).2
   rw[←hdp]at hbx;refine .inr ⟨d,lI.2 ⟨hd,fun e=>?_,?_⟩,hdp,hdk⟩
   ·rw[e,hb]at hbx;cases hbx
   ·cases h3:bG d.path p
    ·rfl
    ·rw[oJ hbx h3]at hb;cases hb
theorem zg7 {t:List En} (h:Fit t) {p:Bs} (hp:aF p=0):Fit (bO t p true) :=
 ⟨fun e he=>h.ent e (lI.1 he).1,ztf h.rise p,zsf h hp⟩
theorem zse {t:List En} {p:Bs} (hp:aF p=0) (hh:cQ t p=true):cQ (bO t p true) p=true:=by
 rw[dH]at hh ⊢;rcases hh with h0 | ⟨d,hd,hdp,hdk⟩
 ·exact .inl h0
 ·by_cases h0:aE p=[]
  ·exact .inl h0
  ·have hb:=(eD hp h0).2
   have hl:=eV hb;refine .inr ⟨d,lI.2 ⟨hd,fun e=>?_,?_⟩,hdp,hdk⟩
   ·rw[←hdp,e]at hl;omega
   ·cases h3:bG d.path p
    ·rfl
    ·have:=eV h3;rw[hdp]at this;omega
theorem zke {t:List En} {e:En} (h:Fit t) (he:aI e=0) (hh:cQ t e.path=true):Fit (gI (bO t e.path true) e):=by
 have hp:=bQ he;have hr:=zg7 h hp;have hn:∀ x∈bO t e.path true,x.path≠e.path:=fun x hx=>(lI.1 hx).2.1
 have hmono:∀ q,cQ (bO t e.path true) q=true→cQ (gI (bO t e.path true) e) q=true:=by
  intro q hq;rw[dH]at hq ⊢;rcases hq with h0 | ⟨d,hd,hd2⟩
  ·exact .inl h0
  ·exact .inr ⟨d,mW.2 (.inr hd),hd2⟩
 refine ⟨fun x hx=>?_,uF hr.rise hn,fun x hx=>?_⟩
 ·rcases mW.1 hx with rfl | hx
  ·exact he
  ·exact hr.ent x hx
 ·rcases mW.1 hx with rfl | hx
  ·exact hmono _ (zse hp hh)
  ·exact hmono _ (hr.home x hx)
theorem zpb (t:List En) (e:En) (q:Bs):aK (gI (bO t e.path true) e) q=if q=e.path then some e else if bG q e.path then none else aK t q:=by
 rw[zqb (fun x hx=>(lI.1 hx).2.1),zq2]
 by_cases h:q=e.path
 ·simp[h]
 ·simp[h]
def asT (e:En):En:=if e.kind=4 then kG e 2 else e
theorem gK (e:En):(asT e).path=e.path:=by unfold asT;split <;> rfl
theorem zl1 {e:En} (h:aI e=0):aI (asT e)=0:=by
 unfold asT;split
 ·rename_i h4
  exact zxg h (.inl (by omega)) (by decide) (by decide)
 ·exact h
theorem zog {e:En} (h:aI e=0) (h3:e.kind≠3):sA (asT e).kind=true:=by
 unfold asT;rcases mV h with h1 | h1 | h1 | h1
 ·simp[h1,sA]
 ·simp[h1,sA]
 ·exact absurd h1 h3
 ·simp[h1,sA,kG]
theorem xB {e:En} (hk:bX e.kind=true):(asT e).kind=2:=by
 simp only[bX,decide_eq_true_eq]at hk;unfold asT;rcases hk with hk | hk <;> simp[hk,kG]
theorem zcj {d e:En} (h1:aI d=0) (h2:aI e=0) (hp:d.path=e.path) (hd:bX d.kind=true) (he:bX e.kind=true):asT d=asT e:=by
 refine zda (zl1 h1) (zl1 h2) (by rw[gK,gK,hp]) (by rw[xB hd,xB he]) (by rw[xB he];decide)
def oN (t:List En) (e:En):List En :=
 if e.kind=3 then bO t e.path true else if e.kind=2∧dG t e.path=true then t else gI (bO t e.path true) (asT e)
def gZ (t L:List En):List En:=L.foldl oN t
theorem zf0 {t:List En} {p:Bs}:dG t p=true↔∃ d∈t,d.path=p∧bX d.kind=true:=by
 simp[dG]
theorem zvb {t:List En} {p:Bs} (h:¬ dG t p=true):∀ d∈t,d.path=p→bX d.kind=false:=by
 intro d hd hp;cases hk:bX d.kind
 ·rfl
 ·exact absurd (zf0.2 ⟨d,hd,hp,hk⟩) h
theorem kO.dir {t:List En} (h:kO t) {d:En} (hd:d∈t) (hk:bX d.kind=true):d.kind=2:=by
 have h1:=h.kind d hd;simp only[sA,bX,decide_eq_true_eq]at h1 hk;omega
theorem zq3 (t:List En) (e:En):gI (bO t e.path true) (asT e)=gI (bO t (asT e).path true) (asT e):=by rw[gK]
theorem zie {t:List En} {e:En} (h:kO t) (he:aI e=0) (q:Bs) :
  aK (oN t e) q=if q=e.path then (if e.kind=3 then none else some (asT e)) else if (!decide (e.kind=2))&&bG q e.path then none else aK t q:=by
 have hp:=bQ he;unfold oN;by_cases h3:e.kind=3
 ·rw[if_pos h3,zq2]
  have:(!decide (e.kind=2))=true:=by simp[h3]
  rw[this,Bool.true_and,if_pos h3]
 ·rw[if_neg h3,if_neg h3]
  by_cases hd:e.kind=2∧dG t e.path=true
  ·rw[if_pos hd]
   have e1:(!decide (e.kind=2))=false:=by simp[hd.1]
   rw[e1,Bool.false_and,if_neg Bool.false_ne_true];by_cases hq:q=e.path
   ·rw[if_pos hq]
    obtain ⟨d,hdm,hdp,hdk⟩:=zf0.1 hd.2;have h2:=h.dir hdm hdk;have e2:asT e=e:=by unfold asT;rw[if_neg (by omega)]
    rw[hq,←hdp,eA h.fit.rise hdm,e2,zda (h.fit.ent d hdm) he hdp (by rw[h2,hd.1]) (by omega)]
   ·rw[if_neg hq]
  ·rw[if_neg hd,zq3,zpb,gK]
   by_cases hq:q=e.path
   ·rw[if_pos hq,if_pos hq]
   ·rw[if_neg hq,if_neg hq]
    by_cases h2:e.kind=2
    ·have e1:(!decide (e.kind=2))=false:=by simp[h2]
     rw[e1,Bool.false_and,if_neg Bool.false_ne_true];cases hb:bG q e.path
     ·simp
     ·rw[if_pos rfl]
      exact (h.fit.bare_find hp (zvb (fun x=>hd ⟨h2,x⟩)) hb).symm
    ·have e1:(!decide (e.kind=2))=true:=by simp[h2]
     rw[e1,Bool.true_and]
theorem zje {t:List En} {e:En} (h:kO t) (he:aI e=0) (hh:cQ t e.path=true):kO (oN t e):=by
 have hp:=bQ he;unfold oN;by_cases h3:e.kind=3
 ·rw[if_pos h3]
  exact ⟨zg7 h.fit hp,fun x hx=>h.kind x (lI.1 hx).1⟩
 ·rw[if_neg h3]
  by_cases hd:e.kind=2∧dG t e.path=true
  ·rw[if_pos hd];exact h
  ·rw[if_neg hd,zq3]
   refine ⟨zke h.fit (zl1 he) (by rw[gK];exact hh),fun x hx=>?_⟩
   rcases mW.1 hx with rfl | hx
   ·exact zog he h3
   ·exact h.kind x (lI.1 hx).1
theorem za7 (bs:List En) (e:En):(gI bs e).length=bs.length+1:=by
 unfold gI;simp only[List.length_append,List.length_cons,List.length_take,List.length_drop];omega
theorem zwh (t:List En) (e:En):(oN t e).length≤t.length+1:=by
 have:=wI t e.path true;unfold oN;split
 ·omega
 ·split
  ·omega
  ·rw[za7];omega
theorem zg3:∀ (L t:List En),(gZ t L).length≤t.length+L.length
 | [],t=>by simp[gZ]
 | e :: L,t=>by
  have h1:=zg3 L (oN t e);have h2:=zwh t e;have h3:gZ t (e :: L)=gZ (oN t e) L:=rfl;rw[h3,List.length_cons];omega
def hid (L:List En) (q:Bs):Bool:=L.any fun e=>(!decide (e.kind=2))&&bG q e.path
theorem zdh (D:List En) (e:En) (q:Bs):hid (D ++ [e]) q=(hid D q||((!decide (e.kind=2))&&bG q e.path)):=by
 simp[hid,List.any_append]
theorem zrj {L:List En} {q:Bs}:hid L q=true↔∃ e∈L,e.kind≠2∧bG q e.path=true:=by
 simp[hid]
def zQ (t L:List En) (q:Bs):Option En :=
 match aK L q with
 | some e=>if e.kind=3 then none else some (asT e)
 | none=>if hid L q then none else aK t q
theorem mY {t L:List En} {q:Bs} {e:En} (h:aK L q=some e):zQ t L q=if e.kind=3 then none else some (asT e):=by simp[zQ,h]
theorem wO {t L:List En} {q:Bs} (h:aK L q=none):zQ t L q=if hid L q then none else aK t q:=by simp[zQ,h]
theorem zph {L:List En} {k:Nat} {e:En} (hL:Fit L) (he:L[k]?=some e) :
  (∀ x∈L.take k,Op.bytesLess x.path e.path=true)∧(aE e.path=[]∨∃ d∈L.take k,d.path=aE e.path∧bX d.kind=true):=by
 have hem:=List.mem_of_getElem? he;obtain ⟨hk,hke⟩:=List.getElem?_eq_some_iff.1 he;have hs:L=L.take k++e :: L.drop (k+1):=by
  conv=>lhs;rw[←List.take_append_drop k L,List.drop_eq_getElem_cons hk,hke]
 have hr:=hL.rise;unfold eL at hr;rw[hs,List.pairwise_append]at hr;refine ⟨fun x hx=>hr.2.2 x hx e List.mem_cons_self,?_⟩
 rcases dH.1 (hL.home e hem) with h0 | ⟨d,hd,hdp,hdk⟩
 ·exact .inl h0
 ·by_cases h0:aE e.path=[]
  ·exact .inl h0
  ·have hb:=za0 (eD (hL.path hem) h0).2
   rw[←hdp]at hb;rw[hs]at hd;rcases List.mem_append.1 hd with hd | hd
   ·exact .inr ⟨d,hd,hdp,hdk⟩
   ·exfalso
    rcases List.mem_cons.1 hd with rfl | hd
    ·rw[iQ]at hb;cases hb
    ·have:=iR ((List.pairwise_cons.1 hr.2.1).1 d hd)
     rw[hb]at this;cases this
theorem za4 {L:List En} {k:Nat} {e:En} (he:L[k]?=some e):L.take (k+1)=L.take k ++ [e]:=by
 rw[List.take_add_one,he];rfl
theorem tV {t L:List En} (ht:kO t) (hL:Fit L):∀ k,k≤L.length→kO (gZ t (L.take k))∧∀ q,aK (gZ t (L.take k)) q=zQ t (L.take k) q
 | 0,_=>by
  refine ⟨by simpa [gZ] using ht,fun q=>?_⟩
  simp[gZ,zQ,aK,hid]
 | k+1,hk=>by
  obtain ⟨e,he⟩:∃ e,L[k]?=some e:=⟨_,List.getElem?_eq_getElem (by omega)⟩
  obtain ⟨ih1,ih2⟩:=tV ht hL k (by omega)
  obtain ⟨hlt,hho⟩:=zph hL he;have hee:=hL.ent e (List.mem_of_getElem? he);have hrD:eL (L.take k):=hL.rise.sublist (List.take_sublist _ _);have hne:∀ x∈L.take k,x.path≠e.path:=fun x hx=>kB (hlt x hx)
  have hm:gZ t (L.take (k+1))=oN (gZ t (L.take k)) e:=by rw[za4 he];simp[gZ,List.foldl_append]
  rw[hm,za4 he];generalize L.take k=D at *;have hhome:cQ (gZ t D) e.path=true:=by
   rw[dH];rcases hho with h0 | ⟨d,hd,hdp,hdk⟩
   ·exact .inl h0
   ·have h1:=ih2 d.path
    rw[mY (eA hrD hd)]at h1;have hd3:d.kind≠3:=by intro e3;rw[e3]at hdk;cases hdk
    rw[if_neg hd3]at h1;exact .inr ⟨asT d,(eN h1).1,by rw[gK,hdp],by rw[xB hdk];rfl⟩
  refine ⟨zje ih1 hee hhome,fun q=>?_⟩
  rw[zie ih1 hee,ih2 q];by_cases hq:q=e.path
  ·rw[if_pos hq,mY (e:=e) (by rw[vI hne,if_pos hq])]
  ·rw[if_neg hq]
   have hf:aK (D ++ [e]) q=aK D q:=by rw[vI hne,if_neg hq]
   cases hD:aK D q with
   | some x =>
    have hx:=eN hD;have hb:=xR (hlt x hx.1);rw[hx.2]at hb;rw[hb,Bool.and_false,if_neg (by simp),mY hD,mY (hf.trans hD)]
   | none =>
    rw[wO hD,wO (hf.trans hD),zdh];cases (!decide (e.kind=2))&&bG q e.path <;> cases hid D q <;> simp
theorem wA {t L:List En} (ht:kO t) (hL:Fit L):kO (gZ t L):=by
 have:=(tV ht hL L.length (Nat.le_refl _)).1;rwa [List.take_length]at this
theorem zc1 {t L:List En} (ht:kO t) (hL:Fit L) (q:Bs):aK (gZ t L) q=zQ t L q:=by
 have:=(tV ht hL L.length (Nat.le_refl _)).2 q;rwa [List.take_length]at this
def vL (es:List En) (q:Bs):Bool:=(aK es q).any fun e=>!decide (e.kind=2)
def cU (es:List En) (q:Bs):Int :=
 match aK es q with
 | some e=>if e.kind=3∨e.kind=1 then 2 else if e.kind=4 then 1 else 0
 | none=>0
def dU (es:List En) (ups:List Bs):Int:=if ups.any (fun u=>decide (cU es u=2)) then 2 else if ups.any (fun u=>decide (cU es u=1)) then 1 else 0
def eY (es:List En) (p:Bs):Int:=if dU es (bL p)=2∨cU es p=2 then 2 else if dU es (bL p)=1∨cU es p=1 then 1 else 0
theorem rS {es:List En} {q:Bs} (h:aK es q=none):cU es q=0:=by simp[cU,h]
theorem zd7 {es:List En} {q:Bs} {e:En} (h:aK es q=some e) (hk:e.kind=3∨e.kind=1):cU es q=2:=by simp only[cU,h];rw[if_pos hk]
theorem zji {es:List En} {q:Bs} {e:En} (h:aK es q=some e) (hk:e.kind=4):cU es q=1:=by simp[cU,h,hk]
theorem zii {es:List En} {q:Bs} {e:En} (h:aK es q=some e) (h1:e.kind≠1) (h3:e.kind≠3) (h4:e.kind≠4):cU es q=0:=by simp[cU,h,h1,h3,h4]
theorem zs3 {es:List En} (h:aV es) (q:Bs):vL es q=decide (cU es q≠0):=by
 cases hf:aK es q with
 | none=>simp[vL,cU,hf]
 | some e =>
  have he:=(eN hf).1;rcases mV (h.ent e he) with hk | hk | hk | hk <;> simp[vL,cU,hf,hk]
theorem uB (es:List En) (q:Bs):cU es q=0∨cU es q=1∨cU es q=2:=by
 unfold cU;split
 ·split
  ·exact Or.inr (Or.inr rfl)
  ·split
   ·exact Or.inr (Or.inl rfl)
   ·exact Or.inl rfl
 ·exact Or.inl rfl
theorem qF (es:List En) (ups:List Bs):dU es ups=0∨dU es ups=1∨dU es ups=2:=by
 unfold dU;split
 ·exact Or.inr (Or.inr rfl)
 ·split
  ·exact Or.inr (Or.inl rfl)
  ·exact Or.inl rfl
theorem zlf {es:List En} {ups:List Bs}:dU es ups≠0↔∃ u∈ups,cU es u≠0:=by
 unfold dU;constructor
 ·intro h
  split at h
  ·rename_i h2
   obtain ⟨u,hu,hr⟩:=List.any_eq_true.1 h2;exact ⟨u,hu,by have:=of_decide_eq_true hr;omega⟩
  ·split at h
   ·rename_i h2
    obtain ⟨u,hu,hr⟩:=List.any_eq_true.1 h2;exact ⟨u,hu,by have:=of_decide_eq_true hr;omega⟩
   ·exact absurd rfl h
 ·rintro ⟨u,hu,hr⟩
  rcases uB es u with h | h | h
  ·exact absurd h hr
  ·split
   ·omega
   ·rw[if_pos (List.any_eq_true.2 ⟨u,hu,decide_eq_true h⟩)];omega
  ·rw[if_pos (List.any_eq_true.2 ⟨u,hu,decide_eq_true h⟩)];omega
theorem uW {es:List En} {ups:List Bs} {k:Nat} {u:Bs} (hu:ups[k]?=some u) (h:cU es u=2):dU es ups=2:=by
 unfold dU;rw[if_pos (List.any_eq_true.2 ⟨u,List.mem_of_getElem? hu,decide_eq_true h⟩)]
theorem mZ {α:Type} {l:List α} {k:Nat} {x:α} (h:l[k]?=some x):l.take (k+1)=l.take k ++ [x]:=by rw[List.take_add_one,h];rfl
theorem rO {es:List En} {ups:List Bs} {k:Nat} {u:Bs} (hu:ups[k]?=some u) (h2:dU es (ups.take k)≠2) (h:cU es u≠2):dU es (ups.take (k+1))=if cU es u=1 then 1 else dU es (ups.take k):=by
 rw[mZ hu];unfold dU at h2 ⊢;simp only[List.any_append,List.any_cons,List.any_nil,Bool.or_false,h,decide_false];split at h2
 ·exact absurd rfl h2
 ·rename_i h3
  simp only[h3,Bool.false_eq_true,if_false];by_cases h4:cU es u=1
  ·simp[h4]
  ·simp[h4]
theorem qX {es:List En} {ups:List Bs} {k:Nat} {u:Bs} (hu:ups[k]?=some u) (h2:dU es (ups.take k)≠2) (h:cU es u≠2):dU es (ups.take (k+1))≠2:=by
 rw[rO hu h2 h];split
 ·omega
 ·exact h2
end Go.Proofs.YtgaeikgoknoamaaGreat
namespace Go.Proofs.YtgaeikgoknoamaaGreat
open Go.RowKit Go.Maps
attribute [local go_sem ↓] Go.wp_at_zero Go.wp_at_succ
def RdL (w:World) (a:Option Addr) (ls:List (List En)):Prop :=
 ls≠[]→∃ (b off:Nat) (A:Nat→Option Addr) (C:Nat→Nat),a=some ⟨b,off,none⟩∧b<w.heap.size∧∀ i es,ls[i]?=some es→w.cell? ⟨b,off+i,none⟩=some (.slice (A i) es.length (C i))∧RdE w (A i) es
theorem RdL.below {w w':World} {a:Option Addr} {ls:List (List En)} (h:RdL w a ls) (hk:Below w.heap.size w w'):RdL w' a ls:=by
 intro hz;obtain ⟨b,off,A,C,e,hb,hc⟩:=h hz;refine ⟨b,off,A,C,e,Nat.lt_of_lt_of_le hb hk.size,fun i es hx=>?_⟩
 obtain ⟨c0,r⟩:=hc i es hx;exact ⟨(hk.cell (p:=⟨b,off+i,none⟩) hb).trans c0,r.below hk⟩
theorem RdL.at {w:World} {a:Option Addr} {ls:List (List En)} (h:RdL w a ls) {k:Nat} (hk:k<ls.length) :
  ∃ b off es x c,a=some ⟨b,off,none⟩∧b<w.heap.size∧ls[k]?=some es∧w.cell? ⟨b,off+k,none⟩=some (.slice x es.length c)∧RdE w x es:=by
 obtain ⟨b,off,A,C,e,hb,hc⟩:=h (by intro e;simp[e]at hk)
 have hx:ls[k]?=some ls[k]:=List.getElem?_eq_getElem hk;obtain ⟨c0,r⟩:=hc k _ hx;exact ⟨b,off,ls[k],A k,C k,e,hb,hx,c0,r⟩
def cY (ls:List (List En)) (i:Nat) (p:Bs):Option En:=(ls[i]?).bind fun es=>aK es p
theorem zqi (i:Nat) (p:Bs):cY [] i p=none:=by simp[cY]
theorem zo4 (D:List (List En)) (i:Nat) (p:Bs):cY (D ++ [[]]) i p=cY D i p:=by
 unfold cY;rcases Nat.lt_trichotomy i D.length with h | h | h
 ·rw[List.getElem?_append_left h]
 ·subst h;simp[aK]
 ·rw[List.getElem?_eq_none (by simp;omega),List.getElem?_eq_none (by omega)]
theorem zdg {D:List (List En)} {es:List En} {j:Nat} {e:En} (he:es[j]?=some e) (hn:∀ x∈es.take j,x.path≠e.path) (i:Nat) (p:Bs) :
  (if i=D.length∧p=e.path then some e else cY (D ++ [es.take j]) i p)=cY (D ++ [es.take (j+1)]) i p:=by
 unfold cY;rcases Nat.lt_trichotomy i D.length with h | h | h
 ·rw[List.getElem?_append_left h,List.getElem?_append_left h,if_neg (fun hh=>by omega)]
 ·subst h
  simp only[List.getElem?_append_right (Nat.le_refl _),Nat.sub_self,List.getElem?_cons_zero,Option.bind_some,true_and]
  rw[mZ he,vI hn]
 ·rw[List.getElem?_eq_none (by simp;omega),List.getElem?_eq_none (by simp;omega),if_neg (fun hh=>by omega)]
theorem zmi {es:List En} (h:eL es) {j:Nat} {e:En} (he:es[j]?=some e):∀ x∈es.take j,x.path≠e.path:=by
 intro x hx;have h2:eL (es.take (j+1)):=h.sublist (List.take_sublist _ _);rw[mZ he]at h2;unfold eL at h2;rw[List.pairwise_append]at h2;exact kB (h2.2.2 x hx e (by simp))
theorem yT (a:Option Addr) (c n:Nat) (ls:List (List En)) (w:World) (h:RdL w a ls) (hn:n=ls.length) (hl:ls.length≤4) (hF:∀ es∈ls,eL es∧es.length≤12∧cG es) :
  Calls Tryz.prog 67 #[.slice a n c] w fun r w'=>∃ b N,r=.returned (.map (some b))∧w.heap.size≤b∧N≤48∧dZ w w' b N (cY ls)∧Below w.heap.size w w':=by
 subst hn;have HR:=aA h;have HFt:=aA hF;clear h hF;have hmm:∀ u:World,(Instr.makeMap 120 none).run Tryz.prog u=.ok (.map (some u.heap.size)) (u.alloc (.map #[] 0)):=fun u=>by simp[Instr.makeMap,Result.andThen]
 go_enter Tryz.func67,Tryz.ntmps67;go_wp2_with fail
 go_loopw [11] (fun i wr=>∃ k N:Nat,k≤ls.length∧i=.int .i64 k∧N≤12 * k∧Hid (dZ w wr w.heap.size N (cY (ls.take k)))∧Hid (Below w.heap.size w wr)) (fun i _=>ls.length - (intOf i).toNat)
 case atStart=>exact ⟨0,0,Nat.zero_le _,rfl,Nat.le_refl _,aA ((dZ.made w w).congr (fun i p=>(zqi i p).symm)),aA (aC _ _)⟩
 case round =>
  obtain ⟨k,N,hk,rfl,hN,HM,HW⟩:=hrel;by_cases hlt:k<ls.length
  ·obtain ⟨b0,o0,es,x0,c0,rfl,hb0,hes,cc0,hre⟩:=HR.out.at hlt
   have cw:=(HW.out.cell (p:=⟨b0,o0+k,none⟩) hb0).trans cc0;have HE:=aA hre;have HES:=aA hes;obtain ⟨hri,hle,hsm⟩:=HFt.out es (List.mem_of_getElem? hes);have HRi:=aA hri;have HSm:=aA hsm;clear hes cc0 hre hri hsm;have hkl:(ls.take k).length=k:=by rw[List.length_take];omega
   go_wp2_with fail
   go_loopw [18] (fun i w2=>∃ j N2:Nat,j≤es.length∧i=.int .i64 j∧N2≤12 * k+j∧Hid (dZ w w2 w.heap.size N2 (cY (ls.take k ++ [es.take j])))∧Hid (Below w.heap.size w w2)) (fun i _=>es.length - (intOf i).toNat)
   case atStart=>exact ⟨0,N,Nat.zero_le _,rfl,by omega,aA (HM.out.congr (fun i p=>(zo4 _ i p).symm)),HW⟩
   case round =>
    obtain ⟨j,N2,hj,rfl,hN2,HM2,HW2⟩:=hrel;by_cases hjl:j<es.length
    ·obtain ⟨b,off,e,x,cc,rfl,hb,he,c0,c1,c2,c3,hr⟩:=HE.out.at hjl
     have c0:=(HW2.out.cell (p:=⟨b,off+j * 4,none⟩) hb).trans c0;have c1:=(HW2.out.cell (p:=⟨b,off+j * 4+1,none⟩) hb).trans c1;have c2:=(HW2.out.cell (p:=⟨b,off+j * 4+2,none⟩) hb).trans c2;have c3:=(HW2.out.cell (p:=⟨b,off+j * 4+3,none⟩) hb).trans c3;have HX:=aA he;have HRc:=aA hr;have hsm:=(HSm.out e (List.mem_of_getElem? he)).1;have HNew:=aA (zmi HRi.out he);clear he hr;have BA:=aA ((aC wr (.cells #[.string (str e.path),.int .i64 e.kind,.int .i64 e.size,.slice x e.chunks.length cc] 87)).drew);have F4:Hid (dI (wr.alloc (.cells #[.string (str e.path),.int .i64 e.kind,.int .i64 e.size,.slice x e.chunks.length cc] 87)).drew wr.heap.size _ _ _ _):=aA (dI.new wr (.string (str e.path)) (.int .i64 e.kind) (.int .i64 e.size) (.slice x e.chunks.length cc) 87)
     go_wp2_with fail
     go_region_law
      (go_simp;go_wp2_with (go_at_call 45;refine (lO _ _ _ _ _ _ _).mono ?_;rintro r w3 ⟨rfl,hb3⟩;have BB3:=aA (aB BA.out hb3);obtain ⟨f0,f1,f2,f3⟩:=F4.out.below hb3;obtain ⟨Dt,hown,hput⟩:=(HM2.out.below BB3.out).put (i:=k) (p:=e.path) (e:=e) (c:=cc) (by omega) hsm HRc.out;obtain ⟨w4,hrun,r1,r2⟩:=hown.update fQ Tryz.underlying120 (by unfold maxLen;omega) (lL (i:=k) (p:=e.path) (by omega) hsm) (val:=itV e x cc) rfl;have HP4:=aA (hput w4 r1);have HG4:=aA r2;clear hb3 hown hput r1 r2;unfold gE itV at hrun))
     all_goals
      have HN4:Hid (dZ w w4 w.heap.size (N2+1) (cY (ls.take k ++ [es.take (j+1)]))):=aA (HP4.out.congr (fun i p=>by have:=zdg (D:=ls.take k) HX.out HNew.out i p;rw[hkl]at this;exact this))
      have B4:=aA ((aB HW2.out BB3.out).trans ((wP HG4.out).below (Nat.le_trans HW2.out.size BB3.out.size) (fun q hq e=>by omega)))
      go_wp2_with fail
      go_roundw
      case rel=>exact ⟨j+1,N2+1,by omega,by go_num,by omega,HN4,B4⟩
      case measure=>simp[intOf];omega
    ·have HE2:=aA (show es.take j=es from List.take_of_length_le (by omega))
     go_wp2_with fail
     go_roundw
     case rel=>exact ⟨k+1,N2,by omega,by go_num,by omega,aA (HM2.out.congr (fun i p=>by rw[HE2.out,mZ HES.out])),HW2⟩
     case measure=>simp[intOf];omega
  ·have HE:=aA (show ls.take k=ls from List.take_of_length_le (by omega))
   go_wp2_with fail
   go_ret
   exact ⟨_,N,rfl,Nat.le_refl _,by omega,by have:=HM.out;rw[HE.out]at this;exact this,HW.out⟩
theorem gV {es:List En} {p:Bs} (h:atE es p=none):aK es p=none:=by rw[nY,h];rfl
theorem lC {es:List En} {p:Bs} {k:Nat} (h:atE es p=some k):∃ e,es[k]?=some e∧aK es p=some e:=by
 have hk:=oT h;obtain ⟨e,he⟩:∃ e,es[k]?=some e:=⟨_,List.getElem?_eq_getElem hk⟩;exact ⟨e,he,by rw[nY,h];exact he⟩
theorem xX {p:Bs} (hp:aF p=0):∀ u∈bL p,u.length≤p.length:=by
 intro u hu;have hb:iX p u=true:=by simpa [iX] using hu
 rw[lE hp]at hb;have:=eV (of_decide_eq_true hb).2;omega
theorem tP (a:Option Addr) (c n:Nat) (es:List En) (p:Bs) (w:World) (h:RdE w a es) (hn:n=es.length) (hl:es.length≤1048576) (hp:aF p=0) (hpl:p.length≤1048576) :
  Calls Tryz.prog 283 #[.slice a n c,.string (str p)] w fun r w'=>r=.returned (.int .i64 (dU es (bL p)))∧Below w.heap.size w w':=by
 subst hn;have HR:=aA h;have hsz:=aP p;have h1:1≤(str p).size:=pT (by rw[bD];exact hp)
 have HU:=aA (show bJ (bF (str p).data.toList.tail)=bL p from by rw[bD,eP hp])
 have HUl:=aA (rG p);clear h hp;generalize bL p=ups at *;go_enter Tryz.func283,Tryz.ntmps283;go_wp2_with fail
 refine (oL (str p) _ h1 (by omega)).mono ?_
 rintro r w1 ⟨v,rfl,ho,hb1⟩;rw[HU.out]at ho;obtain ⟨av,cv,rfl⟩:=aQ ho;have RU:=aA (cJ.reads ho);have B1:=aA hb1;clear ho hb1 HU;go_wp2_with fail
 go_loopw [5,7] (fun v i wr=>∃ k:Nat,k≤ups.length∧v=.int .i64 (dU es (ups.take k))∧i=.int .i64 k∧Hid (dU es (ups.take k)≠2)∧Hid (Below w1.heap.size w1 wr)) (fun _ i _=>ups.length - (intOf i).toNat)
 case atStart=>exact ⟨0,Nat.zero_le _,rfl,rfl,aA (by simp[dU]),aA (Below.refl _ _)⟩
 case round =>
  obtain ⟨k,hk,rfl,rfl,HN2,HW⟩:=hrel;have hul:=HUl.out;by_cases hlt:k<ups.length
  ·obtain ⟨b,off,rfl,hb,hc⟩:=(RU.out.below HW.out) (by intro e;simp[e]at hlt)
   have q0:=hc k hlt;have hx:ups[k]?=some (ups.getD k []):=by rw[List.getD_eq_getElem?_getD,List.getElem?_eq_getElem hlt];rfl
   clear hc;generalize ups.getD k []=u at *;have HX:=aA hx;clear hx;have HE:=aA ((HR.out.below B1.out).below HW.out);have HAT:=aA (iI a c es.length es u wr HE.out rfl hl);cases ha:atE es u with
   | none =>
    have HZ:=aA (rO HX.out HN2.out (by rw[rS (gV ha)];decide))
    have HZ2:=aA (qX HX.out HN2.out (by rw[rS (gV ha)];decide))
    rw[rS (gV ha)]at HZ;rw[ha]at HAT;have e1:cR none = -1:=rfl;rw[e1]at HAT;clear ha e1;go_wp2_with fail
    refine HAT.out.mono ?_;rintro r w2 ⟨rfl,rfl⟩;clear q0;go_wp2_with fail
    go_roundw
    case rel=>exact ⟨k+1,by omega,by rw[HZ.out];rfl,by go_num,HZ2,HW⟩
    case measure=>simp[intOf];omega
   | some m =>
    obtain ⟨e,he,hf⟩:=lC ha;have hm:=oT ha;rw[ha]at HAT;have e1:cR (some m)=(m:Int):=rfl;rw[e1]at HAT;obtain ⟨bb,off2,e',x,cc,rfl,hb2,he',c0,c1,c2,c3,hr⟩:=HE.out.at hm;have:e'=e:=Option.some.inj (he'.symm.trans he);subst this;have hk0:¬ (m:Int)<0:=by omega
    have hk2:(0:Int)≤(m:Int):=by omega
    have hk1:(m:Int)<(es.length:Int):=by omega
    clear ha e1 he he' hr c0 c2 c3;by_cases h3:e'.kind=3
    ·have HZ:=aA (uW HX.out (zd7 hf (Or.inl h3)))
     have h3':(e'.kind==3)=true:=by simpa using h3
     clear h3 hf;go_wp2_with fail
     refine HAT.out.mono ?_;rintro r w2 ⟨rfl,rfl⟩;go_wp2_with fail
     go_ret
     exact ⟨by rw[HZ.out];rfl,aB B1.out HW.out⟩
    ·have h3':(e'.kind==3)=false:=by simpa using h3
     by_cases h1k:e'.kind=1
     ·have HZ:=aA (uW HX.out (zd7 hf (Or.inr h1k)))
      have h1':(e'.kind==1)=true:=by simpa using h1k
      clear h3 h1k hf;go_wp2_with fail
      refine HAT.out.mono ?_;rintro r w2 ⟨rfl,rfl⟩;go_wp2_with fail
      go_ret
      exact ⟨by rw[HZ.out];rfl,aB B1.out HW.out⟩
     ·have h1':(e'.kind==1)=false:=by simpa using h1k
      by_cases h4:e'.kind=4
      ·have hrk:=zji hf h4
       have HZ:=aA (rO HX.out HN2.out (by rw[hrk];decide))
       have HZ2:=aA (qX HX.out HN2.out (by rw[hrk];decide))
       rw[hrk]at HZ;have h4':(e'.kind==4)=true:=by simpa using h4
       clear h3 h1k h4 hf hrk;go_wp2_with fail
       refine HAT.out.mono ?_;rintro r w2 ⟨rfl,rfl⟩;go_wp2_with fail
       go_roundw
       case rel=>exact ⟨k+1,by omega,by rw[HZ.out];rfl,by go_num,HZ2,HW⟩
       case measure=>simp[intOf];omega
      ·have h4':(e'.kind==4)=false:=by simpa using h4
       have hrk:=zii hf h1k h3 h4;have HZ:=aA (rO HX.out HN2.out (by rw[hrk];decide))
       have HZ2:=aA (qX HX.out HN2.out (by rw[hrk];decide))
       rw[hrk]at HZ;clear h3 h1k h4 hf hrk;go_wp2_with fail
       refine HAT.out.mono ?_;rintro r w2 ⟨rfl,rfl⟩;go_wp2_with fail
       go_roundw
       case rel=>exact ⟨k+1,by omega,by rw[HZ.out];rfl,by go_num,HZ2,HW⟩
       case measure=>simp[intOf];omega
  ·have HE:=aA (show ups.take k=ups from List.take_of_length_le (by omega))
   go_wp2_with fail
   go_ret
   exact ⟨by rw[HE.out];rfl,aB B1.out HW.out⟩
theorem zqe (b N i:Nat) (p:Bs) (S:Nat→Bs→Option En) (w0 w:World) (h:dZ w0 w b N S) (hi:i≤100) (hp:p.length≤1048576) :
  Calls Tryz.prog 208 #[.map (some b),.int .i64 i,.string (str p)] w fun r w'=>r=.returned (.bool ((S i p).any fun e=>!decide (e.kind=2)))∧Below w.heap.size w w':=by
 cases hS:S i p with
 | none =>
  have HL:=aA (h.no hi hp hS);clear h hS;go_enter Tryz.func208,Tryz.ntmps208;go_wp2_with (at_lookup;refine hI rfl _ _ 120 true rfl _ _ _ rfl rfl HL.out ?_)
  go_ret
  exact ⟨rfl,aC _ _⟩
 | some e =>
  obtain ⟨x,cc,hl,-,-⟩:=h.yes hi hp hS;have HL:=aA hl;clear h hS hl;by_cases hk:e.kind=2
  ·have hk':(e.kind==2)=true:=by simpa using hk
   have HV:=aA (show ((some e).any fun e=>!decide (e.kind=2))=(e.kind != 2) by simp[hk])
   clear hk hk';unfold itV at HL;go_enter Tryz.func208,Tryz.ntmps208;go_wp2_with (at_lookup;refine hI rfl _ _ 120 true rfl _ _ _ rfl rfl HL.out ?_)
   go_ret
   exact ⟨dD HV.out.symm,aC _ _⟩
  ·have hk':(e.kind==2)=false:=by simpa using hk
   have HV:=aA (show ((some e).any fun e=>!decide (e.kind=2))=(e.kind != 2) by simp[hk])
   clear hk hk';unfold itV at HL;go_enter Tryz.func208,Tryz.ntmps208;go_wp2_with (at_lookup;refine hI rfl _ _ 120 true rfl _ _ _ rfl rfl HL.out ?_)
   go_ret
   exact ⟨dD HV.out.symm,aC _ _⟩
def zta (W0:World) (fn:FuncId) (cap:Array Value) (f:Bs→Bool):Prop :=
 (∀ args w,(callFunc fn args).run Tryz.prog w=.ok (.enter fn args) w)∧∀ (s:Bs) (w:World),s.length≤1048576→Below W0.heap.size W0 w →
  Calls Tryz.prog fn (#[.string (str s)]++cap) w fun r w'=>r=.returned (.bool (f s))∧Below w.heap.size w w'
theorem zv1 (a:Option Addr) (c n:Nat) (ps:List Bs) (fn:FuncId) (cap:Array Value) (f:Bs→Bool) (w:World) (h:bM w a ps) (hn:n=ps.length) (hl:ps.length≤1048576) (hs:∀ p∈ps,p.length≤1048576) (hf:zta w fn cap f) :
  Calls Tryz.prog 236 #[.slice a n c,.func (.func fn) #[] cap] w fun r w'=>((∃ k:Nat,r=.returned (.int .i64 k)∧ps.any f=true)∨(r=.returned (.int .i64 (-1))∧ps.any f=false))∧Below w.heap.size w w':=by
 subst hn;have eg:=hf.1;have HF:=aA hf;have HR:=aA h;have HS:=aA hs;clear h hf hs;go_enter Tryz.func236,Tryz.ntmps236;go_wp2_with fail
 go_loopw [8] (fun i wr=>∃ k:Nat,k≤ps.length∧i=.int .i64 k∧Hid (ps.any f=(ps.drop k).any f)∧Hid (Below w.heap.size w wr)) (fun i _=>ps.length - (intOf i).toNat)
 case atStart=>exact ⟨0,Nat.zero_le _,rfl,aA (by simp),aA (Below.refl _ _)⟩
 case round =>
  obtain ⟨k,hk,rfl,HFi,HW⟩:=hrel;by_cases hlt:k<ps.length
  ·obtain ⟨b,off,rfl,hb,hc⟩:=(HR.out.below HW.out) (by intro e;simp[e]at hlt)
   have c0:=hc k hlt;have hx:ps[k]?=some (ps.getD k []):=by rw[List.getD_eq_getElem?_getD,List.getElem?_eq_getElem hlt];rfl
   have hd:ps.drop k=ps.getD k [] :: ps.drop (k+1):=by
    rw[List.drop_eq_getElem_cons hlt];congr 1;rw[List.getD_eq_getElem?_getD,List.getElem?_eq_getElem hlt];rfl
   have hsm:=HS.out _ (List.mem_of_getElem? hx);have HD:=aA (HFi.out.trans (by rw[hd,List.any_cons]))
   clear hc hd hx;generalize ps.getD k []=q at *;go_wp2_with fail
   refine (HF.out.2 q _ hsm HW.out).mono ?_;rintro r w3 ⟨rfl,hb3⟩;have B3:=aA (aB HW.out hb3);clear hb3 c0;cases hq:f q
   ·have HN:=aA (show ps.any f=(ps.drop (k+1)).any f by rw[HD.out,hq,Bool.false_or])
    clear hq;go_wp2_with fail
    go_roundw
    case rel=>exact ⟨k+1,by omega,by go_num,HN,B3⟩
    case measure=>simp[intOf];omega
   ·have HN:=aA (show ps.any f=true by rw[HD.out,hq,Bool.true_or])
    clear hq;go_wp2_with fail
    go_ret
    exact ⟨.inl ⟨k,rfl,HN.out⟩,B3.out⟩
  ·have HN:=aA (show ps.any f=false by rw[HFi.out,List.drop_eq_nil_of_le (by omega)];rfl)
   go_wp2_with fail
   go_ret
   exact ⟨.inr ⟨rfl,HN.out⟩,HW.out⟩
theorem xN (a:Option Addr) (c n:Nat) (ps:List Bs) (fn:FuncId) (cap:Array Value) (f:Bs→Bool) (w:World) (h:bM w a ps) (hn:n=ps.length) (hl:ps.length≤1048576) (hs:∀ p∈ps,p.length≤1048576) (hf:zta w fn cap f) :
  Calls Tryz.prog 205 #[.slice a n c,.func (.func fn) #[] cap] w fun r w'=>r=.returned (.bool (ps.any f))∧Below w.heap.size w w':=by
 subst hn;have HC:=aA (zv1 a c ps.length ps fn cap f w h rfl hl hs hf);clear h hf hs;go_enter Tryz.func205,Tryz.ntmps205;go_wp2_with fail
 refine HC.out.mono ?_;rintro r w1 ⟨(⟨k,rfl,hi⟩ | ⟨rfl,hi⟩),hb⟩
 ·have hk0:(0:Int)≤(k:Int):=by omega
  have HI:=aA hi;have HB:=aA hb;clear hi hb HC;go_wp2_with fail
  go_ret
  exact ⟨dD HI.out.symm,HB.out⟩
 ·have HI:=aA hi
  have HB:=aA hb;clear hi hb HC;go_wp2_with fail
  go_ret
  exact ⟨dD HI.out.symm,HB.out⟩
theorem zr5 (b N i b1 b2:Nat) (q:Bs) (S:Nat→Bs→Option En) (w0 w:World) (h:dZ w0 w b N S) (hi:i≤100) (hq:q.length≤1048576) (h1:w.cell? ⟨b1,0,none⟩=some (.map (some b))) (h2:w.cell? ⟨b2,0,none⟩=some (.int .i64 i)) :
  Calls Tryz.prog 207 #[.string (str q),.pointer (some ⟨b1,0,none⟩),.pointer (some ⟨b2,0,none⟩)] w fun r w'=>r=.returned (.bool ((S i q).any fun e=>!decide (e.kind=2)))∧Below w.heap.size w w':=by
 have HC:=aA (zqe b N i q S w0 w h hi hq);clear h;go_enter Tryz.func207,Tryz.ntmps207;go_wp2_with fail
 refine HC.out.mono ?_;rintro r w1 ⟨rfl,hb⟩;have HB:=aA hb;clear hb;go_wp2_with fail
 go_ret
 exact ⟨rfl,HB.out⟩
theorem zu1 (b N i:Nat) (p:Bs) (S:Nat→Bs→Option En) (w0 w:World) (h:dZ w0 w b N S) (hi:i≤100) (hp:p.length≤1048576) :
  Calls Tryz.prog 163 #[.map (some b),.int .i64 i,.string (str p)] w fun r w'=>r=.returned (.bool ((bL p).any fun q=>(S i q).any fun e=>!decide (e.kind=2)))∧Below w.heap.size w w':=by
 have hmf:∀ (fn:Fn) (first cap:Array Value) (w:World),(Instr.makeFunc fn first cap).run Tryz.prog w=.ok (.func fn first cap) w:=fun _ _ _ _=>rfl
 have B0:=aA (aB (aC w (.cells #[.map (some b)] 120)) (aC _ (.cells #[.int .i64 i] 3)));have HM:=aA h;clear h;have hsz:=aP p;go_enter Tryz.func163,Tryz.ntmps163;go_wp2_with fail
 refine (rI (str p) _ (by omega)).mono ?_
 rintro r w1 ⟨av,cv,rfl,ho,hb⟩;have B1:=aA (aB B0.out hb);have RS:=aA (cJ.reads ho);have HM1:=aA (HM.out.below B1.out);have q1:w1.cell? ⟨w.heap.size,0,none⟩=some (.map (some b)):=(hb.cell (p:=⟨w.heap.size,0,none⟩) (by simp;omega)).trans (by simp)
 have q2:w1.cell? ⟨w.heap.size+1,0,none⟩=some (.int .i64 i):=(hb.cell (p:=⟨w.heap.size+1,0,none⟩) (by simp)).trans (by simp)
 have hsm:∀ u∈bL p,u.length≤1048576:=by
  intro u hu;by_cases hpf:aF p=0
  ·have:=xX hpf u hu;omega
  ·rw[rF hpf]at hu;simp at hu
 have HQ:Hid (zta w1 207 #[.pointer (some ⟨w.heap.size,0,none⟩),.pointer (some ⟨w.heap.size+1,0,none⟩)] (fun q=>(S i q).any fun e=>!decide (e.kind=2))) :=
  aA ⟨enters_of Tryz.func207 (by kernel_rfl) rfl,fun q w' hq hb'=>zr5 b N i w.heap.size (w.heap.size+1) q S w0 w' (HM1.out.below hb') hi hq ((hb'.cell (p:=⟨w.heap.size,0,none⟩) (World.block_lt_of_cell? w1 _ q1)).trans q1) ((hb'.cell (p:=⟨w.heap.size+1,0,none⟩) (World.block_lt_of_cell? w1 _ q2)).trans q2)⟩
 have HSD:=aA (bD p);rw[HSD.out]at RS ⊢;have hal:=rG p;have HCF:=aA (xN av cv (bL p).length (bL p) _ _ _ w1 RS.out rfl (by omega) hsm HQ.out)
 clear ho hb q1 q2 hsm;have hfield:∀ (c v:Value) (w:World),(Instr.field 58 (.agg #[c,v]) 1).run Tryz.prog w=.ok v w:=fun c v w=>by kernel_rfl
 go_wp2_with fail
 refine HCF.out.mono ?_;rintro r w2 ⟨rfl,hb2⟩;have B2:=aA (aB B1.out hb2);clear hb2;go_wp2_with fail
 go_ret
 exact ⟨rfl,B2.out⟩
end Go.Proofs.YtgaeikgoknoamaaGreat
