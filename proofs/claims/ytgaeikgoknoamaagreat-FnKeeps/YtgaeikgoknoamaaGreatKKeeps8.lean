/-
  Texts put together: SeeE SnpL SnpM SnpN SnpO SeeF SeeG SeeH OvrP SnpR.
-/
import Derived.Test.YtgaeikgoknoamaaGreatKKeeps7
import Derived.Test.YtgaeikgoknoamaaGreatKKeeps6
import Derived.Test.YtgaeikgoknoamaaGreatKKeeps4
set_option linter.unusedVariables false
set_option maxHeartbeats 6400000
set_option maxRecDepth 100000
namespace Go.Proofs.YtgaeikgoknoamaaGreat
open Go.RowKit Go.Maps
attribute [local go_sem ↓] Go.wp_at_zero Go.wp_at_succ
def jD:List (List En)→Int
 | []=>0
 | es :: r=>if bE es=0 then jD r else bE es
def bY (ls:List (List En)):Int:=if 4<ls.length then 2 else jD ls
theorem yL:∀ {ls:List (List En)},jD ls=0↔∀ es∈ls,aV es
 | []=>by simp[jD]
 | es :: r=>by
  have ih:=yL (ls:=r);unfold jD;by_cases h:bE es=0
  ·rw[if_pos h,ih]
   simp[eE.1 h]
  ·rw[if_neg h]
   constructor
   ·intro h2;exact absurd h2 h
   ·intro h2;exact absurd (eE.2 (h2 es (by simp))) h
theorem fJ {ls:List (List En)}:bY ls=0↔ls.length≤4∧∀ es∈ls,aV es:=by
 unfold bY;by_cases h:4<ls.length
 ·rw[if_pos h];constructor
  ·intro h2;cases h2
  ·intro h2;omega
 ·rw[if_neg h,yL];constructor
  ·intro h2;exact ⟨by omega,h2⟩
  ·intro h2;exact h2.2
theorem zb1 {ls:List (List En)} {k:Nat} {es:List En} (he:ls[k]?=some es) (hf:bE es≠0):jD (ls.drop k)=bE es:=by
 obtain ⟨hk,hx⟩:=List.getElem?_eq_some_iff.1 he;rw[List.drop_eq_getElem_cons hk,hx];simp[jD,hf]
theorem yK {ls:List (List En)} {k:Nat} {es:List En} (he:ls[k]?=some es) (hf:bE es=0):jD (ls.drop k)=jD (ls.drop (k+1)):=by
 obtain ⟨hk,hx⟩:=List.getElem?_eq_some_iff.1 he;rw[List.drop_eq_getElem_cons hk,hx];simp[jD,hf]
def fV (ls:List (List En)):Prop:=∀ es∈ls,es.length≤1048576∧cG es
theorem kR (a:Option Addr) (c n:Nat) (ls:List (List En)) (w:World) (h:RdL w a ls) (hn:n=ls.length) (hl:ls.length≤1048576) (hs:fV ls) :
  Calls Tryz.prog 47 #[.slice a n c] w fun r w'=>r=.returned (.int .i64 (bY ls))∧Below w.heap.size w w':=by
 subst hn;have HR:=aA h;have HS:=aA hs;clear h hs;by_cases h4:4<ls.length
 ·have HZ:=aA (show bY ls=2 by simp[bY,h4])
  have h4':(4:Int)<(ls.length:Int):=by omega
  go_enter Tryz.func47,Tryz.ntmps47;go_wp2_with fail
  go_ret
  exact ⟨by rw[HZ.out];rfl,Below.refl _ _⟩
 ·have HZ:=aA (show bY ls=jD (ls.drop 0) by simp[bY,h4])
  have h4':¬ (4:Int)<(ls.length:Int):=by omega
  clear h4;generalize bY ls=V at *;go_enter Tryz.func47,Tryz.ntmps47;go_wp2_with fail
  go_loopw [11] (fun i wr=>∃ k:Nat,k≤ls.length∧i=.int .i64 k∧Hid (V=jD (ls.drop k))∧Hid (Below w.heap.size w wr)) (fun i _=>ls.length - (intOf i).toNat)
  case atStart=>exact ⟨0,Nat.zero_le _,rfl,HZ,aA (Below.refl _ _)⟩
  case round =>
   obtain ⟨k,hk,rfl,HV,HW⟩:=hrel;by_cases hlt:k<ls.length
   ·obtain ⟨b,off,es,x,cc,rfl,hb,he,c0,hr⟩:=(HR.out.below HW.out).at hlt
    obtain ⟨hel,hsm⟩:=HS.out es (List.mem_of_getElem? he);have HLF:=aA (jA x cc es.length es wr hr rfl (by omega) hsm)
    have HX:=aA he;clear he hr hsm;by_cases hf:bE es=0
    ·have HN:=aA (HV.out.trans (yK HX.out hf))
     rw[hf]at HLF;clear hf;go_wp2_with fail
     refine HLF.out.mono ?_;rintro r w1 ⟨rfl,hb1⟩;have B1:=aA (aB HW.out hb1);clear hb1 c0;go_wp2_with fail
     go_roundw
     case rel=>exact ⟨k+1,by omega,by go_num,HN,B1⟩
     case measure=>simp[intOf];omega
    ·have HN:=aA (HV.out.trans (zb1 HX.out hf))
     generalize bE es=F at *;have hf2:(F != 0)=true:=by simp;exact hf
     clear hf;go_wp2_with fail
     refine HLF.out.mono ?_;rintro r w1 ⟨rfl,hb1⟩;have B1:=aA (aB HW.out hb1);clear hb1 c0;go_wp2_with fail
     go_ret
     exact ⟨by rw[HN.out];rfl,B1.out⟩
   ·have HN:=aA (show V=0 by rw[HV.out,List.drop_eq_nil_of_le (by omega)];rfl)
    go_wp2_with fail
    go_ret
    exact ⟨by rw[HN.out];rfl,HW.out⟩
def dN (S:Nat→Bs→Option En) (p:Bs):Nat→Option Nat
 | 0=>none
 | n+1=>match S n p with
  | some e=>if e.kind=3 then none else some n
  | none=>if (bL p).any (fun q=>(S n q).any fun e=>!decide (e.kind=2)) then none else dN S p n
theorem rC {S:Nat→Bs→Option En} {p:Bs} {n:Nat} {e:En} (h:S n p=some e):dN S p (n+1)=if e.kind=3 then none else some n:=by simp[dN,h]
theorem uI {S:Nat→Bs→Option En} {p:Bs} {n:Nat} (h:S n p=none) (hh:((bL p).any fun q=>(S n q).any fun e=>!decide (e.kind=2))=true):dN S p (n+1)=none:=by simp[dN,h,hh]
theorem pE {S:Nat→Bs→Option En} {p:Bs} {n:Nat} (h:S n p=none) (hh:((bL p).any fun q=>(S n q).any fun e=>!decide (e.kind=2))=false):dN S p (n+1)=dN S p n:=by simp[dN,h,hh]
def zjg (o:Option Nat) (p:Bs) (w:World) (r:Ending) (w':World):Prop :=
 (match o with
  | some n=>r=.returned (.tuple #[gE n p,.bool true])
  | none=>∃ v s,r=.returned (.tuple #[.agg #[.int .i64 v,.string s],.bool false]))∧Below w.heap.size w w'
end Go.Proofs.YtgaeikgoknoamaaGreat
namespace Go.Proofs.YtgaeikgoknoamaaGreat
structure Sn where
 name:Bs
 parent:Bs
 kind:Int
 lease:Bool
 layer:List En
def fL (b:Bs):Bool:=dX b&&decide (b.length≤4)
theorem iC {b:Bs} (h:fL b=true):b≠[]:=fun e=>by subst e;simp[fL,dX]at h
def atS (l:List Sn) (nm:Bs):Option Sn:=l.find? fun s=>s.name==nm
theorem cI {l:List Sn} {nm:Bs} {s:Sn} (h:atS l nm=some s):s∈l∧s.name=nm:=⟨List.mem_of_find?_eq_some h,by simpa using List.find?_some h⟩
theorem jZ {l:List Sn} {nm:Bs}:atS l nm=none↔∀ s∈l,s.name≠nm:=by simp[atS]
def lwQ (prev:Option Sn) (s:Sn):Bool :=
 match prev with
 | none=>false
 | some q=>Op.bytesLess s.name q.name||(s.name==q.name)
def lW (prev:Option Sn) (s:Sn):Int:=if fL s.name then (if (s.kind==1||s.kind==2)&&!lwQ prev s then bE s.layer else 1) else 5
def gH:Option Sn→List Sn→Int
 | _,[]=>0
 | prev,s :: r=>if lW prev s=0 then gH (some s) r else lW prev s
def aL (l:List Sn):Nat→Option Sn→List Sn
 | 0,_=>[]
 | _+1,none=>[]
 | f+1,some s=>s :: aL l f (atS l s.parent)
theorem jC (l:List Sn) (f:Nat):aL l f none=[]:=by cases f <;> rfl
theorem rN (l:List Sn):∀ (f:Nat) (o:Option Sn),(aL l f o).length≤f
 | 0,_=>by simp[aL]
 | f+1,none=>by simp[aL]
 | f+1,some s=>by have:=rN l f (atS l s.parent);simp[aL];omega
theorem tR (l:List Sn):∀ (f:Nat) (o:Option Sn) (g:Nat),(aL l f o).length<f→f≤g→aL l g o=aL l f o
 | 0,_,g,h,_=>by simp at h
 | f+1,none,g,_,_=>by rw[jC,jC]
 | f+1,some s,0,_,hg=>by omega
 | f+1,some s,g+1,h,hg=>by
  simp only[aL,List.length_cons]at h ⊢;rw[tR l f (atS l s.parent) g (by omega) (by omega)]
theorem lH {l:List Sn}:∀ {f:Nat} {o:Option Sn},(∀ s,o=some s→s∈l)→∀ x∈aL l f o,x∈l
 | 0,_,_,x,hx=>by simp[aL]at hx
 | f+1,none,_,x,hx=>by simp[aL]at hx
 | f+1,some s,h,x,hx=>by
  simp only[aL,List.mem_cons]at hx;rcases hx with rfl | hx
  ·exact h _ rfl
  ·exact lH (fun y hy=>(cI hy).1) x hx
def eG (l:List Sn) (s:Sn):Int :=
 if s.parent=[] then 0 else match atS l s.parent with
 | none=>4
 | some p=>if p.kind=1 then 10 else if 4<(aL l 5 (some s)).length then 2 else 0
def fR (l:List Sn):List Sn→Int
 | []=>0
 | s :: r=>if eG l s=0 then fR l r else eG l s
def snF (l:List Sn):Int:=if 10<l.length then 2 else if gH none l=0 then fR l l else gH none l
def fM (l:List Sn):Prop:=l.Pairwise fun x y=>Op.bytesLess x.name y.name=true
theorem zo6 {q s:Sn} (h:lwQ (some q) s=false):Op.bytesLess q.name s.name=true:=by
 simp only[lwQ,Bool.or_eq_false_iff,beq_eq_false_iff_ne]at h;exact iS _ _ h.1 h.2
theorem zdl {q s:Sn} (h:Op.bytesLess q.name s.name=true):lwQ (some q) s=false:=by
 simp only[lwQ,Bool.or_eq_false_iff,beq_eq_false_iff_ne];exact ⟨iR h,fun e=>kB h e.symm⟩
def sX (s:Sn):Prop:=fL s.name=true∧(s.kind=1∨s.kind=2)∧bE s.layer=0
theorem zn3 {prev:Option Sn} {s:Sn}:lW prev s=0↔sX s∧lwQ prev s=false:=by
 unfold lW sX;by_cases h1:fL s.name=true
 ·rw[if_pos h1]
  by_cases h2:((s.kind==1||s.kind==2)&&!lwQ prev s)=true
  ·rw[if_pos h2]
   simp only[Bool.and_eq_true,Bool.or_eq_true,beq_iff_eq,Bool.not_eq_true']at h2;exact ⟨fun h=>⟨⟨h1,h2.1,h⟩,h2.2⟩,fun h=>h.1.2.2⟩
  ·rw[if_neg h2]
   refine ⟨fun h=>absurd h (by decide),fun h=>absurd ?_ h2⟩
   simp only[Bool.and_eq_true,Bool.or_eq_true,beq_iff_eq,Bool.not_eq_true'];exact ⟨h.1.2.1,h.2⟩
 ·rw[if_neg h1]
  exact ⟨fun h=>absurd h (by decide),fun h=>absurd h.1.1 h1⟩
theorem nM:∀ {l:List Sn} {prev:Option Sn},gH prev l=0↔(∀ s∈l,sX s)∧fM l∧(∀ q s,prev=some q→s∈l→Op.bytesLess q.name s.name=true)
 | [],prev=>by simp[gH,fM]
 | s :: r,prev=>by
  have ih:=@nM r (some s);unfold gH;by_cases h:lW prev s=0
  ·rw[if_pos h,ih]
   obtain ⟨h1,h2⟩:=zn3.1 h;constructor
   ·rintro ⟨a1,a2,a3⟩
    refine ⟨fun x hx=>?_,List.pairwise_cons.2 ⟨fun y hy=>a3 s y rfl hy,a2⟩,fun q x hq hx=>?_⟩
    ·rcases List.mem_cons.1 hx with rfl | hx
     ·exact h1
     ·exact a1 x hx
    ·subst hq
     rcases List.mem_cons.1 hx with rfl | hx
     ·exact zo6 h2
     ·exact iG _ _ _ (zo6 h2) (a3 s x rfl hx)
   ·rintro ⟨a1,a2,a3⟩
    obtain ⟨b1,b2⟩:=List.pairwise_cons.1 a2;exact ⟨fun x hx=>a1 x (List.mem_cons_of_mem _ hx),b2,fun q x hq hx=>by cases hq;exact b1 x hx⟩
  ·rw[if_neg h]
   refine ⟨fun e=>absurd e h,fun ⟨a1,a2,a3⟩=>absurd (zn3.2 ⟨a1 s (List.mem_cons_self ..),?_⟩) h⟩
   cases prev with
   | none=>rfl
   | some q=>exact zdl (a3 q s rfl (List.mem_cons_self ..))
def qM (l:List Sn) (s:Sn):Prop:=s.parent=[]∨∃ p,atS l s.parent=some p∧p.kind≠1∧(aL l 5 (some s)).length≤4
theorem oQ {l:List Sn} {s:Sn}:eG l s=0↔qM l s:=by
 unfold eG qM;by_cases h:s.parent=[]
 ·simp[h]
 ·rw[if_neg h]
  cases hp:atS l s.parent with
  | none=>simp[h]
  | some p =>
   simp only[h,false_or,Option.some.injEq,exists_eq_left'];by_cases h1:p.kind=1
   ·rw[if_pos h1];simp[h1]
   ·rw[if_neg h1]
    by_cases h2:4<(aL l 5 (some s)).length
    ·rw[if_pos h2];exact ⟨fun e=>absurd e (by decide),fun e=>by omega⟩
    ·rw[if_neg h2];exact ⟨fun _=>⟨h1,by omega⟩,fun _=>rfl⟩
theorem wU {l:List Sn}:∀ {r:List Sn},fR l r=0↔∀ s∈r,qM l s
 | []=>by simp[fR]
 | s :: r=>by
  unfold fR;by_cases h:eG l s=0
  ·rw[if_pos h,wU]
   have:=oQ.1 h;simp[this]
  ·rw[if_neg h]
   refine ⟨fun e=>absurd e h,fun e=>absurd (oQ.2 (e s (List.mem_cons_self ..))) h⟩
structure bH (l:List Sn):Prop where
 len:l.length≤10
 own:∀ s∈l,sX s
 rise:fM l
 stand:∀ s∈l,qM l s
theorem oI {l:List Sn}:snF l=0↔bH l:=by
 unfold snF;by_cases h:10<l.length
 ·rw[if_pos h];exact ⟨fun e=>absurd e (by decide),fun e=>by have:=e.len;omega⟩
 ·rw[if_neg h]
  by_cases h1:gH none l=0
  ·rw[if_pos h1,wU]
   obtain ⟨a1,a2,-⟩:=nM.1 h1;exact ⟨fun e=>⟨by omega,a1,a2,e⟩,fun e=>e.stand⟩
  ·rw[if_neg h1]
   exact ⟨fun e=>absurd e h1,fun e=>absurd (nM.2 ⟨e.own,e.rise,fun q s hq=>by cases hq⟩) h1⟩
theorem bH.line {l:List Sn} (h:bH l) {s:Sn} (hs:s∈l):(aL l 5 (some s)).length≤4:=by
 rcases h.stand s hs with h1 | ⟨p,-,-,h2⟩
 ·have:atS l s.parent=none:=by
   rw[h1];exact jZ.2 fun x hx e=>iC (h.own x hx).1 e
  simp only[aL,this,List.length_cons];simp
 ·exact h2
def cH (l:List Sn) (s:Sn):List (List En):=((aL l 5 (some s)).map Sn.layer).reverse
theorem nI {l:List Sn} (h:bH l) {s:Sn} (hs:s∈l):(cH l s).length≤4:=by
 unfold cH;rw[List.length_reverse,List.length_map];exact h.line hs
theorem zb0 {l:List Sn} (h:bH l) {s:Sn} (hs:s∈l):bY (cH l s)=0:=by
 refine fJ.2 ⟨nI h hs,fun es he=>?_⟩
 unfold cH at he;rw[List.mem_reverse,List.mem_map]at he;obtain ⟨x,hx,rfl⟩:=he;have:=(h.own x (lH (fun y hy=>by cases hy;exact hs) x hx)).2.2
 exact eE.1 this
theorem nZ {l:List Sn} (h:fM l) {s:Sn} (hs:s∈l):atS l s.name=some s:=by
 induction l with
 | nil=>cases hs
 | cons x r ih =>
  obtain ⟨b1,b2⟩:=List.pairwise_cons.1 h;unfold atS;rcases List.mem_cons.1 hs with rfl | hs
  ·simp
  ·have hne:x.name≠s.name:=kB (b1 s hs)
   rw[List.find?_cons_of_neg (by simpa using hne)]
   exact ih b2 hs
def dK (l:List Sn) (s:Sn):List Sn:=l.filter (fun x=>Op.bytesLess x.name s.name)++s :: l.filter (fun x=>Op.bytesLess s.name x.name)
theorem mO {l:List Sn} {s x:Sn}:x∈dK l s↔x=s∨(x∈l∧x.name≠s.name):=by
 unfold dK;simp only[List.mem_append,List.mem_filter,List.mem_cons];constructor
 ·rintro (⟨h1,h2⟩ | rfl | ⟨h1,h2⟩)
  ·exact .inr ⟨h1,kB h2⟩
  ·exact .inl rfl
  ·exact .inr ⟨h1,fun e=>kB h2 e.symm⟩
 ·rintro (rfl | ⟨h1,h2⟩)
  ·exact .inr (.inl rfl)
  ·cases hb:Op.bytesLess x.name s.name with
   | true=>exact .inl ⟨h1,rfl⟩
   | false=>exact .inr (.inr ⟨h1,iS _ _ hb h2⟩)
theorem rQ {l:List Sn} (h:fM l) (s:Sn):fM (dK l s):=by
 unfold fM dK;rw[List.pairwise_append];refine ⟨h.sublist List.filter_sublist,List.pairwise_cons.2 ⟨fun y hy=>(List.mem_filter.1 hy).2,h.sublist List.filter_sublist⟩,fun x hx y hy=>?_⟩
 have h1:=(List.mem_filter.1 hx).2;rcases List.mem_cons.1 hy with rfl | hy
 ·exact h1
 ·exact iG _ _ _ h1 (List.mem_filter.1 hy).2
theorem zm1 {l:List Sn} (h:fM l) {nm:Bs} {s:Sn}:atS l nm=some s↔s∈l∧s.name=nm:=⟨cI,fun ⟨h1,h2⟩=>by rw[←h2];exact nZ h h1⟩
theorem mT {l:List Sn} (h:fM l) (s:Sn) (nm:Bs):atS (dK l s) nm=if nm=s.name then some s else atS l nm:=by
 by_cases e:nm=s.name
 ·rw[if_pos e]
  exact (zm1 (rQ h s)).2 ⟨mO.2 (.inl rfl),e.symm⟩
 ·rw[if_neg e]
  cases hx:atS l nm with
  | none =>
   rw[jZ]at hx ⊢;intro x hx';rcases mO.1 hx' with rfl | ⟨h1,-⟩
   ·exact fun e2=>e e2.symm
   ·exact hx x h1
  | some x =>
   obtain ⟨h1,h2⟩:=cI hx;exact (zm1 (rQ h s)).2 ⟨mO.2 (.inr ⟨h1,by rw[h2];exact e⟩),h2⟩
theorem qR:∀ (l:List Sn) (s:Sn),(l.filter (fun x=>Op.bytesLess x.name s.name)).length+(l.filter (fun x=>Op.bytesLess s.name x.name)).length+(l.filter (fun x=>x.name==s.name)).length=l.length
 | [],s=>rfl
 | x :: r,s=>by
  have ih:=qR r s;by_cases e:x.name=s.name
  ·have h1:Op.bytesLess x.name s.name=false:=by rw[e];exact iQ _
   have h2:Op.bytesLess s.name x.name=false:=by rw[e];exact iQ _
   have h3:(x.name==s.name)=true:=by simpa using e
   simp only[List.filter_cons,h1,h2,h3,Bool.false_eq_true,if_false,if_true,List.length_cons];omega
  ·have h3:(x.name==s.name)=false:=by simpa using e
   cases hb:Op.bytesLess x.name s.name with
   | true =>
    have h2:=iR hb;simp only[List.filter_cons,hb,h2,h3,Bool.false_eq_true,if_false,if_true,List.length_cons];omega
   | false =>
    have h2:=iS _ _ hb e;simp only[List.filter_cons,hb,h2,h3,Bool.false_eq_true,if_false,if_true,List.length_cons];omega
theorem zfi {l:List Sn} {s:Sn} (h:atS l s.name=none):(dK l s).length=l.length+1:=by
 have h1:=qR l s;have h2:l.filter (fun x=>x.name==s.name)=[]:=List.filter_eq_nil_iff.2 fun x hx=>by simpa using jZ.1 h x hx
 rw[h2]at h1;simp only[List.length_nil]at h1;simp only[dK,List.length_append,List.length_cons];omega
theorem zt6:∀ {l:List Sn},fM l→∀ {t:Sn},t∈l→(l.filter (fun x=>x.name==t.name)).length=1
 | [],_,t,ht=>by cases ht
 | x :: r,h,t,ht=>by
  obtain ⟨b1,b2⟩:=List.pairwise_cons.1 h;rcases List.mem_cons.1 ht with rfl | ht
  ·have:r.filter (fun x=>x.name==t.name)=[]:=List.filter_eq_nil_iff.2 fun y hy=>by
    have:=kB (b1 y hy);simpa using fun e=>this e.symm
   simp[this]
  ·have h3:(x.name==t.name)=false:=by simpa using kB (b1 t ht)
   simp only[List.filter_cons,h3,Bool.false_eq_true,if_false];exact zt6 b2 ht
theorem zgi {l:List Sn} (h:fM l) {s t:Sn} (ht:atS l s.name=some t):(dK l s).length=l.length:=by
 obtain ⟨h1,h2⟩:=cI ht;have h3:=qR l s;have h4:=zt6 h h1;rw[h2]at h4;rw[h4]at h3;simp only[dK,List.length_append,List.length_cons];omega
theorem zl6 {l:List Sn} (h:fM l) {s t:Sn} (ht:atS l s.name=some t) (hp:s.parent=t.parent):∀ (f:Nat) (o:Option Sn),(∀ x,o=some x→x∈l)→aL (dK l s) f (o.map fun x=>if x.name=s.name then s else x)=(aL l f o).map fun x=>if x.name=s.name then s else x
 | 0,o,_=>by simp[aL]
 | f+1,none,_=>by simp[aL]
 | f+1,some x,hx=>by
  have hxl:=hx x rfl;have hpar:(if x.name=s.name then s else x).parent=x.parent:=by
   split
   ·rename_i e
    have:t=x:=by
     have h1:=nZ h hxl;rw[e,ht]at h1;exact Option.some.inj h1
    rw[hp,this]
   ·rfl
  simp only[Option.map_some,aL,List.map_cons,List.cons.injEq,true_and];rw[hpar,mT h];have:=zl6 h ht hp f (atS l x.parent) (fun y hy=>(cI hy).1)
  rw[←this]
  congr 1
  by_cases e:x.parent=s.name
  ·rw[if_pos e,e,ht]
   simp[(cI ht).2]
  ·rw[if_neg e]
   cases hq:atS l x.parent with
   | none=>rfl
   | some y =>
    have:=(cI hq).2;simp[this,e]
theorem tS {l:List Sn} (h:fM l) {s:Sn} (hn:∀ x∈l,x.parent≠s.name):∀ (f:Nat) (o:Option Sn),(∀ x,o=some x→x∈l)→aL (dK l s) f o=aL l f o
 | 0,o,_=>by simp[aL]
 | f+1,none,_=>by simp[aL]
 | f+1,some x,hx=>by
  simp only[aL,List.cons.injEq,true_and];rw[mT h,if_neg (hn x (hx x rfl))];exact tS h hn f _ (fun y hy=>(cI hy).1)
theorem bH.no_child {l:List Sn} (h:bH l) {nm:Bs} (hn:atS l nm=none) (h0:nm≠[]):∀ x∈l,x.parent≠nm:=fun x hx e=>by
 rcases h.stand x hx with h1 | ⟨p,h1,-,-⟩
 ·exact h0 (e ▸ h1)
 ·rw[e,hn]at h1;cases h1
theorem zvf {l:List Sn} (h:bH l) {s:Sn} (ho:sX s) (hn:atS l s.name=none) (hs:qM l s) (hl:l.length<10) (hself:s.parent≠s.name):bH (dK l s):=by
 have hnc:=h.no_child hn (iC ho.1);refine ⟨by rw[zfi hn];omega,fun x hx=>?_,rQ h.rise s,fun x hx=>?_⟩
 ·rcases mO.1 hx with rfl | ⟨h1,-⟩
  ·exact ho
  ·exact h.own x h1
 ·rcases mO.1 hx with rfl | ⟨h1,-⟩
  ·rcases hs with e | ⟨p,e1,e2,e3⟩
   ·exact .inl e
   ·refine .inr ⟨p,by rw[mT h.rise,if_neg hself];exact e1,e2,?_⟩
    simp only[aL]at e3 ⊢;rw[mT h.rise,if_neg hself,tS h.rise hnc 4 _ (fun y hy=>(cI hy).1)]
    exact e3
  ·rcases h.stand x h1 with e | ⟨p,e1,e2,e3⟩
   ·exact .inl e
   ·refine .inr ⟨p,by rw[mT h.rise,if_neg (hnc x h1)];exact e1,e2,?_⟩
    rw[tS h.rise hnc 5 _ (fun y hy=>by cases hy;exact h1)]
    exact e3
theorem uD {l:List Sn} (h:bH l) {s t:Sn} (ho:sX s) (ht:atS l s.name=some t) (hp:s.parent=t.parent) (hk:t.kind≠1→s.kind≠1):bH (dK l s):=by
 obtain ⟨htl,htn⟩:=cI ht;have hline:∀ x∈l,aL (dK l s) 5 (some (if x.name=s.name then s else x))=(aL l 5 (some x)).map fun x=>if x.name=s.name then s else x:=fun x hx=>zl6 h.rise ht hp 5 (some x) (fun y hy=>by cases hy;exact hx)
 have hst:∀ x∈l,qM (dK l s) (if x.name=s.name then s else x):=by
  intro x hx;have hpar:(if x.name=s.name then s else x).parent=x.parent:=by
   split
   ·rename_i e
    have:t=x:=by
     have h1:=nZ h.rise hx;rw[e,ht]at h1;exact Option.some.inj h1
    rw[hp,this]
   ·rfl
  rcases h.stand x hx with e | ⟨p,e1,e2,e3⟩
  ·exact .inl (by rw[hpar];exact e)
  ·refine .inr ?_
   rw[hpar,hline x hx,List.length_map,mT h.rise];by_cases e:x.parent=s.name
   ·rw[if_pos e]
    rw[e,ht]at e1;cases e1
    exact ⟨s,rfl,hk e2,e3⟩
   ·rw[if_neg e]
    exact ⟨p,e1,e2,e3⟩
 refine ⟨by rw[zgi h.rise ht];exact h.len,fun x hx=>?_,rQ h.rise s,fun x hx=>?_⟩
 ·rcases mO.1 hx with rfl | ⟨h1,-⟩
  ·exact ho
  ·exact h.own x h1
 ·rcases mO.1 hx with rfl | ⟨h1,h2⟩
  ·have:=hst t htl
   rwa [if_pos htn]at this
  ·have:=hst x h1
   rwa [if_neg h2]at this
def pK (l:List Sn) (nm:Bs):List Sn:=l.filter fun x=>!(x.name==nm)
theorem tU {l:List Sn} {nm:Bs} {x:Sn}:x∈pK l nm↔x∈l∧x.name≠nm:=by simp[pK]
theorem zh3 {l:List Sn} (h:fM l) (nm:Bs):fM (pK l nm):=h.sublist List.filter_sublist
theorem zy9 {l:List Sn} (h:fM l) {nm k:Bs} (hk:k≠nm):atS (pK l nm) k=atS l k:=by
 cases hx:atS l k with
 | none =>
  rw[jZ]at hx ⊢;exact fun x hx'=>hx x (tU.1 hx').1
 | some x =>
  obtain ⟨h1,h2⟩:=cI hx;exact (zm1 (zh3 h nm)).2 ⟨tU.2 ⟨h1,by rw[h2];exact hk⟩,h2⟩
theorem zk6 {l:List Sn} (h:fM l) {nm:Bs} (hn:∀ x∈l,x.parent≠nm):∀ (f:Nat) (o:Option Sn),(∀ x,o=some x→x∈l)→aL (pK l nm) f o=aL l f o
 | 0,o,_=>by simp[aL]
 | f+1,none,_=>by simp[aL]
 | f+1,some x,hx=>by
  simp only[aL,List.cons.injEq,true_and];rw[zy9 h (hn x (hx x rfl))];exact zk6 h hn f _ (fun y hy=>(cI hy).1)
theorem zwf {l:List Sn} (h:bH l) {nm:Bs} (hn:∀ x∈l,x.parent≠nm):bH (pK l nm):=by
 refine ⟨Nat.le_trans (List.length_filter_le ..) h.len,fun x hx=>h.own x (tU.1 hx).1,zh3 h.rise nm,fun x hx=>?_⟩
 obtain ⟨h1,h2⟩:=tU.1 hx;rcases h.stand x h1 with e | ⟨p,e1,e2,e3⟩
 ·exact .inl e
 ·refine .inr ⟨p,by rw[zy9 h.rise (hn x h1)];exact e1,e2,?_⟩
  rw[zk6 h.rise hn 5 _ (fun y hy=>by cases hy;exact h1)]
  exact e3
def tF (l:List Sn) (s:Sn):Int:=if fL s.name then (if (atS l s.name).isSome then 7 else if eG l s=0 then (if 10≤l.length then 2 else 0) else eG l s) else 5
theorem tG {l:List Sn} {s:Sn}:tF l s=0↔fL s.name=true∧atS l s.name=none∧qM l s∧l.length<10:=by
 unfold tF;by_cases h1:fL s.name=true
 ·rw[if_pos h1]
  cases h2:atS l s.name with
  | some t=>simp
  | none =>
   simp only[Option.isSome_none,Bool.false_eq_true,if_false,h1,true_and];by_cases h3:eG l s=0
   ·rw[if_pos h3]
    by_cases h4:10≤l.length
    ·rw[if_pos h4];exact ⟨fun e=>absurd e (by decide),fun e=>by omega⟩
    ·rw[if_neg h4];exact ⟨fun _=>⟨oQ.1 h3,by omega⟩,fun _=>rfl⟩
   ·rw[if_neg h3];exact ⟨fun e=>absurd e h3,fun e=>absurd (oQ.2 e.1) h3⟩
 ·rw[if_neg h1];exact ⟨fun e=>absurd e (by decide),fun e=>absurd e.1 h1⟩
theorem zt2 {l:List Sn} {s:Sn} (h:tF l s=0):s.parent≠s.name:=fun e=>by
 obtain ⟨h1,h2,h3,-⟩:=tG.1 h;rcases h3 with h3 | ⟨p,h3,-⟩
 ·rw[h3]at e;exact iC h1 e.symm
 ·rw[e,h2]at h3;cases h3
theorem ze0 {l:List Sn} (hr:bH l) {s:Sn} (h:tF l s=0) (hk:s.kind=1∨s.kind=2) (hl:bE s.layer=0):bH (dK l s):=by
 obtain ⟨h1,h2,h3,h4⟩:=tG.1 h;exact zvf hr ⟨h1,hk,hl⟩ h2 h3 h4 (zt2 h)
theorem zpk {l:List Sn} (hr:bH l) {s p:Sn} (h:tF l s=0) (hp:atS l s.parent=some p):cH (dK l s) s=cH l p ++ [s.layer]:=by
 obtain ⟨h1,h2,h3,-⟩:=tG.1 h;have hl:(aL l 5 (some s)).length≤4:=by
  rcases h3 with h3 | ⟨p',h3,-,h4⟩
  ·have e:atS l []=none:=jZ.2 fun x hx e=>iC (hr.own x hx).1 e
   rw[h3,e]at hp;cases hp
  ·exact h4
 simp only[aL,hp,List.length_cons]at hl;have h4:=tR l 4 (some p) 5 (by simp only[aL,List.length_cons];omega) (by omega)
 unfold cH;rw[h4]
 conv=>lhs;unfold aL
 rw[mT hr.rise,if_neg (zt2 h),hp,tS hr.rise (hr.no_child h2 (iC h1)) 4 _ (fun y hy=>by cases hy;exact (cI hp).1)]
 simp
def eQ (l:List Sn) (nm:Bs):Nat:=(aL l 5 (if nm=[] then none else atS l nm)).length
def cW (l:List Sn) (s:Sn):Int :=
 if fL s.name then (if (atS l s.name).isSome then 7 else
  if s.parent=[] then (if 10≤l.length∨4≤eQ l s.parent then 2 else 0) else match atS l s.parent with
  | none=>4
  | some p=>if p.kind=1 then 10 else if 10≤l.length∨4≤eQ l s.parent then 2 else 0) else 5
theorem zs2 {l:List Sn} (hr:bH l) (s:Sn):cW l s=tF l s:=by
 unfold cW tF eG;by_cases h1:fL s.name=true
 ·rw[if_pos h1,if_pos h1]
  by_cases h2:(atS l s.name).isSome=true
  ·rw[if_pos h2,if_pos h2]
  ·rw[if_neg h2,if_neg h2]
   by_cases h3:s.parent=[]
   ·have hd:eQ l s.parent=0:=by unfold eQ;rw[if_pos h3,jC];rfl
    rw[if_pos h3,if_pos h3,if_pos rfl,hd];simp
   ·rw[if_neg h3,if_neg h3]
    cases hp:atS l s.parent with
    | none=>simp
    | some p =>
     simp only;by_cases h4:p.kind=1
     ·rw[if_pos h4,if_pos h4];simp
     ·rw[if_neg h4,if_neg h4]
      have hpl:=hr.line (cI hp).1;have hm:=tR l 4 (some p) 5;have hle:=rN l 4 (some p);have hd:eQ l s.parent=(aL l 5 (some p)).length:=by unfold eQ;rw[if_neg h3,hp]
      have hs5:(aL l 5 (some s)).length=1+(aL l 4 (some p)).length:=by
       have e5:aL l 5 (some s)=s :: aL l 4 (atS l s.parent):=rfl;rw[e5,hp,List.length_cons,Nat.add_comm]
      have hiff:4≤eQ l s.parent↔4<(aL l 5 (some s)).length:=by
       rw[hd,hs5];by_cases hlt:(aL l 4 (some p)).length<4
       ·rw[hm hlt (by omega)];omega
       ·have h45:(aL l 4 (some p)).length≤(aL l 5 (some p)).length:=by
         by_cases hx:(aL l 5 (some p)).length<4
         ·exfalso
          have:∀ (f:Nat) (o:Option Sn),(aL l f o).length≤(aL l (f+1) o).length:=by
           intro f
           induction f with
           | zero=>intro o;simp[aL]
           | succ f ih =>
            intro o;cases o with
            | none=>simp[aL]
            | some y =>
             have:=ih (atS l y.parent)
             conv=>lhs;unfold aL
             conv=>rhs;unfold aL
             simpa using this
          have h9:(aL l 4 (some p)).length≤(aL l 5 (some p)).length:=this 4 (some p);omega
         ·omega
        omega
      by_cases h5:4<(aL l 5 (some s)).length
      ·rw[if_pos h5,if_pos (.inr (hiff.2 h5))];simp
      ·rw[if_neg h5,if_pos rfl]
       have:¬ 4≤eQ l s.parent:=fun e=>h5 (hiff.1 e)
       simp[this]
 ·rw[if_neg h1,if_neg h1]
def mP (prev:Option Sn) (s:Sn):Int:=if fL s.name then (if (s.kind==1||s.kind==2)&&!lwQ prev s then cD s.layer else 1) else 5
def iM:Option Sn→List Sn→Int
 | _,[]=>0
 | prev,s :: r=>if mP prev s=0 then iM (some s) r else mP prev s
def jS (l:List Sn) (s:Sn):Int :=
 if s.parent=[] then 0 else match atS l s.parent with
 | none=>4
 | some p=>if p.kind=1 then 10 else if 4<eQ l s.name then 2 else 0
def iD (l:List Sn):List Sn→Int
 | []=>0
 | s :: r=>if jS l s=0 then iD l r else jS l s
def snM (l:List Sn):Int:=if 10<l.length then 2 else if iM none l=0 then iD l l else iM none l
def zX (l:List Sn):Prop:=∀ s∈l,cD s.layer=bE s.layer
theorem zh0:∀ {l:List Sn} (h:zX l) (prev:Option Sn),iM prev l=gH prev l
 | [],_,prev=>rfl
 | s :: r,h,prev=>by
  have h1:mP prev s=lW prev s:=by unfold mP lW;rw[h s (List.mem_cons_self ..)]
  unfold iM gH;rw[h1,zh0 (fun x hx=>h x (List.mem_cons_of_mem _ hx)) (some s)]
theorem zr9 {l:List Sn} (hr:fM l) {s:Sn} (hs:s∈l) (hn:fL s.name=true):jS l s=eG l s:=by
 have:eQ l s.name=(aL l 5 (some s)).length:=by
  unfold eQ;rw[if_neg (iC hn),nZ hr hs]
 unfold jS eG;rw[this]
 all_goals (cases atS l s.parent <;> rfl)
theorem wS {l:List Sn} (hr:fM l) (ho:∀ s∈l,sX s):∀ r:List Sn,(∀ s∈r,s∈l)→iD l r=fR l r
 | [],_=>rfl
 | s :: r,h=>by
  have hs:=h s (List.mem_cons_self ..);unfold iD fR;rw[zr9 hr hs (ho s hs).1,wS hr ho r (fun x hx=>h x (List.mem_cons_of_mem _ hx))]
theorem zm7 {l:List Sn} (h:zX l):snM l=snF l:=by
 unfold snM snF;rw[zh0 h];by_cases h0:gH none l=0
 ·obtain ⟨a1,a2,-⟩:=nM.1 h0
  rw[wS a2 a1 l (fun _ hx=>hx)]
 ·rw[if_neg h0,if_neg h0]
def iW (l:List Sn) (s:Sn):List (List En):=((aL l 4 (atS l s.parent)).map Sn.layer).reverse
theorem oU (l:List Sn) (s:Sn):cH l s=iW l s ++ [s.layer]:=by
 unfold cH iW;have e5:aL l 5 (some s)=s :: aL l 4 (atS l s.parent):=rfl;rw[e5];simp
end Go.Proofs.YtgaeikgoknoamaaGreat
namespace Go.Proofs.YtgaeikgoknoamaaGreat
open Go.RowKit Go.Maps
attribute [local go_sem ↓] Go.wp_at_zero Go.wp_at_succ
theorem zi1 (b N:Nat) (p:Bs) (S:Nat→Bs→Option En) (w0 w:World) (h:dZ w0 w b N S) (hp:p.length≤1048576) :
  Calls Tryz.prog 118 #[.map (some b),.string (str p)] w (zjg (dN S p 4) p w):=by
 have X0:=aA (Box.new w (.int .i64 0) (.string ⟨#[]⟩) 177);have B0:=aA (aC w (.cells #[.int .i64 0,.string ⟨#[]⟩] 177));have M0:=aA (h.below B0.out);clear h;go_enter Tryz.func118,Tryz.ntmps118;go_wp2_with fail
 generalize w.alloc (.cells #[.int .i64 0,.string ⟨#[]⟩] 177)=W0 at *;go_loopw [6] (fun i wr=>∃ n:Nat,n≤4∧i=.int .i64 ((n:Int) - 1)∧Hid (dN S p 4=dN S p n)∧Hid (Below W0.heap.size W0 wr)) (fun i _=>(intOf i+1).toNat)
 case atStart=>exact ⟨4,Nat.le_refl _,rfl,aA rfl,aA (Below.refl _ _)⟩
 case round =>
  obtain ⟨n,hn,hi,HV,HW⟩:=hrel;cases n with
  | zero =>
   rw[show ((0:Nat):Int) - 1 = -1 from rfl]at hi
   subst hi;have HN:=aA (show dN S p 4=none from HV.out)
   obtain ⟨⟨t0,t1⟩,t2,t3⟩:=X0.out.below HW.out;clear HV;go_wp2_with fail
   refine bodyPost_ret (v:=.tuple #[.agg #[.int .i64 0,.string ⟨#[]⟩],.bool false]) (by simp[results,Tryz.results118,go_sem,t0,t1]) rfl ?_
   rw[HN.out];exact ⟨⟨0,⟨#[]⟩,rfl⟩,((aB B0.out HW.out).setCell (p:=⟨w.heap.size,0,none⟩) (Nat.le_refl _) _).setCell (p:=⟨w.heap.size,1,none⟩) (Nat.le_refl _) _⟩
  | succ m =>
   rw[show ((m+1:Nat):Int) - 1=(m:Int) from by omega]at hi
   subst hi;have hm0:(0:Int)≤(m:Int):=by omega
   have MW:=aA (M0.out.below HW.out);have BS:=aA (aC wr (.cells #[.int .i64 m,.string (str p)] 177));have MS:=aA (MW.out.below BS.out);cases hS:S m p with
   | none =>
    have HL:=aA (MS.out.no (i:=m) (p:=p) (by omega) hp hS)
    have BI:=aA (aB BS.out (aC _ (.cells #[.int .i64 0,.slice none 0 0,.string ⟨#[]⟩,.int .i64 0] 91)));have HHA:=aA (zu1 b N m p S w0 _ (MW.out.below BI.out) (by omega) hp)
    have hm1:IntKind.i64.wrap ((m:Int) - 1)=(m:Int) - 1:=by simp[IntKind.wrap,IntKind.signed,IntKind.bits];omega
    cases hh:(bL p).any fun q=>(S m q).any fun e=>!decide (e.kind=2)
    ·have HN:=aA (HV.out.trans (pE hS hh))
     rw[hh]at HHA;clear hh hS;go_wp2_with (at_lookup;refine hI rfl _ _ 120 true rfl _ _ _ rfl rfl HL.out ?_)
     refine HHA.out.mono ?_;rintro r w2 ⟨rfl,hb2⟩;have B2:=aA (aB (aB HW.out BI.out) hb2);clear hb2;go_wp2_with fail
     go_roundw
     case rel=>exact ⟨m,by omega,by first | rfl | go_num,HN,B2⟩
     case measure=>simp[intOf] <;> omega
    ·have HN:=aA (HV.out.trans (uI hS hh))
     rw[hh]at HHA;clear hh hS;go_wp2_with (at_lookup;refine hI rfl _ _ 120 true rfl _ _ _ rfl rfl HL.out ?_)
     refine HHA.out.mono ?_;rintro r w2 ⟨rfl,hb2⟩;have B2:=aA (aB (aB HW.out BI.out) hb2);obtain ⟨⟨t0,t1⟩,t2,t3⟩:=X0.out.below B2.out;clear hb2;go_wp2_with fail
     refine bodyPost_ret (v:=.tuple #[.agg #[.int .i64 0,.string ⟨#[]⟩],.bool false]) (by simp[results,Tryz.results118,go_sem,t0,t1]) rfl ?_
     rw[HN.out];exact ⟨⟨0,⟨#[]⟩,rfl⟩,((aB B0.out B2.out).setCell (p:=⟨w.heap.size,0,none⟩) (Nat.le_refl _) _).setCell (p:=⟨w.heap.size,1,none⟩) (Nat.le_refl _) _⟩
   | some e =>
    obtain ⟨x,cc,hl,-,-⟩:=MS.out.yes (i:=m) (p:=p) (by omega) hp hS
    have HL:=aA hl;have HN:=aA (HV.out.trans (rC hS));unfold itV at HL;clear hl hS;have BI:=aA (aB BS.out (aC _ (.cells #[.int .i64 e.size,.slice x e.chunks.length cc,.string (str e.path),.int .i64 e.kind] 91)));have B2:=aA (aB B0.out (aB HW.out BI.out));obtain ⟨⟨t0,t1⟩,t2,t3⟩:=(X0.out.below HW.out).below BI.out;by_cases hk:e.kind=3
    ·rw[if_pos hk]at HN
     have hk':(e.kind != 3)=false:=by simp[hk]
     clear hk;go_wp2_with (at_lookup;refine hI rfl _ _ 120 true rfl _ _ _ rfl rfl HL.out ?_)
     go_region
     all_goals
      go_wp2_with fail
      refine bodyPost_ret (v:=.tuple #[.agg #[.int .i64 m,.string (str p)],.bool false]) (by simp[results,Tryz.results118,go_sem,t0,t1]) rfl ?_
      rw[HN.out];exact ⟨⟨m,str p,rfl⟩,(B2.out.drew.setCell (p:=⟨w.heap.size,0,none⟩) (Nat.le_refl _) _).setCell (p:=⟨w.heap.size,1,none⟩) (Nat.le_refl _) _⟩
    ·rw[if_neg hk]at HN
     have hk':(e.kind != 3)=true:=by simpa using hk
     clear hk;go_wp2_with (at_lookup;refine hI rfl _ _ 120 true rfl _ _ _ rfl rfl HL.out ?_)
     go_region
     all_goals
      go_wp2_with fail
      refine bodyPost_ret (v:=.tuple #[.agg #[.int .i64 m,.string (str p)],.bool true]) (by simp[results,Tryz.results118,go_sem,t0,t1]) rfl ?_
      rw[HN.out];exact ⟨rfl,(B2.out.drew.setCell (p:=⟨w.heap.size,0,none⟩) (Nat.le_refl _) _).setCell (p:=⟨w.heap.size,1,none⟩) (Nat.le_refl _) _⟩
def dP (ls:List (List En)) (p:Bs):Int:=if bY ls=0 then aF p else bY ls
theorem nF {ls:List (List En)} {p:Bs} (h:dP ls p=0):ls.length≤4∧(∀ es∈ls,aV es)∧aF p=0:=by
 unfold dP at h;split at h
 ·rename_i h1
  exact ⟨(fJ.1 h1).1,(fJ.1 h1).2,h⟩
 ·rename_i h1;exact absurd h h1
theorem zt5 (a:Option Addr) (c n:Nat) (ls:List (List En)) (p:Bs) (w:World) (h:RdL w a ls) (hn:n=ls.length) (hl:ls.length≤1048576) (hs:fV ls) (hp:p.length≤1048576) :
  Calls Tryz.prog 168 #[.slice a n c,.string (str p)] w fun r w'=>r=.returned (.int .i64 (dP ls p))∧Below w.heap.size w w':=by
 subst hn;have hsz:=aP p;have HLF:=aA (kR a c ls.length ls w h rfl hl hs);have HPF:Hid (∀ w',Calls Tryz.prog 173 #[.string (str p)] w' fun e w2=>e=.returned (.int .i64 (aF p))∧Below w'.heap.size w' w2):=aA (fun w'=>by have h1:=jQ (str p) w' (by omega);rw[bD]at h1;exact h1)
 clear h hs;by_cases hz:bY ls=0
 ·have HZ:=aA (show dP ls p=aF p by simp[dP,hz])
  rw[hz]at HLF;clear hz;generalize dP ls p=V at *;generalize aF p=F at *;go_enter Tryz.func168,Tryz.ntmps168;go_wp2_with fail
  refine HLF.out.mono ?_;rintro r w1 ⟨rfl,hb1⟩;have B1:=aA hb1;clear hb1;go_wp2_with fail
  refine (HPF.out w1).mono ?_;rintro r w2 ⟨rfl,hb2⟩;have B2:=aA (aB B1.out hb2);clear hb2;go_wp2_with fail
  go_ret
  exact ⟨by rw[HZ.out];rfl,B2.out⟩
 ·have HZ:=aA (show dP ls p=bY ls by simp[dP,hz])
  generalize dP ls p=V at *;generalize bY ls=F at *;have hz2:(F != 0)=true:=by simp;exact hz
  clear hz;go_enter Tryz.func168,Tryz.ntmps168;go_wp2_with fail
  refine HLF.out.mono ?_;rintro r w1 ⟨rfl,hb1⟩;have B1:=aA hb1;clear hb1;go_wp2_with fail
  go_ret
  exact ⟨by rw[HZ.out];rfl,B1.out⟩
theorem zsc (e:En) (x:Option Addr) (cc:Nat) (w:World) (hk:e.kind=1∨e.kind=2∨e.kind=3∨e.kind=4) :
  Calls Tryz.prog 169 #[itV e x cc] w fun r w'=>r=.returned (itV (asT e) x cc)∧Below w.heap.size w w':=by
 unfold itV;have B0:=aA (aB (aC w (.cells #[.int .i64 e.size,.slice x e.chunks.length cc,.string (str e.path),.int .i64 e.kind] 91)) (aC _ (.cells #[.int .i64 0,.slice none 0 0,.string ⟨#[]⟩,.int .i64 0] 91)));have F0:=aA ((nA.new w (.int .i64 e.size) (.slice x e.chunks.length cc) (.string (str e.path)) (.int .i64 e.kind) 91).below (aC _ (.cells #[.int .i64 0,.slice none 0 0,.string ⟨#[]⟩,.int .i64 0] 91)));have G0:=aA (nA.new (w.alloc (.cells #[.int .i64 e.size,.slice x e.chunks.length cc,.string (str e.path),.int .i64 e.kind] 91)) (.int .i64 0) (.slice none 0 0) (.string ⟨#[]⟩) (.int .i64 0) 91)
 have hsz:(w.alloc (.cells #[.int .i64 e.size,.slice x e.chunks.length cc,.string (str e.path),.int .i64 e.kind] 91)).heap.size=w.heap.size+1:=by simp
 rw[hsz]at G0;have HT:=aA (show bX e.kind=true→asT e = { e with kind:=2 } from fun hd=>by
  rcases hk with h | h | h | h <;> rw[h]at hd <;> simp[bX]at hd
  ·cases e;simp at h;subst h;simp[asT]
  ·simp[asT,h,kG])
 have HT2:=aA (show bX e.kind=false→asT e=e from fun hd=>by
  rcases hk with h | h | h | h <;> rw[h]at hd <;> simp[bX]at hd
  ·simp[asT,h]
  ·simp[asT,h])
 clear hsz hk;obtain ⟨⟨f0,f1,f2,f3⟩,-⟩:=F0.out;go_enter Tryz.func169,Tryz.ntmps169;go_wp2_with fail
 generalize (w.alloc (.cells #[.int .i64 e.size,.slice x e.chunks.length cc,.string (str e.path),.int .i64 e.kind] 91)).alloc (.cells #[.int .i64 0,.slice none 0 0,.string ⟨#[]⟩,.int .i64 0] 91)=W0 at *;refine (pB _ _ _ _ _ _ _).mono ?_;rintro r w1 ⟨rfl,hb1⟩;have B1:=aA (aB B0.out hb1);clear f0 f1 f2 f3;obtain ⟨⟨f0,f1,f2,f3⟩,ff⟩:=F0.out.below hb1;obtain ⟨⟨g0,g1,g2,g3⟩,gf⟩:=G0.out.below hb1;have ff3:=ff 3;have gf0:=gf 0;have gf1:=gf 1;have gf2:=gf 2;have gf3:=gf 3;clear hb1 ff gf;have BF:=aA (show ∀ y0 y1 y2 y3:Value,∀ W:World,Below w.heap.size w W→Below w.heap.size w ((((W.setCell ⟨w.heap.size+1,0,none⟩ y0).setCell ⟨w.heap.size+1,1,none⟩ y1).setCell ⟨w.heap.size+1,2,none⟩ y2).setCell ⟨w.heap.size+1,3,none⟩ y3) from fun y0 y1 y2 y3 W hb=>(((hb.setCell (p:=⟨w.heap.size+1,0,none⟩) (by simp) y0).setCell (p:=⟨w.heap.size+1,1,none⟩) (by simp) y1).setCell (p:=⟨w.heap.size+1,2,none⟩) (by simp) y2).setCell (p:=⟨w.heap.size+1,3,none⟩) (by simp) y3)
 cases hd:bX e.kind
 ·have HE:=aA (HT2.out hd)
  clear hd HT HT2;go_wp2_with fail
  refine bodyPost_ret (v:=.agg #[.int .i64 e.size,.slice x e.chunks.length cc,.string (str e.path),.int .i64 e.kind]) (by simp[results,Tryz.results169,go_sem,g0,g1,g2,g3]) rfl ⟨by rw[HE.out],?_⟩
  exact BF.out _ _ _ _ _ B1.out
 ·have HE:=aA (HT.out hd)
  clear hd HT HT2;go_wp2_with fail
  refine bodyPost_ret (v:=.agg #[.int .i64 e.size,.slice x e.chunks.length cc,.string (str e.path),.int .i64 2]) (by simp[results,Tryz.results169,go_sem,g0,g1,g2,g3]) rfl ⟨by rw[HE.out],?_⟩
  exact BF.out _ _ _ _ _ (B1.out.setCell (p:=⟨w.heap.size,3,none⟩) (Nat.le_refl _) _)
def gD (ls:List (List En)) (p:Bs):Option Nat:=dN (cY ls) p 4
theorem jY {S:Nat→Bs→Option En} {p:Bs}:∀ {n k:Nat},dN S p n=some k→k<n∧∃ e,S k p=some e∧e.kind≠3
 | 0,k,h=>by cases h
 | n+1,k,h=>by
  cases hS:S n p with
  | some e =>
   rw[rC hS]at h;by_cases hk:e.kind=3
   ·rw[if_pos hk]at h;cases h
   ·rw[if_neg hk]at h
    cases h
    exact ⟨by omega,e,hS,hk⟩
  | none =>
   cases hh:(bL p).any fun q=>(S n q).any fun e=>!decide (e.kind=2)
   ·rw[pE hS hh]at h
    obtain ⟨h1,h2⟩:=jY h;exact ⟨by omega,h2⟩
   ·rw[uI hS hh]at h;cases h
def kS (ls:List (List En)) (p:Bs):Int:=if dP ls p=0 then (if (gD ls p).isSome then 0 else 4) else dP ls p
def za2 (ls:List (List En)) (p:Bs):Int:=if dP ls p=0 then (match gD ls p with | some n=>(n:Int) | none=>0) else 0
def kI (ls:List (List En)) (p:Bs):List En:=if dP ls p=0 then (match gD ls p with | some n=>((cY ls n p).map asT).toList | none=>[]) else []
theorem zfk {ls:List (List En)} {p:Bs} (h:dP ls p≠0):kS ls p=dP ls p∧za2 ls p=0∧kI ls p=[]:=by simp[kS,za2,kI,h]
theorem zy6 {ls:List (List En)} {p:Bs} (h:dP ls p=0) (hn:gD ls p=none):kS ls p=4∧za2 ls p=0∧kI ls p=[]:=by simp[kS,za2,kI,h,hn]
theorem zz6 {ls:List (List En)} {p:Bs} {n:Nat} {e:En} (h:dP ls p=0) (hn:gD ls p=some n) (he:cY ls n p=some e):kS ls p=0∧za2 ls p=n∧kI ls p=[asT e]:=by simp[kS,za2,kI,h,hn,he]
theorem iV {ls:List (List En)} {n:Nat} {p:Bs} {e:En} (h:cY ls n p=some e):∃ es∈ls,e∈es∧e.path=p:=by
 unfold cY at h;cases hx:ls[n]? with
 | none=>rw[hx]at h;cases h
 | some es =>
  rw[hx]at h;obtain ⟨h1,h2⟩:=eN (show aK es p=some e from h)
  exact ⟨es,List.mem_of_getElem? hx,h1,h2⟩
theorem wJ {ls:List (List En)} (h:∀ es∈ls,aV es) (hs:fV ls):∀ es∈ls,eL es∧es.length≤12∧cG es:=fun es he=>⟨(h es he).rise,(h es he).len,(hs es he).2⟩
end Go.Proofs.YtgaeikgoknoamaaGreat
namespace Go.Proofs.YtgaeikgoknoamaaGreat
theorem zjl {L:List En} (h:Fit L) {q:Bs} (hq:aF q=0):((bL q).any fun u=>(aK L u).any fun e=>!decide (e.kind=2))=hid L q:=by
 rw[Bool.eq_iff_iff,zrj,List.any_eq_true];constructor
 ·rintro ⟨u,hu,hr⟩
  cases hf:aK L u with
  | none=>rw[hf]at hr;cases hr
  | some e =>
   rw[hf]at hr;obtain ⟨he,rfl⟩:=eN hf;have hb:iX q e.path=true:=by simpa [iX] using hu
   rw[lE hq]at hb;exact ⟨e,he,by simpa using hr,(of_decide_eq_true hb).2⟩
 ·rintro ⟨e,he,hk,hb⟩
  refine ⟨e.path,?_,by rw[eA h.rise he];simpa using hk⟩
  have hb:iX q e.path=true:=by rw[lE hq];exact decide_eq_true ⟨h.path he,hb⟩
  simpa [iX] using hb
def aY (ls:List (List En)):List En:=ls.foldl gZ []
theorem mS (D:List (List En)) (L:List En):aY (D ++ [L])=gZ (aY D) L:=by simp[aY,List.foldl_append]
def zcd (ls:List (List En)) (q:Bs) (n:Nat):Option En:=(dN (cY ls) q n).bind fun k=>(cY ls k q).map asT
theorem yY {ls:List (List En)} (h:∀ es∈ls,Fit es):∀ n,n≤ls.length→kO (aY (ls.take n))∧∀ q,aF q=0→aK (aY (ls.take n)) q=zcd ls q n
 | 0,_=>⟨by simpa [aY] using zah,fun q _=>by simp[aY,zcd,dN,aK]⟩
 | n+1,hn=>by
  obtain ⟨ih1,ih2⟩:=yY h n (by omega)
  have hL:ls[n]?=some (ls[n]'(by omega)):=List.getElem?_eq_getElem (by omega)
  have hm:=List.mem_of_getElem? hL;generalize ls[n]'(by omega)=L at *
  have ht:ls.take (n+1)=ls.take n ++ [L]:=by rw[List.take_add_one,hL];rfl
  rw[ht,mS];have hF:=h L hm;refine ⟨wA ih1 hF,fun q hq=>?_⟩
  rw[zc1 ih1 hF];have hS:∀ u,cY ls n u=aK L u:=fun u=>by simp[cY,hL]
  unfold zcd;cases hf:aK L q with
  | some e =>
   rw[mY hf,rC (by rw[hS];exact hf)]
   by_cases h3:e.kind=3
   ·simp[h3]
   ·simp[h3,hS,hf]
  | none =>
   rw[wO hf];have hu:=zjl hF hq;cases hh:hid L q
   ·rw[pE (by rw[hS];exact hf) (by simp only[hS];rw[hu,hh]),if_neg (by simp),ih2 q hq]
    rfl
   ·rw[uI (by rw[hS];exact hf) (by simp only[hS];rw[hu,hh])]
    simp
theorem rW {ls:List (List En)} {q:Bs}:∀ {n:Nat},ls.length≤n→dN (cY ls) q n=dN (cY ls) q ls.length
 | 0,h=>by rw[Nat.le_zero.1 h]
 | n+1,h=>by
  by_cases h1:ls.length=n+1
  ·rw[h1]
  ·have hS:∀ u,cY ls n u=none:=fun u=>by
    have:ls[n]?=none:=List.getElem?_eq_none (by omega)
    simp[cY,this]
   rw[pE (hS q) (by rw[List.any_eq_false];intro u _;rw[hS u];simp)]
   exact rW (by omega)
def uH (ls:List (List En)) (q:Bs):Option En:=(gD ls q).bind fun k=>(cY ls k q).map asT
theorem sN {ls:List (List En)} (h:∀ es∈ls,Fit es):kO (aY ls):=by
 have:=(yY h ls.length (Nat.le_refl _)).1;rwa [List.take_length]at this
theorem nX {ls:List (List En)} (h:∀ es∈ls,Fit es) (h4:ls.length≤4) {q:Bs} (hq:aF q=0):aK (aY ls) q=uH ls q:=by
 have:=(yY h ls.length (Nat.le_refl _)).2 q hq;rw[List.take_length]at this;rw[this];unfold zcd uH gD;rw[rW h4]
theorem jF {ls:List (List En)} (h:∀ es∈ls,aV es):∀ es∈ls,Fit es:=fun es he=>(jX.1 (h es he)).1
theorem zrh {ls:List (List En)} {p:Bs} (h:dP ls p=0):kS ls p=(if (aK (aY ls) p).isSome then 0 else 4)∧kI ls p=(aK (aY ls) p).toList:=by
 obtain ⟨h4,hR,hp⟩:=nF h;rw[nX (jF hR) h4 hp];cases hs:gD ls p with
 | none =>
  obtain ⟨h1,-,h2⟩:=zy6 h hs;rw[h1,h2];simp[uH,hs]
 | some k =>
  obtain ⟨-,e,he,-⟩:=jY (show dN (cY ls) p 4=some k from hs)
  obtain ⟨h1,-,h2⟩:=zz6 h hs he;rw[h1,h2];simp[uH,hs,he]
theorem zmg {ls:List (List En)} {rs:List En} (h:∀ es∈ls,aV es) (h4:ls.length≤4) (hr:eL rs) (hm:∀ e,e∈rs↔∃ k,gD ls e.path=some k∧cY ls k e.path=some e):rs.map asT=aY ls:=by
 have hF:=jF h;have hr2:eL (rs.map asT):=by
  unfold eL at hr ⊢;rw[List.pairwise_map];exact hr.imp (fun {a b} hab=>by rw[gK,gK];exact hab)
 have hfa:=sN hF;have hpath:∀ e∈rs,aF e.path=0:=fun e he=>by
  obtain ⟨k,-,h2⟩:=(hm e).1 he;obtain ⟨es,hes,hee,-⟩:=iV h2;exact (hF es hes).path hee
 refine zP hr2 hfa.fit.rise (fun q=>?_)
 by_cases hq:aF q=0
 ·rw[nX hF h4 hq]
  unfold uH;cases hs:gD ls q with
  | none =>
   refine iZ (fun x hx=>?_)
   obtain ⟨e,he,rfl⟩:=List.mem_map.1 hx;obtain ⟨k,h1,-⟩:=(hm e).1 he;rw[gK];intro e1;rw[e1,hs]at h1;cases h1
  | some k =>
   obtain ⟨-,e,he,-⟩:=jY (show dN (cY ls) q 4=some k from hs)
   obtain ⟨-,-,-,hpe⟩:=iV he;have hmem:e∈rs:=(hm e).2 ⟨k,by rw[hpe];exact hs,by rw[hpe];exact he⟩
   have h1:=eA hr2 (List.mem_map.2 ⟨e,hmem,rfl⟩);rw[gK,hpe]at h1;rw[h1];simp[he]
 ·rw[iZ,iZ]
  ·intro x hx e1;rw[←e1]at hq;exact hq (hfa.fit.path hx)
  ·intro x hx e1
   obtain ⟨e,he,rfl⟩:=List.mem_map.1 hx;rw[gK]at e1;rw[←e1]at hq;exact hq (hpath e he)
theorem zod {ls:List (List En)} {rs:List En} (h:rs.map asT=aY ls):rs.map En.path=(aY ls).map En.path:=by
 rw[←h,List.map_map];exact List.map_congr_left fun e _=>(gK e).symm
end Go.Proofs.YtgaeikgoknoamaaGreat
namespace Go.Proofs.YtgaeikgoknoamaaGreat
open Go.RowKit
def RdS (w:World) (a:Option Addr) (l:List Sn):Prop :=
 l≠[]→∃ (b off:Nat) (A:Nat→Option Addr) (C:Nat→Nat),a=some ⟨b,off,none⟩∧b<w.heap.size∧∀ i s,l[i]?=some s →
  w.cell? ⟨b,off+i * 5,none⟩=some (.string (str s.name))∧w.cell? ⟨b,off+i * 5+1,none⟩=some (.string (str s.parent))∧w.cell? ⟨b,off+i * 5+2,none⟩=some (.int .i64 s.kind)∧w.cell? ⟨b,off+i * 5+3,none⟩=some (.bool s.lease) ∧
  w.cell? ⟨b,off+i * 5+4,none⟩=some (.slice (A i) s.layer.length (C i))∧RdE w (A i) s.layer
theorem RdS.nil (w:World) (a:Option Addr):RdS w a []:=fun h=>absurd rfl h
theorem RdS.below {w w':World} {a:Option Addr} {l:List Sn} (h:RdS w a l) (hk:Below w.heap.size w w'):RdS w' a l:=by
 intro hz;obtain ⟨b,off,A,C,e,hb,hc⟩:=h hz;refine ⟨b,off,A,C,e,Nat.lt_of_lt_of_le hb hk.size,fun i x hx=>?_⟩
 obtain ⟨c0,c1,c2,c3,c4,r⟩:=hc i x hx;exact ⟨(hk.cell (p:=⟨b,off+i * 5,none⟩) hb).trans c0,(hk.cell (p:=⟨b,off+i * 5+1,none⟩) hb).trans c1,(hk.cell (p:=⟨b,off+i * 5+2,none⟩) hb).trans c2,(hk.cell (p:=⟨b,off+i * 5+3,none⟩) hb).trans c3,(hk.cell (p:=⟨b,off+i * 5+4,none⟩) hb).trans c4,r.below hk⟩
theorem RdS.at {w:World} {a:Option Addr} {l:List Sn} (h:RdS w a l) {k:Nat} (hk:k<l.length) :
  ∃ b off s x c,a=some ⟨b,off,none⟩∧b<w.heap.size∧l[k]?=some s∧w.cell? ⟨b,off+k * 5,none⟩=some (.string (str s.name))∧w.cell? ⟨b,off+k * 5+1,none⟩=some (.string (str s.parent))∧w.cell? ⟨b,off+k * 5+2,none⟩=some (.int .i64 s.kind)∧w.cell? ⟨b,off+k * 5+3,none⟩=some (.bool s.lease) ∧
   w.cell? ⟨b,off+k * 5+4,none⟩=some (.slice x s.layer.length c)∧RdE w x s.layer:=by
 obtain ⟨b,off,A,C,e,hb,hc⟩:=h (by intro e;simp[e]at hk)
 have hx:l[k]?=some l[k]:=List.getElem?_eq_getElem hk;obtain ⟨c0,c1,c2,c3,c4,r⟩:=hc k _ hx;exact ⟨b,off,l[k],A k,C k,e,hb,hx,c0,c1,c2,c3,c4,r⟩
def dF (l:List Sn):Prop:=l.length≤1048576∧∀ s∈l,s.name.length≤1048576∧s.parent.length≤1048576∧s.layer.length≤1048576∧cG s.layer
theorem bH.small {l:List Sn} (h:bH l) (hp:∀ s∈l,s.parent.length≤1048576) (he:∀ s∈l,cG s.layer):dF l:=by
 refine ⟨by have:=h.len;omega,fun s hs=>⟨?_,hp s hs,?_,he s hs⟩⟩
 ·have:=(h.own s hs).1
  simp only[fL,Bool.and_eq_true,decide_eq_true_eq]at this;omega
 ·have:=(eE.1 (h.own s hs).2.2).len
  omega
end Go.Proofs.YtgaeikgoknoamaaGreat
