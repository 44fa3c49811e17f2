/-
  Texts put together: SnpL SnpM SnpN SnpO SeeG SeeH OvrP SnpR LayT IteR TreB TreM.
-/
import Derived.Test.YtgaeikgoknoamaaGreatKCollec7
import Derived.Test.YtgaeikgoknoamaaGreatKCollec6
import Derived.Test.YtgaeikgoknoamaaGreatKCollec4
import Derived.Shelf.SlMaps.Clone
import Derived.Lib.SlMapFilter
import Derived.RangeFuncGives
import Derived.Shelf.AbstractIn
import Derived.RangeFuncSeq
import Derived.Sort.MapsRangeIn
import Derived.OwnWalkIn
import Derived.TacticsInMore
import Derived.RegionIn
import Derived.LoopNIn
import Derived.LoopIn
import Derived.Maps.AppendAt
import Derived.Shelf.Abstract
import Derived.Shelf.SlIter.Collect
import Derived.Shelf.SlSortCmp.WholeK
import Derived.Shelf.Small.Bits
import Derived.Ground.SlsfProg
import Derived.Test.YtgaeikgoknoamaaGreatProg
import Derived.Test.YtgaeikgoknoamaaGreatKCollec3
import Derived.Test.YtgaeikgoknoamaaGreatKCollec2
import Derived.Test.YtgaeikgoknoamaaGreatKCollec1
set_option linter.unusedVariables false
set_option maxHeartbeats 3200000
set_option maxRecDepth 100000
namespace Go.Proofs.YtgaeikgoknoamaaGreat
structure Sn where
 name:Bs
 parent:Bs
 kind:Int
 lease:Bool
 layer:List En
def fA (b:Bs):Bool:=dQ b&&decide (b.length≤4)
theorem fY {b:Bs} (h:fA b=true):b≠[]:=fun e=>by subst e;simp[fA,dQ]at h
def atS (l:List Sn) (nm:Bs):Option Sn:=l.find? fun s=>s.name==nm
theorem bU {l:List Sn} {nm:Bs} {s:Sn} (h:atS l nm=some s):s∈l∧s.name=nm:=⟨List.mem_of_find?_eq_some h,by simpa using List.find?_some h⟩
theorem iY {l:List Sn} {nm:Bs}:atS l nm=none↔∀ s∈l,s.name≠nm:=by simp[atS]
def lwQ (prev:Option Sn) (s:Sn):Bool :=
 match prev with
 | none=>false
 | some q=>Op.bytesLess s.name q.name||(s.name==q.name)
def lB (prev:Option Sn) (s:Sn):Int:=if fA s.name then (if (s.kind==1||s.kind==2)&&!lwQ prev s then aQ s.layer else 1) else 5
def fU:Option Sn→List Sn→Int
 | _,[]=>0
 | prev,s :: r=>if lB prev s=0 then fU (some s) r else lB prev s
def aI (l:List Sn):Nat→Option Sn→List Sn
 | 0,_=>[]
 | _+1,none=>[]
 | f+1,some s=>s :: aI l f (atS l s.parent)
theorem iC (l:List Sn) (f:Nat):aI l f none=[]:=by cases f <;> rfl
theorem nY (l:List Sn):∀ (f:Nat) (o:Option Sn),(aI l f o).length≤f
 | 0,_=>by simp[aI]
 | f+1,none=>by simp[aI]
 | f+1,some s=>by have:=nY l f (atS l s.parent);simp[aI];omega
theorem sE (l:List Sn):∀ (f:Nat) (o:Option Sn) (g:Nat),(aI l f o).length<f→f≤g→aI l g o=aI l f o
 | 0,_,g,h,_=>by simp at h
 | f+1,none,g,_,_=>by rw[iC,iC]
 | f+1,some s,0,_,hg=>by omega
 | f+1,some s,g+1,h,hg=>by
  simp only[aI,List.length_cons]at h ⊢;rw[sE l f (atS l s.parent) g (by omega) (by omega)]
theorem jP {l:List Sn}:∀ {f:Nat} {o:Option Sn},(∀ s,o=some s→s∈l)→∀ x∈aI l f o,x∈l
 | 0,_,_,x,hx=>by simp[aI]at hx
 | f+1,none,_,x,hx=>by simp[aI]at hx
 | f+1,some s,h,x,hx=>by
  simp only[aI,List.mem_cons]at hx;rcases hx with rfl | hx
  ·exact h _ rfl
  ·exact jP (fun y hy=>(bU hy).1) x hx
def dZ (l:List Sn) (s:Sn):Int :=
 if s.parent=[] then 0 else match atS l s.parent with
 | none=>4
 | some p=>if p.kind=1 then 10 else if 4<(aI l 5 (some s)).length then 2 else 0
def fH (l:List Sn):List Sn→Int
 | []=>0
 | s :: r=>if dZ l s=0 then fH l r else dZ l s
def snF (l:List Sn):Int:=if 10<l.length then 2 else if fU none l=0 then fH l l else fU none l
def eD (l:List Sn):Prop:=l.Pairwise fun x y=>Op.bytesLess x.name y.name=true
theorem zo4 {q s:Sn} (h:lwQ (some q) s=false):Op.bytesLess q.name s.name=true:=by
 simp only[lwQ,Bool.or_eq_false_iff,beq_eq_false_iff_ne]at h;exact iZ _ _ h.1 h.2
theorem zki {q s:Sn} (h:Op.bytesLess q.name s.name=true):lwQ (some q) s=false:=by
 simp only[lwQ,Bool.or_eq_false_iff,beq_eq_false_iff_ne];exact ⟨iE h,fun e=>kD h e.symm⟩
def rI (s:Sn):Prop:=fA s.name=true∧(s.kind=1∨s.kind=2)∧aQ s.layer=0
theorem zm1 {prev:Option Sn} {s:Sn}:lB prev s=0↔rI s∧lwQ prev s=false:=by
 unfold lB rI;by_cases h1:fA s.name=true
 ·rw[if_pos h1]
  by_cases h2:((s.kind==1||s.kind==2)&&!lwQ prev s)=true
  ·rw[if_pos h2]
   simp only[Bool.and_eq_true,Bool.or_eq_true,beq_iff_eq,Bool.not_eq_true']at h2;exact ⟨fun h=>⟨⟨h1,h2.1,h⟩,h2.2⟩,fun h=>h.1.2.2⟩
  ·rw[if_neg h2]
   refine ⟨fun h=>absurd h (by decide),fun h=>absurd ?_ h2⟩
   simp only[Bool.and_eq_true,Bool.or_eq_true,beq_iff_eq,Bool.not_eq_true'];exact ⟨h.1.2.1,h.2⟩
 ·rw[if_neg h1]
  exact ⟨fun h=>absurd h (by decide),fun h=>absurd h.1.1 h1⟩
theorem mH:∀ {l:List Sn} {prev:Option Sn},fU prev l=0↔(∀ s∈l,rI s)∧eD l∧(∀ q s,prev=some q→s∈l→Op.bytesLess q.name s.name=true)
 | [],prev=>by simp[fU,eD]
 | s :: r,prev=>by
  have ih:=@mH r (some s);unfold fU;by_cases h:lB prev s=0
  ·rw[if_pos h,ih]
   obtain ⟨h1,h2⟩:=zm1.1 h;constructor
   ·rintro ⟨a1,a2,a3⟩
    refine ⟨fun x hx=>?_,List.pairwise_cons.2 ⟨fun y hy=>a3 s y rfl hy,a2⟩,fun q x hq hx=>?_⟩
    ·rcases List.mem_cons.1 hx with rfl | hx
     ·exact h1
     ·exact a1 x hx
    ·subst hq
     rcases List.mem_cons.1 hx with rfl | hx
     ·exact zo4 h2
     ·exact iF _ _ _ (zo4 h2) (a3 s x rfl hx)
   ·rintro ⟨a1,a2,a3⟩
    obtain ⟨b1,b2⟩:=List.pairwise_cons.1 a2;exact ⟨fun x hx=>a1 x (List.mem_cons_of_mem _ hx),b2,fun q x hq hx=>by cases hq;exact b1 x hx⟩
  ·rw[if_neg h]
   refine ⟨fun e=>absurd e h,fun ⟨a1,a2,a3⟩=>absurd (zm1.2 ⟨a1 s (List.mem_cons_self ..),?_⟩) h⟩
   cases prev with
   | none=>rfl
   | some q=>exact zki (a3 q s rfl (List.mem_cons_self ..))
def pB (l:List Sn) (s:Sn):Prop:=s.parent=[]∨∃ p,atS l s.parent=some p∧p.kind≠1∧(aI l 5 (some s)).length≤4
theorem nM {l:List Sn} {s:Sn}:dZ l s=0↔pB l s:=by
 unfold dZ pB;by_cases h:s.parent=[]
 ·simp[h]
 ·rw[if_neg h]
  cases hp:atS l s.parent with
  | none=>simp[h]
  | some p =>
   simp only[h,false_or,Option.some.injEq,exists_eq_left'];by_cases h1:p.kind=1
   ·rw[if_pos h1];simp[h1]
   ·rw[if_neg h1]
    by_cases h2:4<(aI l 5 (some s)).length
    ·rw[if_pos h2];exact ⟨fun e=>absurd e (by decide),fun e=>by omega⟩
    ·rw[if_neg h2];exact ⟨fun _=>⟨h1,by omega⟩,fun _=>rfl⟩
theorem vE {l:List Sn}:∀ {r:List Sn},fH l r=0↔∀ s∈r,pB l s
 | []=>by simp[fH]
 | s :: r=>by
  unfold fH;by_cases h:dZ l s=0
  ·rw[if_pos h,vE]
   have:=nM.1 h;simp[this]
  ·rw[if_neg h]
   refine ⟨fun e=>absurd e h,fun e=>absurd (nM.2 (e s (List.mem_cons_self ..))) h⟩
structure aP (l:List Sn):Prop where
 len:l.length≤10
 own:∀ s∈l,rI s
 rise:eD l
 stand:∀ s∈l,pB l s
theorem kO {l:List Sn}:snF l=0↔aP l:=by
 unfold snF;by_cases h:10<l.length
 ·rw[if_pos h];exact ⟨fun e=>absurd e (by decide),fun e=>by have:=e.len;omega⟩
 ·rw[if_neg h]
  by_cases h1:fU none l=0
  ·rw[if_pos h1,vE]
   obtain ⟨a1,a2,-⟩:=mH.1 h1;exact ⟨fun e=>⟨by omega,a1,a2,e⟩,fun e=>e.stand⟩
  ·rw[if_neg h1]
   exact ⟨fun e=>absurd e h1,fun e=>absurd (mH.2 ⟨e.own,e.rise,fun q s hq=>by cases hq⟩) h1⟩
theorem aP.line {l:List Sn} (h:aP l) {s:Sn} (hs:s∈l):(aI l 5 (some s)).length≤4:=by
 rcases h.stand s hs with h1 | ⟨p,-,-,h2⟩
 ·have:atS l s.parent=none:=by
   rw[h1];exact iY.2 fun x hx e=>fY (h.own x hx).1 e
  simp only[aI,this,List.length_cons];simp
 ·exact h2
def dF (l:List Sn) (s:Sn):List (List En):=((aI l 5 (some s)).map Sn.layer).reverse
theorem rO {l:List Sn} (h:aP l) {s:Sn} (hs:s∈l):(dF l s).length≤4:=by
 unfold dF;rw[List.length_reverse,List.length_map];exact h.line hs
theorem zv8 {l:List Sn} (h:aP l) {s:Sn} (hs:s∈l):cL (dF l s)=0:=by
 refine fM.2 ⟨rO h hs,fun es he=>?_⟩
 unfold dF at he;rw[List.mem_reverse,List.mem_map]at he;obtain ⟨x,hx,rfl⟩:=he;have:=(h.own x (jP (fun y hy=>by cases hy;exact hs) x hx)).2.2
 exact dM.1 this
theorem jX {l:List Sn} (h:eD l) {s:Sn} (hs:s∈l):atS l s.name=some s:=by
 induction l with
 | nil=>cases hs
 | cons x r ih =>
  obtain ⟨b1,b2⟩:=List.pairwise_cons.1 h;unfold atS;rcases List.mem_cons.1 hs with rfl | hs
  ·simp
  ·have hne:x.name≠s.name:=kD (b1 s hs)
   rw[List.find?_cons_of_neg (by simpa using hne)]
   exact ih b2 hs
def dD (l:List Sn) (s:Sn):List Sn:=l.filter (fun x=>Op.bytesLess x.name s.name)++s :: l.filter (fun x=>Op.bytesLess s.name x.name)
theorem lO {l:List Sn} {s x:Sn}:x∈dD l s↔x=s∨(x∈l∧x.name≠s.name):=by
 unfold dD;simp only[List.mem_append,List.mem_filter,List.mem_cons];constructor
 ·rintro (⟨h1,h2⟩ | rfl | ⟨h1,h2⟩)
  ·exact .inr ⟨h1,kD h2⟩
  ·exact .inl rfl
  ·exact .inr ⟨h1,fun e=>kD h2 e.symm⟩
 ·rintro (rfl | ⟨h1,h2⟩)
  ·exact .inr (.inl rfl)
  ·cases hb:Op.bytesLess x.name s.name with
   | true=>exact .inl ⟨h1,rfl⟩
   | false=>exact .inr (.inr ⟨h1,iZ _ _ hb h2⟩)
theorem qD {l:List Sn} (h:eD l) (s:Sn):eD (dD l s):=by
 unfold eD dD;rw[List.pairwise_append];refine ⟨h.sublist List.filter_sublist,List.pairwise_cons.2 ⟨fun y hy=>(List.mem_filter.1 hy).2,h.sublist List.filter_sublist⟩,fun x hx y hy=>?_⟩
 have h1:=(List.mem_filter.1 hx).2;rcases List.mem_cons.1 hy with rfl | hy
 ·exact h1
 ·exact iF _ _ _ h1 (List.mem_filter.1 hy).2
theorem rD {l:List Sn} (h:eD l) {nm:Bs} {s:Sn}:atS l nm=some s↔s∈l∧s.name=nm:=⟨bU,fun ⟨h1,h2⟩=>by rw[←h2];exact jX h h1⟩
theorem lU {l:List Sn} (h:eD l) (s:Sn) (nm:Bs):atS (dD l s) nm=if nm=s.name then some s else atS l nm:=by
 by_cases e:nm=s.name
 ·rw[if_pos e]
  exact (rD (qD h s)).2 ⟨lO.2 (.inl rfl),e.symm⟩
 ·rw[if_neg e]
  cases hx:atS l nm with
  | none =>
   rw[iY]at hx ⊢;intro x hx';rcases lO.1 hx' with rfl | ⟨h1,-⟩
   ·exact fun e2=>e e2.symm
   ·exact hx x h1
  | some x =>
   obtain ⟨h1,h2⟩:=bU hx;exact (rD (qD h s)).2 ⟨lO.2 (.inr ⟨h1,by rw[h2];exact e⟩),h2⟩
theorem pH:∀ (l:List Sn) (s:Sn),(l.filter (fun x=>Op.bytesLess x.name s.name)).length+(l.filter (fun x=>Op.bytesLess s.name x.name)).length+(l.filter (fun x=>x.name==s.name)).length=l.length
 | [],s=>rfl
 | x :: r,s=>by
  have ih:=pH r s;by_cases e:x.name=s.name
  ·have h1:Op.bytesLess x.name s.name=false:=by rw[e];exact fR _
   have h2:Op.bytesLess s.name x.name=false:=by rw[e];exact fR _
   have h3:(x.name==s.name)=true:=by simpa using e
   simp only[List.filter_cons,h1,h2,h3,Bool.false_eq_true,if_false,if_true,List.length_cons];omega
  ·have h3:(x.name==s.name)=false:=by simpa using e
   cases hb:Op.bytesLess x.name s.name with
   | true =>
    have h2:=iE hb;simp only[List.filter_cons,hb,h2,h3,Bool.false_eq_true,if_false,if_true,List.length_cons];omega
   | false =>
    have h2:=iZ _ _ hb e;simp only[List.filter_cons,hb,h2,h3,Bool.false_eq_true,if_false,if_true,List.length_cons];omega
theorem zfg {l:List Sn} {s:Sn} (h:atS l s.name=none):(dD l s).length=l.length+1:=by
 have h1:=pH l s;have h2:l.filter (fun x=>x.name==s.name)=[]:=List.filter_eq_nil_iff.2 fun x hx=>by simpa using iY.1 h x hx
 rw[h2]at h1;simp only[List.length_nil]at h1;simp only[dD,List.length_append,List.length_cons];omega
theorem zv4:∀ {l:List Sn},eD l→∀ {t:Sn},t∈l→(l.filter (fun x=>x.name==t.name)).length=1
 | [],_,t,ht=>by cases ht
 | x :: r,h,t,ht=>by
  obtain ⟨b1,b2⟩:=List.pairwise_cons.1 h;rcases List.mem_cons.1 ht with rfl | ht
  ·have:r.filter (fun x=>x.name==t.name)=[]:=List.filter_eq_nil_iff.2 fun y hy=>by
    have:=kD (b1 y hy);simpa using fun e=>this e.symm
   simp[this]
  ·have h3:(x.name==t.name)=false:=by simpa using kD (b1 t ht)
   simp only[List.filter_cons,h3,Bool.false_eq_true,if_false];exact zv4 b2 ht
theorem zgg {l:List Sn} (h:eD l) {s t:Sn} (ht:atS l s.name=some t):(dD l s).length=l.length:=by
 obtain ⟨h1,h2⟩:=bU ht;have h3:=pH l s;have h4:=zv4 h h1;rw[h2]at h4;rw[h4]at h3;simp only[dD,List.length_append,List.length_cons];omega
theorem zm4 {l:List Sn} (h:eD l) {s t:Sn} (ht:atS l s.name=some t) (hp:s.parent=t.parent):∀ (f:Nat) (o:Option Sn),(∀ x,o=some x→x∈l)→aI (dD l s) f (o.map fun x=>if x.name=s.name then s else x)=(aI l f o).map fun x=>if x.name=s.name then s else x
 | 0,o,_=>by simp[aI]
 | f+1,none,_=>by simp[aI]
 | f+1,some x,hx=>by
  have hxl:=hx x rfl;have hpar:(if x.name=s.name then s else x).parent=x.parent:=by
   split
   ·rename_i e
    have:t=x:=by
     have h1:=jX h hxl;rw[e,ht]at h1;exact Option.some.inj h1
    rw[hp,this]
   ·rfl
  simp only[Option.map_some,aI,List.map_cons,List.cons.injEq,true_and];rw[hpar,lU h];have:=zm4 h ht hp f (atS l x.parent) (fun y hy=>(bU hy).1)
  rw[←this]
  congr 1
  by_cases e:x.parent=s.name
  ·rw[if_pos e,e,ht]
   simp[(bU ht).2]
  ·rw[if_neg e]
   cases hq:atS l x.parent with
   | none=>rfl
   | some y =>
    have:=(bU hq).2;simp[this,e]
theorem sF {l:List Sn} (h:eD l) {s:Sn} (hn:∀ x∈l,x.parent≠s.name):∀ (f:Nat) (o:Option Sn),(∀ x,o=some x→x∈l)→aI (dD l s) f o=aI l f o
 | 0,o,_=>by simp[aI]
 | f+1,none,_=>by simp[aI]
 | f+1,some x,hx=>by
  simp only[aI,List.cons.injEq,true_and];rw[lU h,if_neg (hn x (hx x rfl))];exact sF h hn f _ (fun y hy=>(bU hy).1)
theorem aP.no_child {l:List Sn} (h:aP l) {nm:Bs} (hn:atS l nm=none) (h0:nm≠[]):∀ x∈l,x.parent≠nm:=fun x hx e=>by
 rcases h.stand x hx with h1 | ⟨p,h1,-,-⟩
 ·exact h0 (e ▸ h1)
 ·rw[e,hn]at h1;cases h1
theorem zud {l:List Sn} (h:aP l) {s:Sn} (ho:rI s) (hn:atS l s.name=none) (hs:pB l s) (hl:l.length<10) (hself:s.parent≠s.name):aP (dD l s):=by
 have hnc:=h.no_child hn (fY ho.1);refine ⟨by rw[zfg hn];omega,fun x hx=>?_,qD h.rise s,fun x hx=>?_⟩
 ·rcases lO.1 hx with rfl | ⟨h1,-⟩
  ·exact ho
  ·exact h.own x h1
 ·rcases lO.1 hx with rfl | ⟨h1,-⟩
  ·rcases hs with e | ⟨p,e1,e2,e3⟩
   ·exact .inl e
   ·refine .inr ⟨p,by rw[lU h.rise,if_neg hself];exact e1,e2,?_⟩
    simp only[aI]at e3 ⊢;rw[lU h.rise,if_neg hself,sF h.rise hnc 4 _ (fun y hy=>(bU hy).1)]
    exact e3
  ·rcases h.stand x h1 with e | ⟨p,e1,e2,e3⟩
   ·exact .inl e
   ·refine .inr ⟨p,by rw[lU h.rise,if_neg (hnc x h1)];exact e1,e2,?_⟩
    rw[sF h.rise hnc 5 _ (fun y hy=>by cases hy;exact h1)]
    exact e3
theorem sR {l:List Sn} (h:aP l) {s t:Sn} (ho:rI s) (ht:atS l s.name=some t) (hp:s.parent=t.parent) (hk:t.kind≠1→s.kind≠1):aP (dD l s):=by
 obtain ⟨htl,htn⟩:=bU ht;have hline:∀ x∈l,aI (dD l s) 5 (some (if x.name=s.name then s else x))=(aI l 5 (some x)).map fun x=>if x.name=s.name then s else x:=fun x hx=>zm4 h.rise ht hp 5 (some x) (fun y hy=>by cases hy;exact hx)
 have hst:∀ x∈l,pB (dD l s) (if x.name=s.name then s else x):=by
  intro x hx;have hpar:(if x.name=s.name then s else x).parent=x.parent:=by
   split
   ·rename_i e
    have:t=x:=by
     have h1:=jX h.rise hx;rw[e,ht]at h1;exact Option.some.inj h1
    rw[hp,this]
   ·rfl
  rcases h.stand x hx with e | ⟨p,e1,e2,e3⟩
  ·exact .inl (by rw[hpar];exact e)
  ·refine .inr ?_
   rw[hpar,hline x hx,List.length_map,lU h.rise];by_cases e:x.parent=s.name
   ·rw[if_pos e]
    rw[e,ht]at e1;cases e1
    exact ⟨s,rfl,hk e2,e3⟩
   ·rw[if_neg e]
    exact ⟨p,e1,e2,e3⟩
 refine ⟨by rw[zgg h.rise ht];exact h.len,fun x hx=>?_,qD h.rise s,fun x hx=>?_⟩
 ·rcases lO.1 hx with rfl | ⟨h1,-⟩
  ·exact ho
  ·exact h.own x h1
 ·rcases lO.1 hx with rfl | ⟨h1,h2⟩
  ·have:=hst t htl
   rwa [if_pos htn]at this
  ·have:=hst x h1
   rwa [if_neg h2]at this
def oE (l:List Sn) (nm:Bs):List Sn:=l.filter fun x=>!(x.name==nm)
theorem sI {l:List Sn} {nm:Bs} {x:Sn}:x∈oE l nm↔x∈l∧x.name≠nm:=by simp[oE]
theorem zg1 {l:List Sn} (h:eD l) (nm:Bs):eD (oE l nm):=h.sublist List.filter_sublist
theorem zt7 {l:List Sn} (h:eD l) {nm k:Bs} (hk:k≠nm):atS (oE l nm) k=atS l k:=by
 cases hx:atS l k with
 | none =>
  rw[iY]at hx ⊢;exact fun x hx'=>hx x (sI.1 hx').1
 | some x =>
  obtain ⟨h1,h2⟩:=bU hx;exact (rD (zg1 h nm)).2 ⟨sI.2 ⟨h1,by rw[h2];exact hk⟩,h2⟩
theorem zl4 {l:List Sn} (h:eD l) {nm:Bs} (hn:∀ x∈l,x.parent≠nm):∀ (f:Nat) (o:Option Sn),(∀ x,o=some x→x∈l)→aI (oE l nm) f o=aI l f o
 | 0,o,_=>by simp[aI]
 | f+1,none,_=>by simp[aI]
 | f+1,some x,hx=>by
  simp only[aI,List.cons.injEq,true_and];rw[zt7 h (hn x (hx x rfl))];exact zl4 h hn f _ (fun y hy=>(bU hy).1)
theorem zvd {l:List Sn} (h:aP l) {nm:Bs} (hn:∀ x∈l,x.parent≠nm):aP (oE l nm):=by
 refine ⟨Nat.le_trans (List.length_filter_le ..) h.len,fun x hx=>h.own x (sI.1 hx).1,zg1 h.rise nm,fun x hx=>?_⟩
 obtain ⟨h1,h2⟩:=sI.1 hx;rcases h.stand x h1 with e | ⟨p,e1,e2,e3⟩
 ·exact .inl e
 ·refine .inr ⟨p,by rw[zt7 h.rise (hn x h1)];exact e1,e2,?_⟩
  rw[zl4 h.rise hn 5 _ (fun y hy=>by cases hy;exact h1)]
  exact e3
def rU (l:List Sn) (s:Sn):Int:=if fA s.name then (if (atS l s.name).isSome then 7 else if dZ l s=0 then (if 10≤l.length then 2 else 0) else dZ l s) else 5
theorem rV {l:List Sn} {s:Sn}:rU l s=0↔fA s.name=true∧atS l s.name=none∧pB l s∧l.length<10:=by
 unfold rU;by_cases h1:fA s.name=true
 ·rw[if_pos h1]
  cases h2:atS l s.name with
  | some t=>simp
  | none =>
   simp only[Option.isSome_none,Bool.false_eq_true,if_false,h1,true_and];by_cases h3:dZ l s=0
   ·rw[if_pos h3]
    by_cases h4:10≤l.length
    ·rw[if_pos h4];exact ⟨fun e=>absurd e (by decide),fun e=>by omega⟩
    ·rw[if_neg h4];exact ⟨fun _=>⟨nM.1 h3,by omega⟩,fun _=>rfl⟩
   ·rw[if_neg h3];exact ⟨fun e=>absurd e h3,fun e=>absurd (nM.2 e.1) h3⟩
 ·rw[if_neg h1];exact ⟨fun e=>absurd e (by decide),fun e=>absurd e.1 h1⟩
theorem zy0 {l:List Sn} {s:Sn} (h:rU l s=0):s.parent≠s.name:=fun e=>by
 obtain ⟨h1,h2,h3,-⟩:=rV.1 h;rcases h3 with h3 | ⟨p,h3,-⟩
 ·rw[h3]at e;exact fY h1 e.symm
 ·rw[e,h2]at h3;cases h3
theorem yN {l:List Sn} (hr:aP l) {s:Sn} (h:rU l s=0) (hk:s.kind=1∨s.kind=2) (hl:aQ s.layer=0):aP (dD l s):=by
 obtain ⟨h1,h2,h3,h4⟩:=rV.1 h;exact zud hr ⟨h1,hk,hl⟩ h2 h3 h4 (zy0 h)
theorem zzh {l:List Sn} (hr:aP l) {s p:Sn} (h:rU l s=0) (hp:atS l s.parent=some p):dF (dD l s) s=dF l p ++ [s.layer]:=by
 obtain ⟨h1,h2,h3,-⟩:=rV.1 h;have hl:(aI l 5 (some s)).length≤4:=by
  rcases h3 with h3 | ⟨p',h3,-,h4⟩
  ·have e:atS l []=none:=iY.2 fun x hx e=>fY (hr.own x hx).1 e
   rw[h3,e]at hp;cases hp
  ·exact h4
 simp only[aI,hp,List.length_cons]at hl;have h4:=sE l 4 (some p) 5 (by simp only[aI,List.length_cons];omega) (by omega)
 unfold dF;rw[h4]
 conv=>lhs;unfold aI
 rw[lU hr.rise,if_neg (zy0 h),hp,sF hr.rise (hr.no_child h2 (fY h1)) 4 _ (fun y hy=>by cases hy;exact (bU hp).1)]
 simp
def eN (l:List Sn) (nm:Bs):Nat:=(aI l 5 (if nm=[] then none else atS l nm)).length
def cQ (l:List Sn) (s:Sn):Int :=
 if fA s.name then (if (atS l s.name).isSome then 7 else
  if s.parent=[] then (if 10≤l.length∨4≤eN l s.parent then 2 else 0) else match atS l s.parent with
  | none=>4
  | some p=>if p.kind=1 then 10 else if 10≤l.length∨4≤eN l s.parent then 2 else 0) else 5
theorem zx0 {l:List Sn} (hr:aP l) (s:Sn):cQ l s=rU l s:=by
 unfold cQ rU dZ;by_cases h1:fA s.name=true
 ·rw[if_pos h1,if_pos h1]
  by_cases h2:(atS l s.name).isSome=true
  ·rw[if_pos h2,if_pos h2]
  ·rw[if_neg h2,if_neg h2]
   by_cases h3:s.parent=[]
   ·have hd:eN l s.parent=0:=by unfold eN;rw[if_pos h3,iC];rfl
    rw[if_pos h3,if_pos h3,if_pos rfl,hd];simp
   ·rw[if_neg h3,if_neg h3]
    cases hp:atS l s.parent with
    | none=>simp
    | some p =>
     simp only;by_cases h4:p.kind=1
     ·rw[if_pos h4,if_pos h4];simp
     ·rw[if_neg h4,if_neg h4]
      have hpl:=hr.line (bU hp).1;have hm:=sE l 4 (some p) 5;have hle:=nY l 4 (some p);have hd:eN l s.parent=(aI l 5 (some p)).length:=by unfold eN;rw[if_neg h3,hp]
      have hs5:(aI l 5 (some s)).length=1+(aI l 4 (some p)).length:=by
       have e5:aI l 5 (some s)=s :: aI l 4 (atS l s.parent):=rfl;rw[e5,hp,List.length_cons,Nat.add_comm]
      have hiff:4≤eN l s.parent↔4<(aI l 5 (some s)).length:=by
       rw[hd,hs5];by_cases hlt:(aI l 4 (some p)).length<4
       ·rw[hm hlt (by omega)];omega
       ·have h45:(aI l 4 (some p)).length≤(aI l 5 (some p)).length:=by
         by_cases hx:(aI l 5 (some p)).length<4
         ·exfalso
          have:∀ (f:Nat) (o:Option Sn),(aI l f o).length≤(aI l (f+1) o).length:=by
           intro f
           induction f with
           | zero=>intro o;simp[aI]
           | succ f ih =>
            intro o;cases o with
            | none=>simp[aI]
            | some y =>
             have:=ih (atS l y.parent)
             conv=>lhs;unfold aI
             conv=>rhs;unfold aI
             simpa using this
          have h9:(aI l 4 (some p)).length≤(aI l 5 (some p)).length:=this 4 (some p);omega
         ·omega
        omega
      by_cases h5:4<(aI l 5 (some s)).length
      ·rw[if_pos h5,if_pos (.inr (hiff.2 h5))];simp
      ·rw[if_neg h5,if_pos rfl]
       have:¬ 4≤eN l s.parent:=fun e=>h5 (hiff.1 e)
       simp[this]
 ·rw[if_neg h1,if_neg h1]
def lP (prev:Option Sn) (s:Sn):Int:=if fA s.name then (if (s.kind==1||s.kind==2)&&!lwQ prev s then bY s.layer else 1) else 5
def hI:Option Sn→List Sn→Int
 | _,[]=>0
 | prev,s :: r=>if lP prev s=0 then hI (some s) r else lP prev s
def jJ (l:List Sn) (s:Sn):Int :=
 if s.parent=[] then 0 else match atS l s.parent with
 | none=>4
 | some p=>if p.kind=1 then 10 else if 4<eN l s.name then 2 else 0
def gR (l:List Sn):List Sn→Int
 | []=>0
 | s :: r=>if jJ l s=0 then gR l r else jJ l s
def snM (l:List Sn):Int:=if 10<l.length then 2 else if hI none l=0 then gR l l else hI none l
def oH (l:List Sn):Prop:=∀ s∈l,bY s.layer=aQ s.layer
theorem yQ:∀ {l:List Sn} (h:oH l) (prev:Option Sn),hI prev l=fU prev l
 | [],_,prev=>rfl
 | s :: r,h,prev=>by
  have h1:lP prev s=lB prev s:=by unfold lP lB;rw[h s (List.mem_cons_self ..)]
  unfold hI fU;rw[h1,yQ (fun x hx=>h x (List.mem_cons_of_mem _ hx)) (some s)]
theorem zn7 {l:List Sn} (hr:eD l) {s:Sn} (hs:s∈l) (hn:fA s.name=true):jJ l s=dZ l s:=by
 have:eN l s.name=(aI l 5 (some s)).length:=by
  unfold eN;rw[if_neg (fY hn),jX hr hs]
 unfold jJ dZ;rw[this]
 all_goals (cases atS l s.parent <;> rfl)
theorem vC {l:List Sn} (hr:eD l) (ho:∀ s∈l,rI s):∀ r:List Sn,(∀ s∈r,s∈l)→gR l r=fH l r
 | [],_=>rfl
 | s :: r,h=>by
  have hs:=h s (List.mem_cons_self ..);unfold gR fH;rw[zn7 hr hs (ho s hs).1,vC hr ho r (fun x hx=>h x (List.mem_cons_of_mem _ hx))]
theorem zl5 {l:List Sn} (h:oH l):snM l=snF l:=by
 unfold snM snF;rw[yQ h];by_cases h0:fU none l=0
 ·obtain ⟨a1,a2,-⟩:=mH.1 h0
  rw[vC a2 a1 l (fun _ hx=>hx)]
 ·rw[if_neg h0,if_neg h0]
def iL (l:List Sn) (s:Sn):List (List En):=((aI l 4 (atS l s.parent)).map Sn.layer).reverse
theorem nP (l:List Sn) (s:Sn):dF l s=iL l s ++ [s.layer]:=by
 unfold dF iL;have e5:aI l 5 (some s)=s :: aI l 4 (atS l s.parent):=rfl;rw[e5];simp
end Go.Proofs.YtgaeikgoknoamaaGreat
namespace Go.Proofs.YtgaeikgoknoamaaGreat
open Go.RowKit Go.Maps
attribute [local go_sem ↓] Go.wp_at_zero Go.wp_at_succ
def gH (ls:List (List En)) (p:Bs):Int:=if cL ls=0 then aG p else cL ls
theorem rM {ls:List (List En)} {p:Bs} (h:gH ls p=0):ls.length≤4∧(∀ es∈ls,bD es)∧aG p=0:=by
 unfold gH at h;split at h
 ·rename_i h1
  exact ⟨(fM.1 h1).1,(fM.1 h1).2,h⟩
 ·rename_i h1;exact absurd h h1
def kX (ls:List (List En)) (p:Bs):Option Nat:=fE (gB ls) p 4
theorem qK {S:Nat→Bs→Option En} {p:Bs}:∀ {n k:Nat},fE S p n=some k→k<n∧∃ e,S k p=some e∧e.kind≠3
 | 0,k,h=>by cases h
 | n+1,k,h=>by
  cases hS:S n p with
  | some e =>
   rw[sW hS]at h;by_cases hk:e.kind=3
   ·rw[if_pos hk]at h;cases h
   ·rw[if_neg hk]at h
    cases h
    exact ⟨by omega,e,hS,hk⟩
  | none =>
   cases hh:(bM p).any fun q=>(S n q).any fun e=>!decide (e.kind=2)
   ·rw[qI hS hh]at h
    obtain ⟨h1,h2⟩:=qK h;exact ⟨by omega,h2⟩
   ·rw[xY hS hh]at h;cases h
theorem zqg {ls:List (List En)} {n:Nat} {p:Bs} {e:En} (h:gB ls n p=some e):∃ es∈ls,e∈es∧e.path=p:=by
 unfold gB at h;cases hx:ls[n]? with
 | none=>rw[hx]at h;cases h
 | some es =>
  rw[hx]at h;obtain ⟨h1,h2⟩:=eR (show aL es p=some e from h)
  exact ⟨es,List.mem_of_getElem? hx,h1,h2⟩
end Go.Proofs.YtgaeikgoknoamaaGreat
namespace Go.Proofs.YtgaeikgoknoamaaGreat
theorem zoi {L:List En} (h:Fit L) {q:Bs} (hq:aG q=0):((bM q).any fun u=>(aL L u).any fun e=>!decide (e.kind=2))=hid L q:=by
 rw[Bool.eq_iff_iff,zmh,List.any_eq_true];constructor
 ·rintro ⟨u,hu,hr⟩
  cases hf:aL L u with
  | none=>rw[hf]at hr;cases hr
  | some e =>
   rw[hf]at hr;obtain ⟨he,rfl⟩:=eR hf;have hb:eG q e.path=true:=by simpa [eG] using hu
   rw[kL hq]at hb;exact ⟨e,he,by simpa using hr,(of_decide_eq_true hb).2⟩
 ·rintro ⟨e,he,hk,hb⟩
  refine ⟨e.path,?_,by rw[eJ h.rise he];simpa using hk⟩
  have hb:eG q e.path=true:=by rw[kL hq];exact decide_eq_true ⟨h.path he,hb⟩
  simpa [eG] using hb
def aT (ls:List (List En)):List En:=ls.foldl cW []
theorem lT (D:List (List En)) (L:List En):aT (D ++ [L])=cW (aT D) L:=by simp[aT,List.foldl_append]
def zab (ls:List (List En)) (q:Bs) (n:Nat):Option En:=(fE (gB ls) q n).bind fun k=>(gB ls k q).map asT
theorem rL {ls:List (List En)} (h:∀ es∈ls,Fit es):∀ n,n≤ls.length→jH (aT (ls.take n))∧∀ q,aG q=0→aL (aT (ls.take n)) q=zab ls q n
 | 0,_=>⟨by simpa [aT] using zze,fun q _=>by simp[aT,zab,fE,aL]⟩
 | n+1,hn=>by
  obtain ⟨ih1,ih2⟩:=rL h n (by omega)
  have hL:ls[n]?=some (ls[n]'(by omega)):=List.getElem?_eq_getElem (by omega)
  have hm:=List.mem_of_getElem? hL;generalize ls[n]'(by omega)=L at *
  have ht:ls.take (n+1)=ls.take n ++ [L]:=by rw[List.take_add_one,hL];rfl
  rw[ht,lT];have hF:=h L hm;refine ⟨pZ ih1 hF,fun q hq=>?_⟩
  rw[zF ih1 hF];have hS:∀ u,gB ls n u=aL L u:=fun u=>by simp[gB,hL]
  unfold zab;cases hf:aL L q with
  | some e =>
   rw[lZ hf,sW (by rw[hS];exact hf)]
   by_cases h3:e.kind=3
   ·simp[h3]
   ·simp[h3,hS,hf]
  | none =>
   rw[uZ hf];have hu:=zoi hF hq;cases hh:hid L q
   ·rw[qI (by rw[hS];exact hf) (by simp only[hS];rw[hu,hh]),if_neg (by simp),ih2 q hq]
    rfl
   ·rw[xY (by rw[hS];exact hf) (by simp only[hS];rw[hu,hh])]
    simp
theorem qJ {ls:List (List En)} {q:Bs}:∀ {n:Nat},ls.length≤n→fE (gB ls) q n=fE (gB ls) q ls.length
 | 0,h=>by rw[Nat.le_zero.1 h]
 | n+1,h=>by
  by_cases h1:ls.length=n+1
  ·rw[h1]
  ·have hS:∀ u,gB ls n u=none:=fun u=>by
    have:ls[n]?=none:=List.getElem?_eq_none (by omega)
    simp[gB,this]
   rw[qI (hS q) (by rw[List.any_eq_false];intro u _;rw[hS u];simp)]
   exact qJ (by omega)
def zk5 (ls:List (List En)) (q:Bs):Option En:=(kX ls q).bind fun k=>(gB ls k q).map asT
theorem zP {ls:List (List En)} (h:∀ es∈ls,Fit es):jH (aT ls):=by
 have:=(rL h ls.length (Nat.le_refl _)).1;rwa [List.take_length]at this
theorem xE {ls:List (List En)} (h:∀ es∈ls,Fit es) (h4:ls.length≤4) {q:Bs} (hq:aG q=0):aL (aT ls) q=zk5 ls q:=by
 have:=(rL h ls.length (Nat.le_refl _)).2 q hq;rw[List.take_length]at this;rw[this];unfold zab zk5 kX;rw[qJ h4]
theorem kW {ls:List (List En)} (h:∀ es∈ls,bD es):∀ es∈ls,Fit es:=fun es he=>(iV.1 (h es he)).1
end Go.Proofs.YtgaeikgoknoamaaGreat
namespace Go.Proofs.YtgaeikgoknoamaaGreat
open Go.RowKit
def RdS (w:World) (a:Option Addr) (l:List Sn):Prop :=
 l≠[]→∃ (b off:Nat) (A:Nat→Option Addr) (C:Nat→Nat),a=some ⟨b,off,none⟩∧b<w.heap.size∧∀ i s,l[i]?=some s →
  w.cell? ⟨b,off+i * 5,none⟩=some (.string (str s.name))∧w.cell? ⟨b,off+i * 5+1,none⟩=some (.string (str s.parent))∧w.cell? ⟨b,off+i * 5+2,none⟩=some (.int .i64 s.kind)∧w.cell? ⟨b,off+i * 5+3,none⟩=some (.bool s.lease) ∧
  w.cell? ⟨b,off+i * 5+4,none⟩=some (.slice (A i) s.layer.length (C i))∧RdE w (A i) s.layer
theorem RdS.nil (w:World) (a:Option Addr):RdS w a []:=fun h=>absurd rfl h
theorem RdS.below {w w':World} {a:Option Addr} {l:List Sn} (h:RdS w a l) (hk:Below w.heap.size w w'):RdS w' a l:=by
 intro hz;obtain ⟨b,off,A,C,e,hb,hc⟩:=h hz;refine ⟨b,off,A,C,e,Nat.lt_of_lt_of_le hb hk.size,fun i x hx=>?_⟩
 obtain ⟨c0,c1,c2,c3,c4,r⟩:=hc i x hx;exact ⟨(hk.cell (p:=⟨b,off+i * 5,none⟩) hb).trans c0,(hk.cell (p:=⟨b,off+i * 5+1,none⟩) hb).trans c1,(hk.cell (p:=⟨b,off+i * 5+2,none⟩) hb).trans c2,(hk.cell (p:=⟨b,off+i * 5+3,none⟩) hb).trans c3,(hk.cell (p:=⟨b,off+i * 5+4,none⟩) hb).trans c4,r.below hk⟩
theorem RdS.at {w:World} {a:Option Addr} {l:List Sn} (h:RdS w a l) {k:Nat} (hk:k<l.length) :
  ∃ b off s x c,a=some ⟨b,off,none⟩∧b<w.heap.size∧l[k]?=some s∧w.cell? ⟨b,off+k * 5,none⟩=some (.string (str s.name))∧w.cell? ⟨b,off+k * 5+1,none⟩=some (.string (str s.parent))∧w.cell? ⟨b,off+k * 5+2,none⟩=some (.int .i64 s.kind)∧w.cell? ⟨b,off+k * 5+3,none⟩=some (.bool s.lease) ∧
   w.cell? ⟨b,off+k * 5+4,none⟩=some (.slice x s.layer.length c)∧RdE w x s.layer:=by
 obtain ⟨b,off,A,C,e,hb,hc⟩:=h (by intro e;simp[e]at hk)
 have hx:l[k]?=some l[k]:=List.getElem?_eq_getElem hk;obtain ⟨c0,c1,c2,c3,c4,r⟩:=hc k _ hx;exact ⟨b,off,l[k],A k,C k,e,hb,hx,c0,c1,c2,c3,c4,r⟩
def bW (l:List Sn):Prop:=l.length≤1048576∧∀ s∈l,s.name.length≤1048576∧s.parent.length≤1048576∧s.layer.length≤1048576∧bJ s.layer
theorem aP.small {l:List Sn} (h:aP l) (hp:∀ s∈l,s.parent.length≤1048576) (he:∀ s∈l,bJ s.layer):bW l:=by
 refine ⟨by have:=h.len;omega,fun s hs=>⟨?_,hp s hs,?_,he s hs⟩⟩
 ·have:=(h.own s hs).1
  simp only[fA,Bool.and_eq_true,decide_eq_true_eq]at this;omega
 ·have:=(dM.1 (h.own s hs).2.2).len
  omega
end Go.Proofs.YtgaeikgoknoamaaGreat
namespace Go.Proofs.YtgaeikgoknoamaaGreat
open Go.RowKit Go.Sort Go.Shelf
def Tryz.pdqT_ren:Go.Shelf.Ren:=⟨fun | 14=>210 | 20=>237 | 21=>238 | 22=>239 | 23=>240 | 24=>241 | 25=>242 | 26=>243 | 27=>244 | 46=>259 | 47=>254 | 48=>255 | 49=>260 | 50=>261 | 15=>201 | 57=>273 | 28=>234 | 29=>235 | n=>n,fun | 24=>91 | 22=>117 | 3=>3 | 25=>187 | 4=>4 | 0=>0 | 46=>272 | 45=>271 | 50=>277 | 66=>291 | 39=>229 | 55=>281 | 70=>295 | 76=>306 | 77=>307 | 53=>217 | 5=>5 | 9=>9 | n=>n,fun | n=>n⟩
theorem Tryz.pdqT:Go.Proofs.SlLaysF0.n14 Tryz.prog Tryz.pdqT_ren:={
 mixed:=by kernel_rfl
 f14:=⟨Tryz.f210.name,by decide,Tryz.func210.trans (congrArg some (by kernel_rfl))⟩
 f15:=Tryz.func201.trans (congrArg some (by kernel_rfl))
 f20:=⟨Tryz.f237.name,by decide,Tryz.func237.trans (congrArg some (by kernel_rfl))⟩
 f21:=⟨Tryz.f238.name,by decide,Tryz.func238.trans (congrArg some (by kernel_rfl))⟩
 f22:=⟨Tryz.f239.name,by decide,Tryz.func239.trans (congrArg some (by kernel_rfl))⟩
 f23:=⟨Tryz.f240.name,by decide,Tryz.func240.trans (congrArg some (by kernel_rfl))⟩
 f24:=⟨Tryz.f241.name,by decide,Tryz.func241.trans (congrArg some (by kernel_rfl))⟩
 f25:=⟨Tryz.f242.name,by decide,Tryz.func242.trans (congrArg some (by kernel_rfl))⟩
 f26:=⟨Tryz.f243.name,by decide,Tryz.func243.trans (congrArg some (by kernel_rfl))⟩
 f27:=⟨Tryz.f244.name,by decide,Tryz.func244.trans (congrArg some (by kernel_rfl))⟩
 f28:=Tryz.func234.trans (congrArg some (by kernel_rfl))
 f29:=Tryz.func235.trans (congrArg some (by kernel_rfl))
 f46:=⟨Tryz.f259.name,by decide,Tryz.func259.trans (congrArg some (by kernel_rfl))⟩
 f47:=Tryz.func254.trans (congrArg some (by kernel_rfl))
 f48:=Tryz.func255.trans (congrArg some (by kernel_rfl))
 f49:=⟨Tryz.f260.name,by decide,Tryz.func260.trans (congrArg some (by kernel_rfl))⟩
 f50:=⟨Tryz.f261.name,by decide,Tryz.func261.trans (congrArg some (by kernel_rfl))⟩
 f57:=⟨Tryz.f273.name,by decide,Tryz.func273.trans (congrArg some (by kernel_rfl))⟩
 t0:=Tryz.underlying0
 a0:=Tryz.isAgg0
 z0:=Tryz.sizeOf0
 v0:=Tryz.zeroValue0
 t3:=Tryz.underlying3
 a3:=Tryz.isAgg3
 z3:=Tryz.sizeOf3
 v3:=Tryz.zeroValue3
 t4:=Tryz.underlying4
 a4:=Tryz.isAgg4
 z4:=Tryz.sizeOf4
 v4:=Tryz.zeroValue4
 t5:=Tryz.underlying5
 a5:=Tryz.isAgg5
 z5:=Tryz.sizeOf5
 v5:=Tryz.zeroValue5
 t9:=Tryz.underlying9
 a9:=Tryz.isAgg9
 z9:=Tryz.sizeOf9
 v9:=Tryz.zeroValue9
 t22:=Tryz.underlying117
 a22:=Tryz.isAgg117
 z22:=Tryz.sizeOf117
 v22:=Tryz.zeroValue117
 t25:=Tryz.underlying187
 a25:=Tryz.isAgg187
 z25:=Tryz.sizeOf187
 v25:=Tryz.zeroValue187
 t39:=Tryz.underlying229
 a39:=Tryz.isAgg229
 z39:=Tryz.sizeOf229
 v39:=Tryz.zeroValue229
 t45:=Tryz.underlying271
 a45:=Tryz.isAgg271
 z45:=Tryz.sizeOf271
 v45:=Tryz.zeroValue271
 t46:=Tryz.underlying272
 a46:=Tryz.isAgg272
 z46:=Tryz.sizeOf272
 v46:=Tryz.zeroValue272
 t50:=Tryz.underlying277
 a50:=Tryz.isAgg277
 z50:=Tryz.sizeOf277
 v50:=Tryz.zeroValue277
 t53:=Tryz.underlying217
 a53:=Tryz.isAgg217
 z53:=Tryz.sizeOf217
 v53:=Tryz.zeroValue217
 t55:=Tryz.underlying281
 a55:=Tryz.isAgg281
 z55:=Tryz.sizeOf281
 v55:=Tryz.zeroValue281
 t66:=Tryz.underlying291
 a66:=Tryz.isAgg291
 z66:=Tryz.sizeOf291
 v66:=Tryz.zeroValue291
 t70:=Tryz.underlying295
 a70:=Tryz.isAgg295
 z70:=Tryz.sizeOf295
 v70:=Tryz.zeroValue295
 t76:=Tryz.underlying306
 a76:=Tryz.isAgg306
 z76:=Tryz.sizeOf306
 v76:=Tryz.zeroValue306
 t77:=Tryz.underlying307
 a77:=Tryz.isAgg307
 z77:=Tryz.sizeOf307
 v77:=Tryz.zeroValue307 }
def Tryz.lenT_ren:Go.Shelf.Ren:=⟨fun | 125=>201 | 128=>234 | 129=>235 | n=>n,fun | 46=>229 | 3=>3 | 51=>217 | 53=>281 | 4=>4 | 5=>5 | 9=>9 | n=>n,fun | n=>n⟩
theorem Tryz.lenT:Go.Proofs.Lays.n125 Tryz.prog Tryz.lenT_ren:={
 mixed:=by kernel_rfl
 f125:=Tryz.func201.trans (congrArg some (by kernel_rfl))
 f128:=Tryz.func234.trans (congrArg some (by kernel_rfl))
 f129:=Tryz.func235.trans (congrArg some (by kernel_rfl))
 t3:=Tryz.underlying3
 a3:=Tryz.isAgg3
 z3:=Tryz.sizeOf3
 v3:=Tryz.zeroValue3
 t4:=Tryz.underlying4
 a4:=Tryz.isAgg4
 z4:=Tryz.sizeOf4
 v4:=Tryz.zeroValue4
 t5:=Tryz.underlying5
 a5:=Tryz.isAgg5
 z5:=Tryz.sizeOf5
 v5:=Tryz.zeroValue5
 t9:=Tryz.underlying9
 a9:=Tryz.isAgg9
 z9:=Tryz.sizeOf9
 v9:=Tryz.zeroValue9
 t46:=Tryz.underlying229
 a46:=Tryz.isAgg229
 z46:=Tryz.sizeOf229
 v46:=Tryz.zeroValue229
 t51:=Tryz.underlying217
 a51:=Tryz.isAgg217
 z51:=Tryz.sizeOf217
 v51:=Tryz.zeroValue217
 t53:=Tryz.underlying281
 a53:=Tryz.isAgg281
 z53:=Tryz.sizeOf281
 v53:=Tryz.zeroValue281 }
end Go.Proofs.YtgaeikgoknoamaaGreat
namespace Go.Proofs.YtgaeikgoknoamaaGreat
open Go.RowKit Go.Sort
def kY (a b:Bs):Int:=if Op.bytesLess a b then -1 else if Op.bytesLess b a then 1 else 0
theorem zx7 (a b:Bs):decide (kY a b<0)=Op.bytesLess a b:=by
 unfold kY;cases h:Op.bytesLess a b
 ·cases h2:Op.bytesLess b a <;> rfl
 ·rfl
theorem uB (s:ByteArray) (w:World):Calls Tryz.prog 211 #[.string s] w fun e w'=>e=.returned (.bool false)∧w'=w:=by
 go_enter Tryz.func211,Tryz.ntmps211;go_wp2
 go_ret
 exact ⟨by simp,rfl⟩
theorem zd6 (p q:Bs) (w:World):Calls Tryz.prog 167 #[.string (str p),.string (str q)] w fun e w'=>e=.returned (.int .i64 (kY p q))∧w'=w:=by
 obtain ⟨F,hF⟩:∃ F:Int,F=kY p q:=⟨_,rfl⟩;rw[←hF];cases h1:Op.bytesLess (str p).toList (str q).toList
 ·by_cases hpq:p=q
  ·have hs1:=iD hpq
   have HE:=aA (show F=0 from by rw[hF,kY,hpq,fR];rfl)
   clear hF hpq;go_enter Tryz.func167,Tryz.ntmps167;go_wp2_with (go_at_call 211;refine (uB _ _).mono ?_;rintro e w' ⟨rfl,rfl⟩)
   go_ret
   exact ⟨aO HE.out.symm,rfl⟩
  ·have hs1:=jK hpq
   have HE:=aA (show F=1 from by
    rw[aM,aM]at h1;rw[hF,kY,h1,iZ _ _ h1 hpq];rfl)
   clear hF hpq;go_enter Tryz.func167,Tryz.ntmps167;go_wp2_with (go_at_call 211;refine (uB _ _).mono ?_;rintro e w' ⟨rfl,rfl⟩)
   go_ret
   exact ⟨aO HE.out.symm,rfl⟩
 ·have HE:=aA (show F = -1 from by rw[hF,kY];rw[aM,aM]at h1;rw[h1];rfl)
  clear hF;go_enter Tryz.func167,Tryz.ntmps167;go_wp2_with (go_at_call 211;refine (uB _ _).mono ?_;rintro e w' ⟨rfl,rfl⟩)
  go_ret
  exact ⟨aO HE.out.symm,rfl⟩
theorem zm7 (x y:Rw) (W:World):Calls Tryz.prog 121 #[.agg (dB x).toArray,.agg (dB y).toArray] W fun e w'=>e=.returned (.int .i64 (kY x.e.path y.e.path))∧∃ q os',w'=grow (W.drewN q) os':=by
 have hcon:=fun W'=>zd6 x.e.path y.e.path W'
 generalize kY x.e.path y.e.path=r at hcon ⊢;show Calls Tryz.prog 121 #[.agg #[.int .i64 x.e.size,.slice x.a x.e.chunks.length x.c,.string (str x.e.path),.int .i64 x.e.kind],.agg #[.int .i64 y.e.size,.slice y.a y.e.chunks.length y.c,.string (str y.e.path),.int .i64 y.e.kind]] W _
 go_enter Tryz.func121,Tryz.ntmps121;go_wp2_with (go_at_call 167;refine (hcon _).mono ?_;rintro e w' ⟨rfl,rfl⟩)
 go_ret
 exact ⟨rfl,0,_,by rw[alloc_eq_grow,alloc_eq_grow,grow_grow];rfl⟩
theorem wZ:∀ {l1 l2:List Rw},l1.Perm l2→l1.Pairwise (fun x y=>Op.bytesLess x.e.path y.e.path=true)→l2.Pairwise (fun x y=>Op.bytesLess x.e.path y.e.path=true)→l1=l2
 | [],l2,hp,_,_=>hp.symm.eq_nil.symm
 | a :: l1,[],hp,_,_=>by have:=hp.length_eq;simp at this
 | a :: l1,b :: l2,hp,h1,h2=>by
  have p1:=List.pairwise_cons.1 h1;have p2:=List.pairwise_cons.1 h2;have hab:a=b:=by
   have ha:a∈b :: l2:=hp.subset List.mem_cons_self;have hb:b∈a :: l1:=hp.symm.subset List.mem_cons_self;rcases List.mem_cons.1 ha with h | ha
   ·exact h
   ·rcases List.mem_cons.1 hb with h | hb
    ·exact h.symm
    ·have q1:=p2.1 a ha
     have q2:=p1.1 b hb;rw[iE q1]at q2;cases q2
  subst hab;rw[wZ (List.Perm.cons_inv hp) p1.2 p2.2]
theorem zp5:SWO (ltOf fun x y:Rw=>kY x.e.path y.e.path):=by
 have e:∀ x y:Rw,ltOf (fun x y:Rw=>kY x.e.path y.e.path) x y=Op.bytesLess x.e.path y.e.path:=fun x y=>zx7 _ _
 refine ⟨fun x=>by rw[e,fR],fun x y z=>by rw[e,e,e];exact iF _ _ _,fun x y z=>?_⟩
 rw[e,e,e];intro h1 h2;cases h3:Op.bytesLess x.e.path z.e.path
 ·rfl
 ·by_cases h4:y.e.path=z.e.path
  ·rw[h4]at h1;rw[h1]at h3;cases h3
  ·have:=iF _ _ _ h3 (iZ _ _ h2 h4)
   rw[h1]at this;cases this
end Go.Proofs.YtgaeikgoknoamaaGreat
namespace Go.Proofs.YtgaeikgoknoamaaGreat
open Go.RowKit Go.Maps
attribute [local go_sem ↓] Go.wp_at_zero Go.wp_at_succ
theorem xH (a:Option Addr) (c n:Nat) (es:List En) (fn:FuncId) (cap:Array Value) (f:En→Bool) (w:World) (h:RdI w a es) (hn:n=es.length) (hl:es.length≤1048576) (hs:bJ es) (hf:mA w fn cap f) :
  Calls Tryz.prog 136 #[.slice a n c,.func (.func fn) #[] cap] w fun r w'=>r=.returned (.bool (es.any f))∧Below w.heap.size w w':=by
 subst hn;have HC:=aA (zfc a c es.length es fn cap f w h rfl hl hs hf);clear h hf hs;go_enter Tryz.func136,Tryz.ntmps136;go_wp2_with fail
 refine HC.out.mono ?_;rintro r w1 ⟨(⟨e,x,cc,hq,rfl,-⟩ | ⟨hq,rfl⟩),hb1⟩
 ·have HA:=aA (show es.any f=true from List.any_eq_true.2 ⟨e,List.mem_of_find?_eq_some hq,List.find?_some hq⟩)
  have B1:=aA hb1;clear hb1 hq;go_wp2_with fail
  go_ret
  exact ⟨cE HA.out.symm,aB B1.out (aC _ _)⟩
 ·have HA:=aA (show es.any f=false from List.any_eq_false.2 (fun x hx=>List.find?_eq_none.1 hq x hx))
  have B1:=aA hb1;clear hb1 hq;go_wp2_with fail
  go_ret
  exact ⟨cE HA.out.symm,aB B1.out (aC _ _)⟩
theorem zac {es:List En} {f:En→Bool} {k:Nat} {e:En} (he:es[k]?=some e) (h:f e=true):(es.take (k+1)).filter f=(es.take k).filter f ++ [e]:=by
 rw[bQ he,List.filter_append];simp[h]
theorem zk9 {es:List En} {f:En→Bool} {k:Nat} {e:En} (he:es[k]?=some e) (h:f e=false):(es.take (k+1)).filter f=(es.take k).filter f:=by
 rw[bQ he,List.filter_append];simp[h]
theorem zfe (a:Option Addr) (c n:Nat) (es:List En) (fn:FuncId) (cap:Array Value) (f:En→Bool) (w:World) (h:RdI w a es) (hn:n=es.length) (hl:es.length≤1048576) (hs:bJ es) (hf:mA w fn cap f) :
  Calls Tryz.prog 179 #[.slice a n c,.func (.func fn) #[] cap] w fun r w'=>∃ av cv,r=.returned (.slice av (es.filter f).length cv)∧LI w w' (.slice av (es.filter f).length cv) (es.filter f)∧Below w.heap.size w w':=by
 subst hn;obtain ⟨i1,ki,kz0,kz1,kz2⟩:=info_parts Tryz.infoIt;have eg:=hf.1;have HF:=aA hf;have HR:=aA h;have HS:=aA hs;clear h hf hs;go_enter Tryz.func179,Tryz.ntmps179;go_wp2_with fail
 go_loopw [5,10] (fun v i wr=>∃ k:Nat,k≤es.length∧i=.int .i64 k∧Hid (LI w wr v ((es.take k).filter f))∧Hid (Below w.heap.size w wr)) (fun _ i _=>es.length - (intOf i).toNat)
 case atStart=>exact ⟨0,Nat.zero_le _,rfl,aA (LI.nil _ _),aA (Below.refl _ _)⟩
 case round =>
  obtain ⟨k,hk,rfl,HL,HW⟩:=hrel;have hsz:=HW.out.size;obtain ⟨lv,lc,hv⟩:=HL.out.shape;subst hv;have hrl:=List.length_filter_le f (es.take k);rw[List.length_take]at hrl;by_cases hlt:k<es.length
  ·obtain ⟨b,off,e,x,cc,rfl,hb,he,c0,c1,c2,c3,hr⟩:=(HR.out.below HW.out).at hlt
   obtain ⟨b',off',e',x',cc',hbb,hb',he',d0,d1,d2,d3,hr'⟩:=HR.out.at hlt;simp only[Option.some.injEq,Addr.mk.injEq,and_true]at hbb;obtain ⟨rfl,rfl⟩:=hbb;have:e'=e:=Option.some.inj (he'.symm.trans he);subst this;have d1':=(HW.out.cell (p:=⟨b,off+k * 4+1,none⟩) hb').trans d1;rw[c1]at d1';simp only[Option.some.injEq,Value.slice.injEq,true_and]at d1';obtain ⟨rfl,rfl⟩:=d1';have hsm:=HS.out e' (List.mem_of_getElem? he);have HX:=aA he;have HRc:=aA hr';clear he hr hr' he' d0 d1 d2 d3;have BA:=aA (aC wr (.cells #[.int .i64 e'.size,.slice x e'.chunks.length cc,.string (str e'.path),.int .i64 e'.kind] 91))
   have F4:=aA (cP.new wr (.int .i64 e'.size) (.slice x e'.chunks.length cc) (.string (str e'.path)) (.int .i64 e'.kind) 91);go_wp2_with fail
   refine (HF.out.2 e' x cc _ hsm.1 hsm.2 (HRc.out.below (aB HW.out BA.out)) (aB HW.out BA.out)).mono ?_;rintro r w3 ⟨rfl,hb3⟩;have BB5:=aA (aB BA.out hb3);obtain ⟨f0,f1,f2,f3⟩:=F4.out.below hb3;clear hb3 c0 c1 c2 c3;cases hq:f e'
   ·have HN:=aA (zk9 HX.out hq)
    clear hq;go_wp2_with fail
    go_roundw
    case rel=>exact ⟨k+1,by omega,by go_num,aA (by rw[HN.out];exact HL.out.below BB5.out),aA (aB HW.out BB5.out)⟩
    case measure=>simp[intOf];omega
   ·have HN:=aA (zac HX.out hq)
    clear hq;obtain ⟨rs,g1,g2,g3⟩:=HL.out;have G1:=aA g1;have G2:=aA (aJ g2 BB5.out);have G3:=aA g3;clear g1 g2 g3;obtain ⟨L,hL⟩:∃ L,L=((es.take k).filter f).length:=⟨_,rfl⟩;rw[←hL]at hrl G2 ⊢;have HLn:=aA hL;clear hL;have hm1:L+1≤maxLen:=by unfold maxLen;omega
    have hm1':(L+1) * 56≤140737488355328:=by omega
    have hsz5:=BB5.out.size;go_wp2_with (at_builtin;refine dJ rfl (.tmp 17) (.tmp 19) 118 rfl w.heap.size 91 i1 (.agg #[.int .i64 0,.slice none 0 0,.string ⟨#[]⟩,.int .i64 0]) 4 56 Tryz.underlying118 ki kz0 kz1 kz2 rfl (by decide) _ _ _ rfl G2.out _ rfl rfl rfl (by intro u hu;simp at hu;rcases hu with rfl | rfl | rfl | rfl <;> rfl) hm1 hm1' (by omega) ?_;intro av6 cv6 w6 hown6 hk6;have O6:=aA hown6;have K6:=aA hk6;clear hown6 hk6)
    go_roundw
    case rel =>
     refine ⟨k+1,by omega,by go_num,aA ?_,aA ?_⟩
     ·rw[HN.out]
      exact LI.push (e:=e') (a:=x) (c:=cc) G1.out HLn.out G3.out HRc.out O6.out
     ·exact (aB HW.out BB5.out).trans (K6.out.below (by omega) (fun q hq hS=>by have:=(G2.out.lt q hS).1;omega))
    case measure=>simp[intOf];omega
  ·have HE:=aA (show es.take k=es from List.take_of_length_le (by omega))
   rw[HE.out]at HL ⊢;clear HE;go_wp2_with fail
   go_ret
   exact ⟨lv,lc,rfl,HL.out,HW.out⟩
theorem zo6 (p:Bs) (b:Nat) (e:En) (a:Option Addr) (c:Nat) (w:World) (h:w.cell? ⟨b,0,none⟩=some (.string (str p))) :
  Calls Tryz.prog 248 #[.agg #[.int .i64 e.size,.slice a e.chunks.length c,.string (str e.path),.int .i64 e.kind],.pointer (some ⟨b,0,none⟩)] w fun r w'=>r=.returned (.bool (decide (e.path=p)))∧Below w.heap.size w w':=by
 have hb:=World.block_lt_of_cell? w ⟨b,0,none⟩ h;have hs:=vT e.path p;generalize decide (e.path=p)=Z at *;have hbw:(w.alloc (.cells #[.int .i64 e.size,.slice a e.chunks.length c,.string (str e.path),.int .i64 e.kind] 91)).cell? ⟨b,0,none⟩=some (.string (str p)):=((aC w _).cell (p:=⟨b,0,none⟩) hb).trans h;go_enter Tryz.func248,Tryz.ntmps248;go_wp2_with fail
 go_ret
 exact ⟨rfl,aC _ _⟩
theorem zs3 (p:Bs) (w:World) :
  Calls Tryz.prog 216 #[.string (str p)] w fun r w'=>r=.returned (.func (.func 248) #[] #[.pointer (some ⟨w.heap.size,0,none⟩)])∧Below w.heap.size w w'∧mA w' 248 #[.pointer (some ⟨w.heap.size,0,none⟩)] (fun e=>decide (e.path=p)):=by
 have hmf:∀ (fn:Fn) (first cap:Array Value) (w:World),(Instr.makeFunc fn first cap).run Tryz.prog w=.ok (.func fn first cap) w:=fun _ _ _ _=>rfl
 go_enter Tryz.func216,Tryz.ntmps216;go_wp2_with fail
 go_ret
 refine ⟨rfl,aC _ _,enters_of Tryz.func248 (by kernel_rfl) rfl,fun e a c w' he _ _ hb=>?_⟩
 exact zo6 p w.heap.size e a c w' ((hb.cell (p:=⟨w.heap.size,0,none⟩) (by simp)).trans (by simp))
theorem zt3 (p:ByteArray) (k z:Int) (a:Option Addr) (n c:Nat) (w:World) :
  Calls Tryz.prog 138 #[.agg #[.int .i64 z,.slice a n c,.string p,.int .i64 k]] w fun r w'=>r=.returned (.bool (iX k))∧Below w.heap.size w w':=by
 by_cases h0:k=1
 ·have e:iX k=true:=decide_eq_true (.inl h0)
  have hb:(k==1)=true:=by simp[h0]
  rw[e];clear e h0;go_enter Tryz.func138,Tryz.ntmps138;go_wp2
  go_ret
  exact ⟨rfl,aC _ _⟩
 ·have hb:(k==1)=false:=by simp[h0]
  by_cases h1:k=2
  ·have e:iX k=true:=decide_eq_true (.inr h1)
   have hb1:(k==2)=true:=by simp[h1]
   rw[e];clear e h0 h1;go_enter Tryz.func138,Tryz.ntmps138;go_wp2
   go_ret
   exact ⟨rfl,aC _ _⟩
  ·have e:iX k=false:=decide_eq_false (fun h=>h.elim h0 h1)
   have hb1:(k==2)=false:=by simp[h1]
   rw[e];clear e h0 h1;go_enter Tryz.func138,Tryz.ntmps138;go_wp2
   go_ret
   exact ⟨rfl,aC _ _⟩
theorem zpa (e:En) (a:Option Addr) (c:Nat) (w:World) :
  Calls Tryz.prog 137 #[.agg #[.int .i64 e.size,.slice a e.chunks.length c,.string (str e.path),.int .i64 e.kind]] w fun r w'=>r=.returned (.bool (!iX e.kind))∧Below w.heap.size w w':=by
 have HC:=aA (fun (u:World)=>zt3 (str e.path) e.kind e.size a e.chunks.length c u)
 generalize iX e.kind=Z at *;go_enter Tryz.func137,Tryz.ntmps137;go_wp2_with fail
 refine (HC.out _).mono ?_;rintro r w1 ⟨rfl,hb1⟩;have B1:=aA (aB (aC w (.cells #[.int .i64 e.size,.slice a e.chunks.length c,.string (str e.path),.int .i64 e.kind] 91)) hb1);clear hb1;go_wp2_with fail
 go_ret
 exact ⟨rfl,B1.out⟩
theorem ze7 (w:World):mA w 137 #[] (fun e=>!iX e.kind) :=
 ⟨enters_of Tryz.func137 (by kernel_rfl) rfl,fun e a c w' _ _ _ _=>zpa e a c w'⟩
theorem zk0 (b:Nat) (fn:FuncId) (cap:Array Value) (f:En→Bool) (W0:World) (hf:mA W0 fn cap f) (e:En) (a:Option Addr) (c:Nat) (w:World) (he:e.path.length≤1048576) (hec:e.chunks.length≤1048576) (hre:aZ .i64 w a e.chunks) (hw:Below W0.heap.size W0 w) (h:w.cell? ⟨b,0,none⟩=some (.func (.func fn) #[] cap)) :
  Calls Tryz.prog 180 #[.agg #[.int .i64 e.size,.slice a e.chunks.length c,.string (str e.path),.int .i64 e.kind],.pointer (some ⟨b,0,none⟩)] w fun r w'=>r=.returned (.bool (!f e))∧Below w.heap.size w w':=by
 have eg:=hf.1;have B0:=aA (aC w (.cells #[.int .i64 e.size,.slice a e.chunks.length c,.string (str e.path),.int .i64 e.kind] 91));have hb:=World.block_lt_of_cell? w ⟨b,0,none⟩ h;have hc:=(B0.out.cell (p:=⟨b,0,none⟩) hb).trans h;have HF:=aA (hf.2 e a c _ he hec (hre.below B0.out) (aB hw B0.out));generalize f e=Z at *;clear h hf hre;go_enter Tryz.func180,Tryz.ntmps180;go_wp2_with fail
 refine HF.out.mono ?_;rintro r w1 ⟨rfl,hb1⟩;have B1:=aA (aB B0.out hb1);clear hb1;go_wp2_with fail
 go_ret
 exact ⟨rfl,B1.out⟩
theorem lG (a:Option Addr) (c n:Nat) (es:List En) (fn:FuncId) (cap:Array Value) (f:En→Bool) (w:World) (h:RdI w a es) (hn:n=es.length) (hl:es.length≤1048576) (hs:bJ es) (hf:mA w fn cap f) :
  Calls Tryz.prog 139 #[.slice a n c,.func (.func fn) #[] cap] w fun r w'=>∃ av cv w1,r=.returned (.slice av (es.filter fun e=>!f e).length cv)∧LI w1 w' (.slice av (es.filter fun e=>!f e).length cv) (es.filter fun e=>!f e)∧Below w.heap.size w w1∧Below w1.heap.size w1 w':=by
 have hmf:∀ (fn:Fn) (first cap:Array Value) (w:World),(Instr.makeFunc fn first cap).run Tryz.prog w=.ok (.func fn first cap) w:=fun _ _ _ _=>rfl
 subst hn;have B0:=aA (aC w (.cells #[.func (.func fn) #[] cap] 93));have HA:Hid (mA (w.alloc (.cells #[.func (.func fn) #[] cap] 93)) 180 #[.pointer (some ⟨w.heap.size,0,none⟩)] (fun e=>!f e)):=aA ⟨enters_of Tryz.func180 (by kernel_rfl) rfl,fun e a c w' he hec hre hb =>
  zk0 w.heap.size fn cap f w hf e a c w' he hec hre (aB B0.out hb) ((hb.cell (p:=⟨w.heap.size,0,none⟩) (by simp)).trans (by simp))⟩
 have HC:=aA (zfe a c es.length es _ _ (fun e=>!f e) _ (h.below B0.out) rfl hl hs HA.out)
 clear h hf hs HA;go_enter Tryz.func139,Tryz.ntmps139;go_wp2_with fail
 generalize w.alloc (.cells #[.func (.func fn) #[] cap] 93)=W0 at *;refine HC.out.mono ?_;rintro r w1 ⟨av,cv,rfl,hL,hb1⟩;have HL:=aA hL;have B1:=aA hb1;clear hL hb1 HC;go_wp2_with fail
 go_ret
 exact ⟨av,cv,W0,rfl,HL.out,B0.out,B1.out⟩
theorem za8 {es:List En} {q:Bs} {k:Nat} {e:En} (ha:atE es q=some k) (he:es[k]?=some e):aL es q=some e:=by rw[mV,ha];exact he
end Go.Proofs.YtgaeikgoknoamaaGreat
