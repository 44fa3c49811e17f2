/-
  Texts put together: PathA LayL Ents EntF LayP LibP Pieces PathP.
-/
import Derived.Test.YtgaeikgoknoamaaGreatKKeeps1
import GoSem.Op.String
import Derived.Deep.RegionHeld3
import Derived.Handy
import Derived.Shelf.Strings.OnBuilder
import Derived.Shelf.Strconv.Clone
import Derived.Shelf.Slices.Turned
import Derived.Shelf.Strings.Search2
import Derived.Shelf.Small.Wraps
import Derived.Test.YtgaeikgoknoamaaGreatProg
import Derived.Lib.IndexLaws
import Derived.RangeFuncNested
import Derived.RangeFuncBound
import Derived.RangeFuncCalls
import Derived.RangeFuncLeaves
import Derived.RangeFuncBox
import Derived.Shelf.Abstract
import Derived.Shelf.RegionOpen
import Derived.OwnWalkIn
import Derived.TacticsInMore
import Derived.LoopNIn
import Derived.LoopIn
import Derived.Maps.AppendAt
import Derived.Scope
set_option linter.unusedVariables false
set_option maxHeartbeats 2000000
set_option maxRecDepth 100000
namespace Go.Proofs.YtgaeikgoknoamaaGreat
open Go.RowKit
def lX (ns:List Bs) (m:Nat):List Bs:=(List.range m).map fun k=>bR (ns.take (k+1))
theorem zu7 (ns:List Bs) (m:Nat):lX ns (m+1)=lX ns m ++ [bR (ns.take (m+1))]:=by simp[lX,List.range_succ]
theorem pG (ns:List Bs) (m:Nat):(lX ns m).length=m:=by simp[lX]
theorem zv5 (s:ByteArray):(bR (bF s.data.toList.tail)).length≤s.size+1:=by
 rw[qW,List.length_cons,List.length_tail,←Lib.size_eq];omega
theorem oL (s:ByteArray) (w:World) (h1:1≤s.size) (hs:s.size≤2097152) :
  Calls Tryz.prog 188 #[.string s] w fun e w'=>∃ v,e=.returned v∧cJ w.heap.size w' v (bJ (bF s.data.toList.tail))∧Below w.heap.size w w':=by
 obtain ⟨i1,ki,kz0,kz1,kz2⟩:=info_parts rK;have h1':(1:Int)≤(s.size:Int):=by omega
 have hel:=pS s 1 s.size;have HT:=aA (rZ s);have hcl:=kK s.data.toList.tail;have hel2:s.data.toList.tail.length≤s.size:=by rw[List.length_tail,←Lib.size_eq];omega
 have hjl:=zv5 s;have hpos:=List.length_pos_iff.2 (qK s.data.toList.tail);generalize hns:bF s.data.toList.tail=ns at *;have HN:=aA hns;clear hns;go_enter Tryz.func188,Tryz.ntmps188;go_wp2_with fail
 refine (vV _ _ (by omega)).mono ?_
 rintro e w1 ⟨v,rfl,hO,hb1⟩;rw[HT.out,HN.out]at hO;obtain ⟨na,nc,rfl⟩:=hO.shape;have hnc:=hO.cap rfl;have HR:=aA hO.reads;have HB:=aA hb1;have HPB:=aA (fun b (hb:na.map Addr.block=some b)=>hO.lt b (by cases na with | none=>simp at hb | some x=>simpa [Value.ownBlock] using hb))
 have n1:=hb1.size;clear hO hb1;go_wp2_with fail
 go_loopw [4,5] (fun v i wr=>∃ m:Nat,m+1≤ns.length∧i=.int .i64 (m+1)∧Hid (cJ w1.heap.size wr v (lX ns m))∧Hid (bM wr na ns)∧Hid (Below w.heap.size w wr)∧w1.heap.size≤wr.heap.size) (fun _ i _=>ns.length - (intOf i).toNat)
 case atStart=>exact ⟨0,by omega,rfl,aA (World.ownsRow_made (base:=w1.heap.size) (e:=9) (size:=1) w1 #[] 0 (Nat.le_refl _) (Nat.zero_le _) rfl),aA (HR.out.below (aC _ _)),aA (aB HB.out (aC _ _)),by simp⟩
 case round =>
  obtain ⟨m,hm,rfl,HO,HRr,HBr,hszr⟩:=hrel;obtain ⟨va,vc,rfl⟩:=HO.out.shape;rw[pG]at *;by_cases hlt:m+1<ns.length
  ·have hm1:m+1≤maxLen:=by unfold maxLen;omega
   have hm2:(m+1) * 16≤140737488355328:=by omega
   have hjt:=vR ns (m+1);have hlt2:(m:Int)+1<(ns.length:Int):=by omega
   have hcp:(m:Int)+1≤(nc:Int):=by omega
   have HO':=aA (show wr.ownsRow w1.heap.size 9 1 (.slice va m vc) m ((lX ns m).map vS) by have:=HO.out;unfold cJ at this;rwa [pG]at this)
   go_wp2_with (first | (go_at_call 197;refine (zy0 _ _ (ns.take (m+1)) _ (HRr.out.take (m+1)) (by simp;omega) (by omega) _ (by simp;omega)).mono ?_;rintro e w2 ⟨rfl,rfl⟩) | (at_builtin;refine bS rfl (.tmp 16) (.tmp 21) 25 rfl w1.heap.size 9 i1 (.string ⟨#[]⟩) 1 16 Tryz.underlying25 ki kz0 kz1 kz2 rfl (by decide) _ _ _ rfl HO'.out rfl rfl (by intro u hu;simp at hu;subst hu;rfl) hm1 hm2 hszr ?_;intro v' w3 hown2 hkept;have O2:=aA hown2;have K2:=aA hkept;clear hown2 hkept))
   go_roundw
   case rel=>exact ⟨m+1,by omega,by go_num,aA (by rw[zu7];exact cJ.snoc (ps:=lX ns m) (by rw[pG];exact O2.out) rfl),aA (HRr.out.kept K2.out (fun _ x hx hS=>by have h1:=(HPB.out x.block (by rw[hx];rfl)).2;have h2:=(HO'.out.lt _ hS).1;omega)),aA (HBr.out.trans (K2.out.below (by omega) (fun b hb hS=>by have:=(HO'.out.lt _ hS).1;omega))),by have:=K2.out.size;omega⟩
   case measure=>simp[intOf];omega
  ·have hlt2:¬ (m:Int)+1<(ns.length:Int):=by omega
   have HE:=aA (show bJ ns=lX ns m by unfold bJ lX;rw[show ns.length - 1=m by omega])
   go_wp2_with fail
   go_ret
   exact ⟨_,rfl,by rw[HE.out];exact HO.out.mono n1,HBr.out⟩
theorem pT {s:ByteArray} (h:aF s.data.toList=0):1≤s.size:=by
 obtain ⟨ns,_,_,_,e⟩:=fT h;have:=congrArg List.length e;rw[←Lib.size_eq]at this;simp at this
 omega
theorem rF {p:Bs} (h:aF p≠0):bL p=[]:=by simp[bL,h]
theorem eP {p:Bs} (h:aF p=0):bL p=bJ (bF p.tail):=by simp[bL,h]
theorem rG (p:Bs):(bL p).length≤2:=by
 by_cases h:aF p=0
 ·obtain ⟨ns,hN,_,hc,_⟩:=fT h
  rw[eP h,iE,hc];have:=hN.2.2.2;omega
 ·rw[rF h];simp
def zL (p:Bs):Int:=if aF p=0 then (if bL p=[] then 4 else 0) else aF p
def wD (p:Bs):Bs:=(bL p).getLastD []
theorem tE {l:List Bs} (h:l≠[]):l[l.length - 1]?=some (l.getLastD []):=by
 rw[List.getLastD_eq_getLast?,List.getLast?_eq_getElem?];have:l.length - 1<l.length:=by have:=List.length_pos_iff.2 h;omega
 simp[this]
theorem iU (s:ByteArray) (w:World) (h1:1≤s.size) (hs:s.size≤2097152) :
  Calls Tryz.prog 204 #[.string s] w fun e w'=>e=.returned (.string (str ((bJ (bF s.data.toList.tail)).getLastD [])))∧Below w.heap.size w w':=by
 have hlen:(bJ (bF s.data.toList.tail)).length≤4194304:=by
  have hlen:=iE (bF s.data.toList.tail);have hcl:=kK s.data.toList.tail;have hel2:s.data.toList.tail.length≤s.size:=by rw[List.length_tail,←Lib.size_eq];omega
  omega
 obtain ⟨ab,hab⟩:∃ ab,ab=bJ (bF s.data.toList.tail):=⟨_,rfl⟩;rw[←hab]at hlen ⊢;have HAB:=aA hab;clear hab;go_enter Tryz.func204,Tryz.ntmps204;go_wp2_with fail
 refine (oL _ _ h1 hs).mono ?_;rintro e w1 ⟨v,rfl,hO,hb1⟩;rw[←HAB.out]at hO;obtain ⟨va,vc,rfl⟩:=hO.shape;have HB:=aA hb1;clear hb1;by_cases h0:ab=[]
 ·subst h0
  go_wp2_with fail
  go_ret
  exact ⟨rfl,HB.out⟩
 ·have hp:=List.length_pos_iff.2 h0
  obtain ⟨b,off,p,rfl,hb,hpe,hck⟩:=hO.reads.at (k:=ab.length - 1) (by omega)
  have HP:=aA (Option.some.inj (hpe.symm.trans (tE h0)));clear hpe hO;have hz:((ab.length:Int)==0)=false:=by simp;omega
  have hp':(1:Int)≤(ab.length:Int):=by omega
  have hp2:(ab.length:Int)≤4194304:=by omega
  go_wp2_with fail
  go_ret
  exact ⟨zc2 (by rw[HP.out]),HB.out⟩
theorem zak {p:Bs} (h:aF p≠0):zL p=aF p∧wD p=[]:=by simp[zL,wD,h,rF h]
theorem zw6 {p:Bs} (h:aF p=0) (ha:bJ (bF p.tail)=[]):zL p=4∧wD p=[]:=by
 have e:=eP h;rw[ha]at e;simp[zL,wD,h,e]
theorem zv6 {p:Bs} (h:aF p=0) (ha:bJ (bF p.tail)≠[]):zL p=0∧wD p=(bJ (bF p.tail)).getLastD []:=by
 have e:=eP h;exact ⟨by simp[zL,h,e,ha],by rw[wD,e]⟩
theorem zkc (s:ByteArray) (w:World) (h1:1≤s.size) (hs:s.size≤2097152) :
  Calls Tryz.prog 277 #[.string s] w fun e w'=>e=.returned (.string (str (tQ (bF s.data.toList.tail))))∧Below w.heap.size w w':=by
 have h1':(1:Int)≤(s.size:Int):=by omega
 have hel:=pS s 1 s.size;have HT:=aA (rZ s);have hcl:=kK s.data.toList.tail;have hel2:s.data.toList.tail.length≤s.size:=by rw[List.length_tail,←Lib.size_eq];omega
 have h0:=qK s.data.toList.tail;obtain ⟨ns,hns⟩:∃ ns,ns=bF s.data.toList.tail:=⟨_,rfl⟩;rw[←hns]at hcl h0 ⊢;have HN:=aA hns;clear hns;go_enter Tryz.func277,Tryz.ntmps277;go_wp2_with fail
 refine (vV _ _ (by omega)).mono ?_
 rintro e w1 ⟨v,rfl,hO,hb1⟩;rw[HT.out,←HN.out]at hO;obtain ⟨va,vc,rfl⟩:=hO.shape;have HB:=aA hb1;clear hb1;have hp:=List.length_pos_iff.2 h0;obtain ⟨b,off,p,rfl,hb,hpe,hck⟩:=hO.reads.at (k:=ns.length - 1) (by omega)
 have HP:=aA (Option.some.inj (hpe.symm.trans (tE h0)));clear hpe hO;have hp':(1:Int)≤(ns.length:Int):=by omega
 have hp2:(ns.length:Int)≤4194304:=by omega
 go_wp2_with fail
 go_ret
 exact ⟨zc2 (by rw[HP.out];rfl),HB.out⟩
theorem zw4 {s t:ByteArray} (h:¬ t.size+1<s.size):bG s.data.toList t.data.toList=false:=by
 simp[bG,h]
theorem zz7 {s t:ByteArray} (h:t.size+1<s.size) (h2:((s.extract 0 t.size).toList==t.toList)=false):bG s.data.toList t.data.toList=false:=by
 rw[Lib.extract_toList,ByteArray.toList_eq,List.drop_zero,Nat.sub_zero]at h2;simp only[bG,←Lib.size_eq,h2,Bool.and_false,Bool.false_and]
theorem zx4 {s t:ByteArray} (h:t.size+1<s.size) (h2:((s.extract 0 t.size).toList==t.toList)=true):bG s.data.toList t.data.toList=((s[t.size].toNat:Int)==47):=by
 rw[Lib.extract_toList,ByteArray.toList_eq,List.drop_zero,Nat.sub_zero]at h2;have hl:t.size<s.data.toList.length:=by rw[←Lib.size_eq];omega
 have e:(s.data.toList.drop t.size).head?=some s[t.size]:=by
  rw[List.head?_drop,List.getElem?_eq_getElem hl];rfl
 simp only[bG,←Lib.size_eq,h2,h,e,decide_true,Bool.true_and];rw[Bool.eq_iff_iff];simp only[beq_iff_eq,Option.some.injEq];constructor
 ·intro h;rw[h];rfl
 ·intro h;apply UInt8.toNat_inj.1;show _=47;omega
theorem gS (s t:ByteArray) (w:World) (hs:s.size≤2097152) (ht:t.size≤2097152) :
  Calls Tryz.prog 220 #[.string s,.string t] w fun e w'=>e=.returned (.bool (bG s.data.toList t.data.toList))∧w'=w:=by
 by_cases h:t.size+1<s.size
 ·have h':(t.size:Int)+1<(s.size:Int):=by omega
  have h3:(t.size:Int)≤(s.size:Int):=by omega
  have h4:t.size<s.size:=by omega
  cases h2:((s.extract 0 t.size).toList==t.toList)
  ·have HE:=aA (zz7 h h2)
   go_enter Tryz.func220,Tryz.ntmps220;go_wp2_with fail
   go_ret
   exact ⟨dD HE.out.symm,rfl⟩
  ·have HE:=aA (zx4 h h2)
   go_enter Tryz.func220,Tryz.ntmps220;go_wp2_with fail
   go_ret
   exact ⟨dD HE.out.symm,rfl⟩
 ·have h':¬ (t.size:Int)+1<(s.size:Int):=by omega
  have HE:=aA (zw4 h);go_enter Tryz.func220,Tryz.ntmps220;go_wp2_with fail
  go_ret
  exact ⟨dD HE.out.symm,rfl⟩
def iX (p t:Bs):Bool:=decide (t∈bL p)
theorem lE {p t:Bs} (h:aF p=0):iX p t=decide (aF t=0∧bG p t=true):=by
 simp only[iX,eP h,jT h]
end Go.Proofs.YtgaeikgoknoamaaGreat
namespace Go.Proofs.YtgaeikgoknoamaaGreat
structure En where
 path:Bs
 kind:Int
 size:Int
 chunks:List Int
 deriving DecidableEq
def fO (c:Int):Bool:=decide (0≤c∧c≤4294967295)
def gR (e:En):Bool:=decide ((1≤e.kind∧e.kind≤4)∧(e.kind=1∨(e.size=0∧e.chunks.length=0)))
def kW (e:En):Bool:=decide (0≤e.size∧e.size≤24)
def lQ (e:En):Bool:=decide ((e.chunks.length:Int)=(e.size+7) / 8)
def aI (e:En):Int :=
 if aF e.path=0 then (if gR e then (if kW e then (if lQ e then (if e.chunks.all fO then 0 else 3) else 1) else 3) else 1) else aF e.path
theorem pH {e:En} (h:aF e.path≠0):aI e=aF e.path:=by simp[aI,h]
theorem gG {e:En} (h:aF e.path=0) (h1:gR e=false):aI e=1:=by simp[aI,h,h1]
theorem uR {e:En} (h:aF e.path=0) (h1:gR e=true) (h2:kW e=false):aI e=3:=by simp[aI,h,h1,h2]
theorem uQ {e:En} (h:aF e.path=0) (h1:gR e=true) (h2:kW e=true) (h3:lQ e=false):aI e=1:=by simp[aI,h,h1,h2,h3]
theorem fN {e:En} (h:aF e.path=0) (h1:gR e=true) (h2:kW e=true) (h3:lQ e=true):aI e=if e.chunks.all fO then 0 else 3:=by simp[aI,h,h1,h2,h3]
def bX (k:Int):Bool:=decide (k=2∨k=4)
def aK (es:List En) (p:Bs):Option En:=es.find? fun e=>decide (e.path=p)
def aE (p:Bs):Bs:=(bJ (bF p.tail)).getLastD []
def eI (es:List En) (p:Bs):Bool :=
 if aE p=[] then true else
  match aK es (aE p) with
  | none=>false
  | some e=>bX e.kind
def gY (prev:Option En) (e:En):Bool :=
 match prev with
 | none=>false
 | some q=>Op.bytesLess e.path q.path||(e.path==q.path)
def jR (es:List En) (prev:Option En) (e:En):Int:=if aI e=0 then (if gY prev e then 1 else if eI es e.path then 0 else 9) else aI e
def iB (es:List En):Option En→List En→Int
 | _,[]=>0
 | prev,e :: r=>if jR es prev e=0 then iB es (some e) r else jR es prev e
def cD (es:List En):Int:=if 12<es.length then 2 else iB es none es
def bW (es:List En) (i:Nat):Option En:=if i=0 then none else es[i - 1]?
theorem nO {es:List En} {i:Nat} {e:En} (h:es[i]?=some e):iB es (bW es i) (es.drop i)=if jR es (bW es i) e=0 then iB es (bW es (i+1)) (es.drop (i+1)) else jR es (bW es i) e:=by
 obtain ⟨hi,he⟩:=List.getElem?_eq_some_iff.1 h;have e1:bW es (i+1)=some e:=by simp[bW,h]
 rw[e1,List.drop_eq_getElem_cons hi,he];rfl
end Go.Proofs.YtgaeikgoknoamaaGreat
namespace Go.Proofs.YtgaeikgoknoamaaGreat
open Go.RowKit
def RdE (w:World) (a:Option Addr) (es:List En):Prop :=
 es≠[]→∃ (b off:Nat) (A:Nat→Option Addr) (C:Nat→Nat),a=some ⟨b,off,none⟩∧b<w.heap.size∧∀ i e,es[i]?=some e →
  w.cell? ⟨b,off+i * 4,none⟩=some (.string (str e.path))∧w.cell? ⟨b,off+i * 4+1,none⟩=some (.int .i64 e.kind)∧w.cell? ⟨b,off+i * 4+2,none⟩=some (.int .i64 e.size) ∧
  w.cell? ⟨b,off+i * 4+3,none⟩=some (.slice (A i) e.chunks.length (C i))∧aO .i64 w (A i) e.chunks
theorem RdE.kept {S:Nat→Prop} {w w':World} {a:Option Addr} {es:List En} (h:RdE w a es) (hk:Below w.heap.size w w'):RdE w' a es:=by
 intro hz;obtain ⟨b,off,A,C,e,hb,hc⟩:=h hz;refine ⟨b,off,A,C,e,Nat.lt_of_lt_of_le hb hk.size,fun i x hx=>?_⟩
 obtain ⟨c0,c1,c2,c3,r⟩:=hc i x hx;exact ⟨(hk.cell (p:=⟨b,off+i * 4,none⟩) hb).trans c0,(hk.cell (p:=⟨b,off+i * 4+1,none⟩) hb).trans c1,(hk.cell (p:=⟨b,off+i * 4+2,none⟩) hb).trans c2,(hk.cell (p:=⟨b,off+i * 4+3,none⟩) hb).trans c3,r.below hk⟩
theorem RdE.below {w w':World} {a:Option Addr} {es:List En} (h:RdE w a es) (hk:Below w.heap.size w w'):RdE w' a es:=h.kept (S:=fun _=>False) hk
theorem RdE.at {w:World} {a:Option Addr} {es:List En} (h:RdE w a es) {k:Nat} (hk:k<es.length) :
  ∃ b off e x c,a=some ⟨b,off,none⟩∧b<w.heap.size∧es[k]?=some e∧w.cell? ⟨b,off+k * 4,none⟩=some (.string (str e.path))∧w.cell? ⟨b,off+k * 4+1,none⟩=some (.int .i64 e.kind)∧w.cell? ⟨b,off+k * 4+2,none⟩=some (.int .i64 e.size) ∧
   w.cell? ⟨b,off+k * 4+3,none⟩=some (.slice x e.chunks.length c)∧aO .i64 w x e.chunks:=by
 obtain ⟨b,off,A,C,e,hb,hc⟩:=h (by intro e;simp[e]at hk)
 have hx:es[k]?=some es[k]:=List.getElem?_eq_getElem hk;obtain ⟨c0,c1,c2,c3,r⟩:=hc k _ hx;exact ⟨b,off,es[k],A k,C k,e,hb,hx,c0,c1,c2,c3,r⟩
def cG (es:List En):Prop:=∀ e∈es,e.path.length≤1048576∧e.chunks.length≤1048576
theorem mN (n a b:Int) (w:World) (h0:a≤n) (h1:n≤b) :
  Calls Tryz.prog 111 #[.int .i64 n,.int .i64 a,.int .i64 b] w fun e w'=>e=.returned (.bool true)∧w'=w:=by
 go_enter Tryz.func111,Tryz.ntmps111;go_wp2
 go_ret
 exact ⟨rfl,rfl⟩
theorem xE (n a b:Int) (w:World) (h:n<a∨b<n) :
  Calls Tryz.prog 111 #[.int .i64 n,.int .i64 a,.int .i64 b] w fun e w'=>e=.returned (.bool false)∧w'=w:=by
 by_cases h0:a≤n
 ·have h1:¬ n≤b:=by omega
  go_enter Tryz.func111,Tryz.ntmps111;go_wp2
  go_ret
  exact ⟨rfl,rfl⟩
 ·go_enter Tryz.func111,Tryz.ntmps111
  go_wp2
  go_ret
  exact ⟨rfl,rfl⟩
theorem vT (n:Int) (w:World):Calls Tryz.prog 153 #[.int .i64 n] w fun e w'=>e=.returned (.bool (fO n))∧w'=w:=by
 by_cases h:0≤n∧n≤4294967295
 ·have e:fO n=true:=decide_eq_true h
  rw[e];obtain ⟨h0,h1⟩:=h;go_enter Tryz.func153,Tryz.ntmps153;go_wp2_with (go_at_call 111;refine (mN _ _ _ _ h0 h1).mono ?_;rintro e w' ⟨rfl,rfl⟩)
  go_ret
  exact ⟨rfl,rfl⟩
 ·have e:fO n=false:=decide_eq_false h
  rw[e];go_enter Tryz.func153,Tryz.ntmps153;go_wp2_with (go_at_call 111;refine (xE _ _ _ _ (by omega)).mono ?_;rintro e w' ⟨rfl,rfl⟩)
  go_ret
  exact ⟨rfl,rfl⟩
def dI (w:World) (b:Nat) (u0 u1 u2 u3:Value):Prop:=w.cell? ⟨b,0,none⟩=some u0∧w.cell? ⟨b,1,none⟩=some u1∧w.cell? ⟨b,2,none⟩=some u2∧w.cell? ⟨b,3,none⟩=some u3
theorem dI.new (w:World) (u0 u1 u2 u3:Value) (t:TypeId):dI (w.alloc (.cells #[u0,u1,u2,u3] t)) w.heap.size u0 u1 u2 u3:=⟨by simp,by simp,by simp,by simp⟩
theorem dI.lt {w:World} {b:Nat} {u0 u1 u2 u3:Value} (h:dI w b u0 u1 u2 u3):b<w.heap.size:=World.block_lt_of_cell? w ⟨b,0,none⟩ h.1
theorem dI.below {w w':World} {b:Nat} {u0 u1 u2 u3:Value} (h:dI w b u0 u1 u2 u3) (hk:Below w.heap.size w w'):dI w' b u0 u1 u2 u3 :=
 ⟨(hk.cell (p:=⟨b,0,none⟩) h.lt).trans h.1,(hk.cell (p:=⟨b,1,none⟩) h.lt).trans h.2.1,(hk.cell (p:=⟨b,2,none⟩) h.lt).trans h.2.2.1,(hk.cell (p:=⟨b,3,none⟩) h.lt).trans h.2.2.2⟩
theorem zz2 (n:Int) (w:World) (h0:0≤n) (h1:n≤24):Calls Tryz.prog 203 #[.int .i64 n] w fun e w'=>e=.returned (.int .i64 ((n+7) / 8))∧w'=w:=by
 have e:(n+7) / 8=(n+8 - 1).tdiv 8:=by rw[Int.tdiv_eq_ediv_of_nonneg (by omega)];congr 1;omega
 rw[e];go_enter Tryz.func203,Tryz.ntmps203;go_wp2
 go_ret
 exact ⟨rfl,rfl⟩
theorem lK (e:En) (x:Option Addr) (c n:Nat) (w:World) (h:aO .i64 w x e.chunks) (hn:n=e.chunks.length) (hp:e.path.length≤1048576) (hc:e.chunks.length≤1048576) :
  Calls Tryz.prog 160 #[.agg #[.string (str e.path),.int .i64 e.kind,.int .i64 e.size,.slice x n c]] w fun r w'=>r=.returned (.int .i64 (aI e))∧Below w.heap.size w w':=by
 subst hn;have HR:=aA h;clear h;have HN:=aA (aC w (.cells #[.string (str e.path),.int .i64 e.kind,.int .i64 e.size,.slice x e.chunks.length c] 87));have HB:=aA (dI.new w (.string (str e.path)) (.int .i64 e.kind) (.int .i64 e.size) (.slice x e.chunks.length c) 87);by_cases hf:aF e.path=0
 ·go_enter Tryz.func160,Tryz.ntmps160
  go_wp2_with fail
  refine (sH _ _ (by rw[aP];omega)).mono ?_
  rintro r w1 ⟨rfl,hb1⟩;rw[bD,hf];have HB1:=aA (aB HN.out hb1);have HR1:=aA (HR.out.below HB1.out);have hB:=HB.out.below hb1;clear HB HR HN hb1;obtain ⟨c0,c1,c2,c3⟩:=hB;generalize w.heap.size=bk at c0 c1 c2 c3 ⊢;by_cases hk:1≤e.kind∧e.kind≤4
  ·by_cases hk1:e.kind=1
   ·have hfm:gR e=true:=decide_eq_true ⟨hk,Or.inl hk1⟩
    have hkn:(e.kind != 1)=false:=by simp[hk1]
    have HK:=aA hk1;clear hk1;have HI:=aA (mN e.kind 1 4 w1 hk.1 hk.2);by_cases hz:0≤e.size∧e.size≤24
    ·have HZ:=aA (mN e.size 0 24 w1 hz.1 hz.2)
     have HFo:=aA (fun u=>zz2 e.size u hz.1 hz.2)
     by_cases hm:(e.chunks.length:Int)=(e.size+7) / 8
     ·have HE:=aA (fN hf hfm (decide_eq_true hz) (decide_eq_true hm))
      have hmn:((e.chunks.length:Int) != (e.size+7) / 8)=false:=by simp;exact hm
      clear hfm hf hm;go_wp2_with fail
      refine HI.out.mono ?_;rintro r w' ⟨rfl,rfl⟩;go_wp2_with fail
      refine HZ.out.mono ?_;rintro r w' ⟨rfl,rfl⟩;go_wp2_with fail
      go_region_held3 (fun w'=>w'.cell? ⟨bk,2,none⟩=some (.int .i64 e.size)∧w'.cell? ⟨bk,3,none⟩=some (.slice x e.chunks.length c)) (first | trivial | go_keep)
       ((
        first
        | (go_at_call 203;refine (HFo.out _).mono ?_;rintro r w' ⟨rfl,rfl⟩)))
      go_wp2_with fail
      clear hmn;have d3:w'.drew.cell? ⟨bk,3,none⟩=some (.slice x e.chunks.length c):=c3;have HR2:=aA (HR1.out.below (Below.refl w'.heap.size w').drew);have HB2:=aA HB1.out.drew;clear c0 c1 c2 c3 HR1 HB1 HI HZ;generalize w'.drew=W at *;go_loop [4] (fun i=>∃ k:Nat,k≤e.chunks.length∧i=.int .i64 k∧Hid ((e.chunks.take k).all fO=true)) (fun i=>e.chunks.length - (intOf i).toNat)
      case atStart=>exact ⟨0,Nat.zero_le _,rfl,aA (by simp)⟩
      case round =>
       obtain ⟨k,hk,rfl,HA⟩:=hrel;by_cases hlt:k<e.chunks.length
       ·obtain ⟨b,off,rfl,hb1,hcc⟩:=HR2.out (by intro e;simp[e]at hlt)
        have hc1:=hcc k hlt;have hzk:e.chunks[k]?=some (e.chunks.getD k 0):=by rw[List.getD_eq_getElem?_getD,List.getElem?_eq_getElem hlt];rfl
        generalize e.chunks.getD k 0=z at hc1 hzk;have HZ:=aA hzk;clear hcc hzk;cases hd:fO z
        ·have HX:=aA (show e.chunks.all fO=false from by rw[List.all_eq_false];exact ⟨z,List.mem_of_getElem? HZ.out,by simp[hd]⟩)
         have HD:=aA hd;clear hd;go_wp2_with fail
         refine (vT _ _).mono ?_;rintro r w'' ⟨rfl,rfl⟩;rw[HD.out];go_wp2_with fail
         go_ret
         exact ⟨aM (by rw[HE.out,HX.out];rfl),HB2.out⟩
        ·have HX:=aA (show (e.chunks.take (k+1)).all fO=true from by rw[cT HZ.out];simp[HA.out,hd])
         have HD:=aA hd;clear hd;go_wp2_with fail
         refine (vT _ _).mono ?_;rintro r w'' ⟨rfl,rfl⟩;rw[HD.out];go_wp2_with fail
         go_round
         case rel=>exact ⟨k+1,by omega,by go_num,HX⟩
         case measure=>simp[intOf];omega
       ·have HX:=aA (show e.chunks.all fO=true from by have:=HA.out;rwa [List.take_of_length_le (by omega)]at this)
        go_wp2_with fail
        go_ret
        exact ⟨aM (by rw[HE.out,HX.out];rfl),HB2.out⟩
     ·have HE:=aA (uQ hf hfm (decide_eq_true hz) (decide_eq_false hm))
      have hmn:((e.chunks.length:Int) != (e.size+7) / 8)=true:=by simp;exact hm
      clear hfm hf hm;go_wp2_with fail
      refine HI.out.mono ?_;rintro r w' ⟨rfl,rfl⟩;go_wp2_with fail
      refine HZ.out.mono ?_;rintro r w' ⟨rfl,rfl⟩;go_wp2_with fail
      go_region_held3 (fun w'=>w'.cell? ⟨bk,2,none⟩=some (.int .i64 e.size)∧w'.cell? ⟨bk,3,none⟩=some (.slice x e.chunks.length c)) (first | trivial | go_keep)
       ((
        first
        | (go_at_call 203;refine (HFo.out _).mono ?_;rintro r w' ⟨rfl,rfl⟩)))
      go_wp2_with fail
      go_ret
      exact ⟨aM HE.out.symm,HB1.out.drew⟩
    ·have HZ:=aA (xE e.size 0 24 w1 (by omega))
     have HE:=aA (uR hf hfm (decide_eq_false hz));clear hfm hf;go_wp2_with fail
     refine HI.out.mono ?_;rintro r w' ⟨rfl,rfl⟩;go_wp2_with fail
     refine HZ.out.mono ?_;rintro r w' ⟨rfl,rfl⟩;go_wp2_with fail
     go_ret
     exact ⟨aM HE.out.symm,HB1.out⟩
   ·have hkn:(e.kind != 1)=true:=by simp;exact hk1
    have HI:=aA (mN e.kind 1 4 w1 hk.1 hk.2);by_cases hz:e.size=0
    ·have hzn:(e.size != 0)=false:=by simp;exact hz
     by_cases hl:e.chunks.length=0
     ·have HE:=aA (show aI e=0 from by
       have e0:e.chunks=[]:=List.length_eq_zero_iff.1 hl;rw[fN hf (decide_eq_true ⟨hk,Or.inr ⟨hz,hl⟩⟩) (decide_eq_true (by omega)) (decide_eq_true (by rw[hl,hz];rfl)),e0];rfl)
      have hl0:¬ (0:Int)<(e.chunks.length:Int):=by omega
      have HZ:=aA (mN e.size 0 24 w1 (by omega) (by omega))
      have HFo:=aA (fun u=>zz2 e.size u (by omega) (by omega))
      have hmn:((e.chunks.length:Int) != (e.size+7) / 8)=false:=by rw[hl,hz];rfl
      clear hf hl hz hk1;go_wp2_with fail
      refine HI.out.mono ?_;rintro r w' ⟨rfl,rfl⟩;go_wp2_with fail
      refine HZ.out.mono ?_;rintro r w' ⟨rfl,rfl⟩;go_wp2_with fail
      go_region_held3 (fun w'=>w'.cell? ⟨bk,2,none⟩=some (.int .i64 e.size)∧w'.cell? ⟨bk,3,none⟩=some (.slice x e.chunks.length c)) (first | trivial | go_keep)
       ((
        first
        | (go_at_call 203;refine (HFo.out _).mono ?_;rintro r w' ⟨rfl,rfl⟩)))
      go_wp2_with fail
      have d3:w'.drew.cell? ⟨bk,3,none⟩=some (.slice x e.chunks.length c):=c3;have HB2:=aA HB1.out.drew;clear c0 c1 c2 c3 HR1 HB1 HI HZ hmn;generalize w'.drew=W at *;go_rounds 1
      go_ret
      exact ⟨aM HE.out.symm,HB2.out⟩
     ·have HE:=aA (gG hf (decide_eq_false (fun h=>h.2.elim hk1 (fun h=>hl h.2))))
      have hl0:(0:Int)<(e.chunks.length:Int):=by omega
      clear hf hl hz hk1;go_wp2_with fail
      refine HI.out.mono ?_;rintro r w' ⟨rfl,rfl⟩;go_wp2_with fail
      go_ret
      exact ⟨aM HE.out.symm,HB1.out⟩
    ·have HE:=aA (gG hf (decide_eq_false (fun h=>h.2.elim hk1 (fun h=>hz h.1))))
     have hzn:(e.size != 0)=true:=by simp;exact hz
     clear hf hz hk1;go_wp2_with fail
     refine HI.out.mono ?_;rintro r w' ⟨rfl,rfl⟩;go_wp2_with fail
     go_ret
     exact ⟨aM HE.out.symm,HB1.out⟩
  ·have HE:=aA (gG hf (decide_eq_false (fun h=>hk h.1)))
   have HI:=aA (xE e.kind 1 4 w1 (by omega))
   clear hf;go_wp2_with fail
   refine HI.out.mono ?_;rintro r w' ⟨rfl,rfl⟩;go_wp2_with fail
   go_ret
   exact ⟨aM HE.out.symm,HB1.out⟩
 ·rw[pH hf]
  go_enter Tryz.func160,Tryz.ntmps160;go_wp2_with fail
  refine (sH _ _ (by rw[aP];omega)).mono ?_
  rintro r w1 ⟨rfl,hb1⟩;rw[bD];have HB1:=aA (aB HN.out hb1);clear hb1 HN HB HR;go_wp2_with fail
  go_ret
  exact ⟨rfl,HB1.out⟩
end Go.Proofs.YtgaeikgoknoamaaGreat
namespace Go.Proofs.YtgaeikgoknoamaaGreat
open Go.RowKit Go.Shelf
def Tryz.cloneA_ren:Go.Shelf.Ren:=⟨fun | 316=>122 | n=>n,fun | 9=>9 | 3=>3 | 4=>4 | 37=>22 | 0=>0 | 127=>226 | 5=>5 | n=>n,fun | n=>n⟩
theorem Tryz.cloneA:Go.Proofs.LaysM.n316 Tryz.prog Tryz.cloneA_ren:={
 mixed:=by kernel_rfl
 f316:=Tryz.func122.trans (congrArg some (by kernel_rfl))
 t0:=Tryz.underlying0
 a0:=Tryz.isAgg0
 z0:=Tryz.sizeOf0
 v0:=Tryz.zeroValue0
 t3:=Tryz.underlying3
 a3:=Tryz.isAgg3
 z3:=Tryz.sizeOf3
 v3:=Tryz.zeroValue3
 t4:=Tryz.underlying4
 a4:=Tryz.isAgg4
 z4:=Tryz.sizeOf4
 v4:=Tryz.zeroValue4
 t9:=Tryz.underlying9
 a9:=Tryz.isAgg9
 z9:=Tryz.sizeOf9
 v9:=Tryz.zeroValue9
 t37:=Tryz.underlying22
 a37:=Tryz.isAgg22
 z37:=Tryz.sizeOf22
 v37:=Tryz.zeroValue22
 t127:=Tryz.underlying226
 a127:=Tryz.isAgg226
 z127:=Tryz.sizeOf226
 v127:=Tryz.zeroValue226
 t5:=Tryz.underlying5
 a5:=Tryz.isAgg5
 z5:=Tryz.sizeOf5
 v5:=Tryz.zeroValue5
 i0:=by kernel_rfl
 i3:=by kernel_rfl
 i4:=by kernel_rfl
 i5:=by kernel_rfl
 i9:=by kernel_rfl
 i37:=by kernel_rfl
 i127:=by kernel_rfl }
def Tryz.indexA_ren:Go.Shelf.Ren:=⟨fun | 219=>274 | 217=>279 | 225=>280 | 224=>281 | 267=>282 | 266=>284 | 314=>285 | n=>n,fun | 9=>9 | 3=>3 | 4=>4 | 5=>5 | 46=>229 | 146=>314 | 51=>217 | n=>n,fun | 1=>0 | n=>n⟩
theorem Tryz.indexA:Go.Proofs.Lays.n219 Tryz.prog Tryz.indexA_ren:={
 mixed:=by kernel_rfl
 f217:=Tryz.func279.trans (congrArg some (by kernel_rfl))
 f219:=Tryz.func274.trans (congrArg some (by kernel_rfl))
 f224:=Tryz.func281.trans (congrArg some (by kernel_rfl))
 f225:=Tryz.func280.trans (congrArg some (by kernel_rfl))
 f266:=Tryz.func284.trans (congrArg some (by kernel_rfl))
 f267:=Tryz.func282.trans (congrArg some (by kernel_rfl))
 f314:=Tryz.func285.trans (congrArg some (by kernel_rfl))
 t3:=Tryz.underlying3
 a3:=Tryz.isAgg3
 z3:=Tryz.sizeOf3
 v3:=Tryz.zeroValue3
 t4:=Tryz.underlying4
 a4:=Tryz.isAgg4
 z4:=Tryz.sizeOf4
 v4:=Tryz.zeroValue4
 t5:=Tryz.underlying5
 a5:=Tryz.isAgg5
 z5:=Tryz.sizeOf5
 v5:=Tryz.zeroValue5
 t9:=Tryz.underlying9
 a9:=Tryz.isAgg9
 z9:=Tryz.sizeOf9
 v9:=Tryz.zeroValue9
 t46:=Tryz.underlying229
 a46:=Tryz.isAgg229
 z46:=Tryz.sizeOf229
 v46:=Tryz.zeroValue229
 t51:=Tryz.underlying217
 a51:=Tryz.isAgg217
 z51:=Tryz.sizeOf217
 v51:=Tryz.zeroValue217
 t146:=Tryz.underlying314
 a146:=Tryz.isAgg314
 z146:=Tryz.sizeOf314
 v146:=Tryz.zeroValue314
 g1:=by kernel_rfl }
def Tryz.prefixA_ren:Go.Shelf.Ren:=⟨fun | 103=>213 | 210=>245 | 206=>262 | n=>n,fun | 9=>9 | 4=>4 | 24=>257 | 3=>3 | n=>n,fun | n=>n⟩
theorem Tryz.prefixA:Go.Proofs.Lays.n103 Tryz.prog Tryz.prefixA_ren:={
 mixed:=by kernel_rfl
 f103:=Tryz.func213.trans (congrArg some (by kernel_rfl))
 f206:=Tryz.func262.trans (congrArg some (by kernel_rfl))
 f210:=Tryz.func245.trans (congrArg some (by kernel_rfl))
 t3:=Tryz.underlying3
 a3:=Tryz.isAgg3
 z3:=Tryz.sizeOf3
 v3:=Tryz.zeroValue3
 t4:=Tryz.underlying4
 a4:=Tryz.isAgg4
 z4:=Tryz.sizeOf4
 v4:=Tryz.zeroValue4
 t9:=Tryz.underlying9
 a9:=Tryz.isAgg9
 z9:=Tryz.sizeOf9
 v9:=Tryz.zeroValue9
 t24:=Tryz.underlying257
 a24:=Tryz.isAgg257
 z24:=Tryz.sizeOf257
 v24:=Tryz.zeroValue257 }
end Go.Proofs.YtgaeikgoknoamaaGreat
namespace Go.Proofs.YtgaeikgoknoamaaGreat
open Go.RowKit
theorem vO (s:ByteArray) (w:World) :
  Calls Tryz.prog 274 #[.string s,.string ⟨#[47]⟩] w fun e w'=>e=.returned (.int .i64 (Lib.indexByte s.data.toList 47))∧w'=w :=
 Any.stringslite_Index_one Tryz.indexA s 47 w
theorem zac {l:Bs} (h:(47:UInt8)∉l):Lib.indexByte l 47 = -1:=by
 induction l with
 | nil=>rfl
 | cons c l ih =>
  have h1:¬ c=47:=fun e=>h (by simp[e])
  have h2:(47:UInt8)∉l:=fun e=>h (by simp[e])
  simp[Lib.indexByte,h1,ih h2]
theorem zue {a:Bs} (b:Bs) (h:(47:UInt8)∉a):Lib.indexByte (a++47 :: b) 47=a.length:=by
 induction a with
 | nil=>simp[Lib.indexByte]
 | cons c a ih =>
  have h1:¬ c=47:=fun e=>h (by simp[e])
  have h2:(47:UInt8)∉a:=fun e=>h (by simp[e])
  have ih:=ih h2;simp only[List.cons_append,Lib.indexByte,ih];have:((a.length:Int) == -1)=false:=by simp
  simp[h1,this]
theorem ze5 (l:Bs) (w:World) (h:(47:UInt8)∉l) :
  Calls Tryz.prog 263 #[.string (str l),.string ⟨#[47]⟩] w fun e w'=>e=.returned (.tuple #[.string (str l),.string ⟨#[]⟩,.bool false])∧∃ n,w'=w.drewN n:=by
 have HI:=aA (zac h);go_enter Tryz.func263,Tryz.ntmps263;go_wp2_with (go_at_call 274;refine (vO _ _).mono ?_;rintro e w' ⟨rfl,rfl⟩;rw[bD,HI.out])
 go_ret3
 exact ⟨rfl,0,rfl⟩
theorem zsg (l:Bs) (w:World) (h:(47:UInt8)∉l) :
  Calls Tryz.prog 247 #[.string (str l),.string ⟨#[47]⟩] w fun e w'=>e=.returned (.tuple #[.string (str l),.string ⟨#[]⟩,.bool false])∧∃ n,w'=w.drewN n:=by
 go_enter Tryz.func247,Tryz.ntmps247;go_wp2_with (go_at_call 263;refine (ze5 _ _ h).mono ?_;rintro e w' ⟨rfl,n,rfl⟩)
 go_ret3
 exact ⟨rfl,n,rfl⟩
theorem zc8 (a b:Bs) (w:World) (h:(47:UInt8)∉a) (hl:a.length≤9223372036854775806) :
  Calls Tryz.prog 263 #[.string (str (a++47 :: b)),.string ⟨#[47]⟩] w fun e w'=>e=.returned (.tuple #[.string (str a),.string (str b),.bool true])∧∃ n,w'=w.drewN n:=by
 have HI:=aA (zue b h);have c0:(0:Int)≤a.length:=by omega
 have c1:(a.length:Int)≤((str (a++47 :: b)).size:Int):=by rw[aP];simp;omega
 have c2:(a.length:Int)+1≤((str (a++47 :: b)).size:Int):=by rw[aP];simp;omega
 have HA:=aA (show (str (a++47 :: b)).extract 0 a.length=str a by rw[Lib.extract_eq,bD];simp[str])
 have HB:=aA (show (str (a++47 :: b)).extract (a.length+1) (str (a++47 :: b)).size=str b by rw[Lib.extract_eq,bD,aP,show (a++47 :: b).drop (a.length+1)=b by simp,List.take_of_length_le (by simp;omega)];rfl)
 have hm:(a.length:Int)≤9223372036854775806:=by omega
 generalize hx:str (a++47 :: b)=x at *;have HX:=aA hx;clear hx;go_enter Tryz.func263,Tryz.ntmps263;go_wp2_with (go_at_call 274;refine (vO _ _).mono ?_;rintro e w' ⟨rfl,rfl⟩;rw[←HX.out,bD,HI.out,HX.out])
 go_region
 go_wp2
 go_ret3
 exact ⟨by rw[HA.out,HB.out];rfl,1,rfl⟩
theorem zlj (a b:Bs) (w:World) (h:(47:UInt8)∉a) (hl:a.length≤9223372036854775806) :
  Calls Tryz.prog 247 #[.string (str (a++47 :: b)),.string ⟨#[47]⟩] w fun e w'=>e=.returned (.tuple #[.string (str a),.string (str b),.bool true])∧∃ n,w'=w.drewN n:=by
 go_enter Tryz.func247,Tryz.ntmps247;go_wp2_with (go_at_call 263;refine (zc8 _ _ _ h hl).mono ?_;rintro e w' ⟨rfl,n,rfl⟩)
 go_ret3
 exact ⟨rfl,n,rfl⟩
theorem zg1 {l r:Bs} (h:l=47 :: r):Lib.hasPrefix l [47]=true∧Lib.trimPrefix l [47]=r:=by
 subst h;have e:Lib.hasPrefix (47 :: r) [47]=true:=by simp[Lib.hasPrefix]
 exact ⟨e,by simp[Lib.trimPrefix,e]⟩
theorem zpf {l:Bs} (h:∀ r,l≠47 :: r):Lib.hasPrefix l [47]=false:=by
 cases l with
 | nil=>rfl
 | cons c r =>
  have hc:c≠47:=fun e=>h r (by rw[e])
  have:((47:UInt8)==c)=false:=by simpa using Ne.symm hc
  simp only[Lib.hasPrefix,List.isPrefixOf,this,Bool.false_and]
theorem zi4 (s:ByteArray) (r:Bs) (w:World) (h:s.data.toList=47 :: r) :
  Calls Tryz.prog 213 #[.string s,.string ⟨#[47]⟩] w fun e w'=>e=.returned (.tuple #[.string (str r),.bool true])∧w'=w:=by
 have:=Any.strings_CutPrefix Tryz.prefixA s ⟨#[47]⟩ w;have e1:=(zg1 h).1;have e2:=(zg1 h).2;simp only[e1,e2]at this;exact this
theorem zf5 (s:ByteArray) (w:World) (h:∀ r,s.data.toList≠47 :: r) :
  Calls Tryz.prog 213 #[.string s,.string ⟨#[47]⟩] w fun e w'=>(∃ x,e=.returned (.tuple #[.string x,.bool false]))∧w'=w:=by
 have:=Any.strings_CutPrefix Tryz.prefixA s ⟨#[47]⟩ w;have e1:=zpf h;simp only[e1]at this;exact this.mono fun e w' ⟨h1,h2⟩=>⟨⟨_,h1⟩,h2⟩
theorem vG (s:ByteArray) (w:World) (hl:s.size≤281474976710656) :
  Calls Tryz.prog 70 #[.string s] w fun e w'=>e=.returned (.string s)∧Below w.heap.size w w':=by
 have H:=aA (fun w=>Any.stringslite_Clone Tryz.cloneA s w hl)
 go_enter Tryz.func70,Tryz.ntmps70;go_wp2_with fail
 refine (H.out _).mono ?_;rintro e w1 ⟨rfl,hb1⟩;go_wp2_with fail
 go_ret
 exact ⟨rfl,hb1⟩
end Go.Proofs.YtgaeikgoknoamaaGreat
namespace Go.Proofs.YtgaeikgoknoamaaGreat
open Go.RowKit Go.Shelf
attribute [local go_sem] Oper.semAt_some
abbrev Pc:={ p:Bs // p.length≤2097152 }
def pcs (ps:List Pc):List Bs:=ps.map Subtype.val
theorem iJ (ps:List Pc) (x:Pc):pcs (ps ++ [x])=pcs ps ++ [x.1]:=by simp[pcs]
theorem qH (ps:List Pc):(pcs ps).length=ps.length:=by simp[pcs]
def zil:Value→Nat
 | .string s=>s.size
 | _=>0
def zab:Value→Nat
 | .bool true=>1
 | _=>0
theorem yE (w:World) (n:Nat):w.grownBy (w.drewN n) none:=⟨rfl,rfl,rfl,Nat.le_refl _,fun _ _ _=>rfl⟩
theorem zyd (r:Bs):(47:UInt8)∉r∨∃ a b,r=a++47 :: b∧(47:UInt8)∉a:=by
 induction r with
 | nil=>exact .inl (by simp)
 | cons c r ih =>
  by_cases hc:c=47
  ·exact .inr ⟨[],r,by simp[hc],by simp⟩
  ·rcases ih with h | ⟨a,b,h,ha⟩
   ·exact .inl (by simp[h,Ne.symm hc])
   ·exact .inr ⟨c :: a,b,by simp[h],by simp[ha,Ne.symm hc]⟩
theorem zuc (n:Nat) (l Bn n₀:Nat) (t:Bs) (ht:t.length≤2097152) (J Jx:List Pc→World→Prop) (B:Nat) (hJ:AbidesFrom B J)
  (hY:∀ (pre:List Pc) (x:Pc) W,J pre W→pre.length<(bF t).length→YieldAt Fence.wide (n - 1) Tryz.prog l #[.string (str x.1)] W fun e W' =>
   (e=.returned (.bool true)∧J (pre ++ [x]) W'∧Below n₀ W W')∨(e=.returned (.bool false)∧Jx (pre ++ [x]) W'))
  (W:World) (hBn:W.cell? ⟨Bn,0,none⟩=some (.string (str t))) (h0:J [] W) :
  CallsIn Fence.wide n Tryz.prog 246 #[.func (.yield l) #[] #[],.pointer (some ⟨Bn,0,none⟩)] W fun e W'=>(∃ v,e=.returned v) ∧
   ((∃ ys,pcs ys=bF t∧J ys W')∨(∃ pre,pcs pre <+: bF t∧Jx pre W')):=by
 refine callsIn_of_wp Tryz.func246 rfl trivial ?_ rfl;simp only[Tryz.ntmps246,List.size_toArray,List.length_cons,List.length_nil,Nat.reduceAdd,Nat.reduceSub,Array.replicate_succ,Array.replicate_zero,List.push_toArray,List.append_toArray,List.nil_append,List.cons_append];gi_wp2
 gi_loopw [3,4] (fun r m wr=>∃ (pre:List Pc) (q:Bs) (more:Bool),r=.string (str q)∧m=.bool more∧q.length≤2097152∧Hid (bF t=pcs pre++(if more then bF q else []))∧Hid (J pre wr)) (fun r m _=>zab m * (zil r+1))
 case atStart=>exact ⟨[],t,true,rfl,rfl,ht,aA rfl,aA h0⟩
 case round =>
  obtain ⟨pre,q,more,rfl,rfl,hq,HC,HJ⟩:=hrel;cases more with
  | false =>
   gi_wp2
   go_end0
   exact ⟨⟨_,rfl⟩,.inl ⟨pre,by have:=HC.out;simpa using this.symm,HJ.out⟩⟩
  | true =>
   have HC':=aA (show bF t=pcs pre++bF q from HC.out)
   rcases zyd q with hm | ⟨a,b,hqe,ha⟩
   ·have HE:=aA (zm2 hm)
    have hlen:pre.length<(bF t).length:=by rw[HC'.out,HE.out];simp[pcs]
    gi_wp2_with fail
    refine ⟨trivial,fun h=>(by cases h),?_⟩
    refine (callsIn_wide.2 (zsg q _ hm)).mono ?_;rintro e w' ⟨rfl,k,rfl⟩;obtain ⟨fn,tmps,assign,body,hy,hR⟩:=hY pre ⟨q,hq⟩ (wr.drewN k) (hJ _ _ _ none HJ.out (yE _ _) (fun r e=>by cases e)) hlen
    dsimp only at hy
    gi_wp2_with fail
    refine ⟨fun h=>(by cases h),hR.mono ?_⟩
    clear hR hy;rintro e W3 (⟨rfl,hJ3,hk3⟩ | ⟨rfl,hJx3⟩)
    ·have H3:=aA hJ3
     clear hJ3 hk3;gi_wp2_with fail
     go_roundw
     case rel=>exact ⟨pre ++ [⟨q,hq⟩],[],false,rfl,rfl,by simp,aA (by rw[HC'.out,HE.out,iJ];simp),H3⟩
     case measure=>simp[zab]
    ·have H3:=aA hJx3
     clear hJx3;gi_wp2_with fail
     refine bodyPost_ret (results_none rfl _ _ _) rfl ?_;exact ⟨⟨_,rfl⟩,.inr ⟨pre ++ [⟨q,hq⟩],⟨[],by rw[HC'.out,HE.out,iJ];simp⟩,H3.out⟩⟩
   ·have hql:q.length=a.length+(b.length+1):=by rw[hqe];simp
    have hal:a.length≤2097152:=by omega
    have HE:=aA (show bF q=a :: bF b by rw[hqe];exact zd5 b ha)
    have hlen:pre.length<(bF t).length:=by rw[HC'.out,HE.out];simp[pcs]
    have HQ:=aA (zlj a b wr ha (by omega))
    rw[←hqe]at HQ;have hbl:b.length<q.length:=by omega
    clear hqe hql;gi_wp2_with fail
    refine ⟨trivial,fun h=>(by cases h),?_⟩
    refine (callsIn_wide.2 HQ.out).mono ?_;rintro e w' ⟨rfl,k,rfl⟩;obtain ⟨fn,tmps,assign,body,hy,hR⟩:=hY pre ⟨a,hal⟩ (wr.drewN k) (hJ _ _ _ none HJ.out (yE _ _) (fun r e=>by cases e)) hlen
    dsimp only at hy
    gi_wp2_with fail
    refine ⟨fun h=>(by cases h),hR.mono ?_⟩
    clear hR hy;rintro e W3 (⟨rfl,hJ3,hk3⟩ | ⟨rfl,hJx3⟩)
    ·have H3:=aA hJ3
     clear hJ3 hk3;gi_wp2_with fail
     go_roundw
     case rel=>exact ⟨pre ++ [⟨a,hal⟩],b,true,rfl,rfl,by omega,aA (by rw[HC'.out,HE.out,iJ];simp),H3⟩
     case measure=>simp[zab,zil,aP];omega
    ·have H3:=aA hJx3
     clear hJx3;gi_wp2_with fail
     refine bodyPost_ret (results_none rfl _ _ _) rfl ?_;exact ⟨⟨_,rfl⟩,.inr ⟨pre ++ [⟨a,hal⟩],⟨bF b,by rw[HC'.out,HE.out,iJ];simp⟩,H3.out⟩⟩
theorem yO (s:ByteArray) (w:World) :
  Calls Tryz.prog 214 #[.string s] w fun e w'=>e=.returned (.func (.func 246) #[] #[.pointer (some ⟨w.heap.size,0,none⟩)])∧w'=w.alloc (.cells #[.string s] 9):=by
 go_enter Tryz.func214,Tryz.ntmps214;go_wp2
 go_ret
 exact ⟨rfl,rfl⟩
theorem wF (n:Nat) (Bn n₀:Nat) (t:Bs) (ht:t.length≤2097152) (w:World) (hBn:Bn<w.heap.size) (hc:w.cell? ⟨Bn,0,none⟩=some (.string (str t))) :
  SeqStopsK Fence.wide n Tryz.prog 246 #[.pointer (some ⟨Bn,0,none⟩)] (fun x:Pc=>#[Value.string (str x.1)]) (Below n₀) (fun ys=>pcs ys=bF t) (fun pre=>pcs pre <+: bF t) (bF t).length w:=fun l J Jx W hW hJ _ hY h0 =>
 zuc n l Bn n₀ t ht J Jx _ hJ hY W ((hW.cell (p:=⟨Bn,0,none⟩) hBn).trans hc) h0
theorem sB {n:Nat} {P:Program} {c:Code} {Q:Exit→Act→World→Prop} {a:Act} {w:World} (h:c.wpIn Fence.wide n P (Exit.noGoto Q) a w):(Code.scope c).wpIn Fence.wide n P Q a w :=
 wpIn_wide.2 (wp_scope_straight (wpIn_wide.1 h))
theorem zjb {l:Bs} (h:∀ r,l≠47 :: r):aF l=5:=by
 cases l with
 | nil=>rfl
 | cons c r =>
  have hc:c≠47:=fun e=>h r (by rw[e])
  simp[aF,hc]
theorem zq7 (l:Bs):(∃ r,l=47 :: r)∨∀ r,l≠47 :: r:=by
 by_cases h:∃ r,l=47 :: r
 ·exact .inl h
 ·exact .inr fun r e=>h ⟨r,e⟩
def cd (ps:List Bs):Int:=if ps.all (fun n=>decide (n.length≤4))&&decide (ps.length≤3) then 0 else 2
theorem zrd (ps:List Bs) (x:Bs) (h:4<x.length∨3<ps.length+1):cd (ps ++ [x])=2:=by
 have:((ps ++ [x]).all (fun n=>decide (n.length≤4))&&decide ((ps ++ [x]).length≤3))=false:=by
  rw[Bool.and_eq_false_iff];rcases h with h | h
  ·left;simp;intro _;omega
  ·right;simp;omega
 simp only[cd,this];rfl
theorem zhj (ps:List Bs) (x:Bs) (h:¬ 4<x.length) (h2:¬ 3<ps.length+1):cd (ps ++ [x])=cd ps:=by
 have e1:decide (x.length≤4)=true:=by simp;omega
 have e2:decide ((ps ++ [x]).length≤3)=true:=by simp;omega
 have e3:decide (ps.length≤3)=true:=by simp;omega
 simp only[cd,List.all_append,List.all_cons,List.all_nil,e1,e2,e3,Bool.and_true]
theorem zrg {ns:List Bs} (h:ns.all dX=true):eR ns=cd ns:=by simp only[eR,h,if_true,cd]
theorem zc0 {ns ps:List Bs} (h:ps <+: ns) (hp:ps.all dX=false):eR ns=5:=by
 obtain ⟨q,rfl⟩:=h;simp[eR,hp]
theorem zD (s:ByteArray) (w:World) (h:∀ r,s.data.toList≠47 :: r) :
  Calls Tryz.prog 173 #[.string s] w fun e w'=>e=.returned (.int .i64 5)∧Below w.heap.size w w':=by
 refine (callsIn_wide (n:=4)).1 ?_;refine callsIn_of_wp_marks Tryz.func173 rfl trivial ?_ rfl;simp only[Tryz.ntmps173,List.size_toArray,List.length_cons,List.length_nil,Nat.reduceAdd,Nat.reduceSub,Array.replicate_succ,Array.replicate_zero,List.push_toArray,List.append_toArray,List.nil_append,List.cons_append];gi_wp2_with fail
 refine sB ?_;gi_wp2_with fail
 refine ⟨trivial,?_⟩;refine (callsIn_wide.2 (zf5 s _ h)).mono ?_;rintro e w' ⟨⟨x,rfl⟩,rfl⟩;gi_wp2_with fail
 exact ⟨_,results_tmp rfl _ _ _,rfl,Below.refl _ _⟩
theorem xP (s:ByteArray) (r:Bs) (w:World) (h:s.data.toList=47 :: r) (hs:s.size≤2097152) :
  Calls Tryz.prog 173 #[.string s] w fun e w'=>e=.returned (.int .i64 (eR (bF r)))∧Below w.heap.size w w':=by
 refine (callsIn_wide (n:=4)).1 ?_;refine callsIn_of_wp_marks Tryz.func173 rfl trivial ?_ rfl;simp only[Tryz.ntmps173,List.size_toArray,List.length_cons,List.length_nil,Nat.reduceAdd,Nat.reduceSub,Array.replicate_succ,Array.replicate_zero,List.push_toArray,List.append_toArray,List.nil_append,List.cons_append];gi_wp2_with fail
 refine sB ?_;gi_wp2_with fail
 refine ⟨trivial,?_⟩;refine (callsIn_wide.2 (zi4 s r _ h)).mono ?_;rintro e w' ⟨rfl,rfl⟩;gi_wp2_with fail
 refine wpIn_label ?_;gi_wp2_with fail
 refine ⟨trivial,?_⟩;refine (callsIn_wide.2 (yO _ _)).mono ?_;rintro e w1 ⟨rfl,rfl⟩;gi_wp2_with fail
 have hrl:r.length≤2097152:=by have:=congrArg List.length h;rw[←Lib.size_eq]at this;simp at this;omega
 have hcl:=kK r;have bC:=Boxed.new w' 2 (.int .i64 0);have bN:=Boxed.new (w'.alloc (.cells #[.int .i64 0] 2)) 3 (.int .i64 0);have bT:=Boxed.new ((w'.alloc (.cells #[.int .i64 0] 2)).alloc (.cells #[.int .i64 0] 3)) 9 (.string (str r));simp only[World.size_alloc]at bN bT;have hB0:Below w'.heap.size w' (((w'.alloc (.cells #[.int .i64 0] 2)).alloc (.cells #[.int .i64 0] 3)).alloc (.cells #[.string (str r)] 9)):=(((Below.refl _ w').alloc (Nat.le_refl _) _).alloc (by simp) _).alloc (by simp;omega) _
 refine wpIn_rangeFunc_ownF rfl (by decide) (gf:=246) (lb:=#[.pointer (some ⟨w'.heap.size+1+1,0,none⟩)]) rfl trivial (enters_of Tryz.func246 (by kernel_rfl) rfl)
  (wF _ (w'.heap.size+1+1) w'.heap.size r hrl _ (by simp) bT.cell) belowK_t (belowK_b (by simp;omega)) (Below.refl _ _) (fun _=>rfl)
  (fun (pre:List Pc) W=>(Boxed W w'.heap.size 2 (.int .i64 (cd (pcs pre)))∧Boxed W (w'.heap.size+1) 3 (.int .i64 pre.length)∧(pcs pre).all dX=true)∧Below w'.heap.size w' W)
  (fun c (pre:List Pc) W=>(c=.exit 0∧(pcs pre).all dX=false∧Boxed W w'.heap.size 2 (.int .i64 5))∧Below w'.heap.size w' W)
  (OwnFrom.and (OwnFrom.and (Own.from (boxed_own _ _ (fun pre=>.int .i64 (cd (pcs pre)))) _) (OwnFrom.and (Own.from (boxed_own _ _ (fun (pre:List Pc)=>.int .i64 pre.length)) _) (ownFrom_pure _ _))) (ownFrom_below (Nat.le_refl _) (by simp;omega)))
  (fun c=>OwnFrom.and (OwnFrom.and (ownFrom_pure _ _) (OwnFrom.and (ownFrom_pure _ _) (Own.from (boxed_own _ _ (fun _=>.int .i64 5)) _))) (ownFrom_below (Nat.le_refl _) (by simp;omega)))
  ⟨⟨(bC.alloc _).alloc _,bN.alloc _,rfl⟩,hB0⟩
  (fun x=>{ tmps:=#[.string s,undef,.int .i64 0,.string (str r),.bool true,.pointer (some ⟨w'.heap.size,0,none⟩),.pointer (some ⟨w'.heap.size+1,0,none⟩),.string (str x.1),.tuple #[.string (str r),.bool true],.string s,.tuple #[.string (str r),.bool true],.string (str r),.bool true,.bool true,.bool false,.string (str r),.func (.func 246) #[] #[.pointer (some ⟨w'.heap.size+1+1,0,none⟩)],.string (str x.1),undef,undef,undef,undef,undef,undef,undef,undef,undef,undef,undef,undef,undef,undef,undef],defers:=[] }) ?assign ?body ?done ?stop
 case assign =>
  intro l x W K hK;gi_wp2_with fail
  exact hK
 case body =>
  rintro l pre ⟨x,hx⟩ W ⟨⟨hc,hn,hp⟩,hB⟩ hlt;have hc0:=hc.cell;have hf0:=hc.frozen;have hn0:=hn.cell;have hnf:=hn.frozen;have hpl:(pre.length:Int)≤4194304:=by omega
  have HP:=aA hp;have HB:=aA hB;have HC:=aA (hc.other (B':=w'.heap.size+1) (by omega) (.int .i64 (pre.length+1)))
  have HN:=aA (hn.set (.int .i64 (pre.length+1)));clear hp hB hc hn;have hn1:=HN.out.cell;have hc1:=HC.out.cell;have hf1:=HC.out.frozen;gi_wp2_with fail
  refine ⟨trivial,?_⟩;refine (CallsIn.inRound l (callsIn_wide.2 (uU _ _ (by rw[aP];omega)))).mono ?_
  rintro e w2 ⟨rfl,rfl⟩;rw[bD];cases hpx:dX x
  ·have HX:=aA hpx
   clear hpx;gi_wp2_with fail
   exact ⟨(KeepsOthers.setCell _ _ _).trans (KeepsOthers.setCell _ _ _),⟨rfl,by rw[iJ];simp[HX.out],HC.out.set _⟩,(HB.out.setCell (p:=⟨w'.heap.size+1,0,none⟩) (by simp) _).setCell (p:=⟨w'.heap.size,0,none⟩) (Nat.le_refl _) _⟩
  ·have HX:=aA hpx
   clear hpx;have HPn:=aA (show (pcs (pre ++ [⟨x,hx⟩])).all dX=true by rw[iJ];simp[HP.out,HX.out])
   by_cases h4:4<x.length
   ·have h4':(4:Int)<((str x).size:Int):=by rw[aP];omega
    have HE:=aA (zrd (pcs pre) x (.inl h4));gi_wp2_with fail
    exact ⟨(KeepsOthers.setCell _ _ _).trans (KeepsOthers.setCell _ _ _),((Below.refl w'.heap.size W).setCell (p:=⟨w'.heap.size+1,0,none⟩) (by simp) _).setCell (p:=⟨w'.heap.size,0,none⟩) (Nat.le_refl _) _,⟨by rw[iJ,HE.out];exact HC.out.set _,by simpa using HN.out.other (by omega) _,HPn.out⟩,(HB.out.setCell (p:=⟨w'.heap.size+1,0,none⟩) (by simp) _).setCell (p:=⟨w'.heap.size,0,none⟩) (Nat.le_refl _) _⟩
   ·have h4':¬ (4:Int)<((str x).size:Int):=by rw[aP];omega
    by_cases h3:3<pre.length+1
    ·have h3':(3:Int)<(pre.length:Int)+1:=by omega
     have HE:=aA (zrd (pcs pre) x (.inr (by rw[qH];exact h3)))
     gi_wp2_with fail
     exact ⟨(KeepsOthers.setCell _ _ _).trans (KeepsOthers.setCell _ _ _),((Below.refl w'.heap.size W).setCell (p:=⟨w'.heap.size+1,0,none⟩) (by simp) _).setCell (p:=⟨w'.heap.size,0,none⟩) (Nat.le_refl _) _,⟨by rw[iJ,HE.out];exact HC.out.set _,by simpa using HN.out.other (by omega) _,HPn.out⟩,(HB.out.setCell (p:=⟨w'.heap.size+1,0,none⟩) (by simp) _).setCell (p:=⟨w'.heap.size,0,none⟩) (Nat.le_refl _) _⟩
    ·have h3':¬ (3:Int)<(pre.length:Int)+1:=by omega
     have HE:=aA (zhj (pcs pre) x h4 (by rw[qH];exact h3))
     gi_wp2_with fail
     exact ⟨KeepsOthers.setCell _ _ _,(Below.refl w'.heap.size W).setCell (p:=⟨w'.heap.size+1,0,none⟩) (by simp) _,⟨by rw[iJ,HE.out];exact HC.out,by simpa using HN.out,HPn.out⟩,HB.out.setCell (p:=⟨w'.heap.size+1,0,none⟩) (by simp) _⟩
 case done =>
  rintro D ys W hD hys ⟨⟨hc,hn,hp⟩,hB⟩ hK;have hc0:=hc.cell;have HE:=aA (show eR (bF r)=cd (pcs ys) by rw[←hys];exact zrg hp)
  clear hp hys;gi_wp2_with fail
  refine ⟨by simp,.inl ⟨_,_,rfl,run_takeDeferred hK,?_⟩⟩
  exact ⟨_,results_tmp rfl _ _ _,by rw[HE.out];rfl,hB.trans (belowK_b (w:=w') (Nat.le_refl _) W D _ _ (by simp at hD;omega) hK rfl rfl)⟩
 case stop =>
  rintro D c pre W hD hpre ⟨⟨rfl,hp,hc⟩,hB⟩ hK;have hc0:=hc.cell;have HE:=aA (zc0 hpre hp);clear hp hpre;gi_wp2_with fail
  refine ⟨by simp,.inl ⟨_,_,rfl,run_takeDeferred hK,?_⟩⟩
  exact ⟨_,results_tmp rfl _ _ _,by rw[HE.out];rfl,hB.trans (belowK_b (w:=w') (Nat.le_refl _) W D _ _ (by simp at hD;omega) hK rfl rfl)⟩
theorem jQ (s:ByteArray) (w:World) (hs:s.size≤2097152) :
  Calls Tryz.prog 173 #[.string s] w fun e w'=>e=.returned (.int .i64 (aF s.data.toList))∧Below w.heap.size w w':=by
 rcases zq7 s.data.toList with ⟨r,h⟩ | h
 ·have e:aF s.data.toList=eR (bF r):=by rw[h];simp[aF]
  rw[e];exact xP s r w h hs
 ·rw[zjb h]
  exact zD s w h
theorem zz9 {β:Type} (b:Nat) (u v:Value):Go.Own (fun (_:β) W=>Box W b u v):=fun s A B row hs hg hr =>
 ⟨⟨cell_kept hs.1.1 hg hr,cell_kept hs.1.2 hg hr⟩,(frozen_kept hs.1.1 hg hr).trans hs.2.1,(frozen_kept hs.1.2 hg hr).trans hs.2.2⟩
theorem Two.set {W:World} {b:Nat} {u v:Value} (h:Two W b u v) (u' v':Value):Two ((W.setCell ⟨b,0,none⟩ u').setCell ⟨b,1,none⟩ v') b u' v':=by
 have h1:(W.setCell ⟨b,0,none⟩ u').cell? ⟨b,0,none⟩=some u':=dS h.1;have h2:(W.setCell ⟨b,0,none⟩ u').cell? ⟨b,1,none⟩=some v:=(aR (by simp)).trans h.2
 exact ⟨(aR (by simp)).trans h1,dS h2⟩
theorem zea {W:World} {b D:Nat} {u v:Value} (h:Two W b u v) (hK:W.heap[D]?=some (.deferred (some []))) (u' v':Value) :
  ((W.setCell ⟨b,0,none⟩ u').setCell ⟨b,1,none⟩ v').heap[D]?=some (.deferred (some [])) ∧
  (((W.setCell ⟨b,0,none⟩ u').setCell ⟨b,1,none⟩ v').putObj D (.deferred none)).cell? ⟨b,0,none⟩=some u' ∧
  (((W.setCell ⟨b,0,none⟩ u').setCell ⟨b,1,none⟩ v').putObj D (.deferred none)).cell? ⟨b,1,none⟩=some v':=by
 have hK2:=((KeepsOthers.setCell W ⟨b,0,none⟩ u').trans (KeepsOthers.setCell _ ⟨b,1,none⟩ v')).same D _ hK rfl;have h2:=h.set u' v';exact ⟨hK2,cell_kept h2.1 (grownBy_putObj' _ D (.deferred none)) (fun r e=>by cases e;exact ⟨_,hK2,rfl⟩),cell_kept h2.2 (grownBy_putObj' _ D (.deferred none)) (fun r e=>by cases e;exact ⟨_,hK2,rfl⟩)⟩
end Go.Proofs.YtgaeikgoknoamaaGreat
