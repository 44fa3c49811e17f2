/-
  Texts put together: PathA LayL Ents EntF LayP LibP Pieces.
-/
import Derived.Test.YtolnlfnndnpiiaaGreatKSnaps1
import GoSem.Op.String
import Derived.Deep.RegionHeld3
import Derived.Handy
import Derived.Shelf.Strings.OnBuilder
import Derived.Shelf.Strconv.Clone
import Derived.Shelf.Slices.Turned
import Derived.Shelf.Strings.Search2
import Derived.Shelf.Small.Wraps
import Derived.Test.YtolnlfnndnpiiaaGreatProg
import Derived.Lib.IndexLaws
import Derived.RangeFuncNested
import Derived.RangeFuncBound
import Derived.RangeFuncCalls
import Derived.RangeFuncLeaves
import Derived.RangeFuncBox
import Derived.Shelf.Abstract
import Derived.Shelf.RegionOpen
import Derived.OwnWalkIn
import Derived.TacticsInMore
import Derived.LoopNIn
import Derived.LoopIn
import Derived.Maps.AppendAt
set_option linter.unusedVariables false
set_option maxHeartbeats 2000000
set_option maxRecDepth 100000
namespace Go.Proofs.YtolnlfnndnpiiaaGreat
open Go.RowKit
def mO (ns:List Bs) (m:Nat):List Bs:=(List.range m).map fun k=>cA (ns.take (k+1))
theorem zu9 (ns:List Bs) (m:Nat):mO ns (m+1)=mO ns m ++ [cA (ns.take (m+1))]:=by simp[mO,List.range_succ]
theorem qG (ns:List Bs) (m:Nat):(mO ns m).length=m:=by simp[mO]
theorem zn7 (s:ByteArray):(cA (aX s.data.toList.tail)).length≤s.size+1:=by
 rw[rM,List.length_cons,List.length_tail,←Lib.size_eq];omega
theorem pH (s:ByteArray) (w:World) (h1:1≤s.size) (hs:s.size≤2097152) :
  Calls Tryz.prog 187 #[.string s] w fun e w'=>∃ v,e=.returned v∧cT w.heap.size w' v (bR (aX s.data.toList.tail))∧Below w.heap.size w w':=by
 obtain ⟨i1,ki,kz0,kz1,kz2⟩:=info_parts sF;have h1':(1:Int)≤(s.size:Int):=by omega
 have hel:=nV s 1 s.size;have HT:=aA (qF s);have hcl:=lD s.data.toList.tail;have hel2:s.data.toList.tail.length≤s.size:=by rw[List.length_tail,←Lib.size_eq];omega
 have hjl:=zn7 s;have hpos:=List.length_pos_iff.2 (oX s.data.toList.tail);generalize hns:aX s.data.toList.tail=ns at *;have HN:=aA hns;clear hns;go_enter Tryz.func187,Tryz.ntmps187;go_wp2_with fail
 refine (xA _ _ (by omega)).mono ?_
 rintro e w1 ⟨v,rfl,hO,hb1⟩;rw[HT.out,HN.out]at hO;obtain ⟨na,nc,rfl⟩:=hO.shape;have hnc:=hO.cap rfl;have HR:=aA hO.reads;have HB:=aA hb1;have HPB:=aA (fun b (hb:na.map Addr.block=some b)=>hO.lt b (by cases na with | none=>simp at hb | some x=>simpa [Value.ownBlock] using hb))
 have n1:=hb1.size;clear hO hb1;go_wp2_with fail
 go_loopw [4,5] (fun v i wr=>∃ m:Nat,m+1≤ns.length∧i=.int .i64 (m+1)∧Hid (cT w1.heap.size wr v (mO ns m))∧Hid (bX wr na ns)∧Hid (Below w.heap.size w wr)∧w1.heap.size≤wr.heap.size) (fun _ i _=>ns.length - (intOf i).toNat)
 case atStart=>exact ⟨0,by omega,rfl,aA (World.ownsRow_made (base:=w1.heap.size) (e:=9) (size:=1) w1 #[] 0 (Nat.le_refl _) (Nat.zero_le _) rfl),aA (HR.out.below (aC _ _)),aA (aB HB.out (aC _ _)),by simp⟩
 case round =>
  obtain ⟨m,hm,rfl,HO,HRr,HBr,hszr⟩:=hrel;obtain ⟨va,vc,rfl⟩:=HO.out.shape;rw[qG]at *;by_cases hlt:m+1<ns.length
  ·have hm1:m+1≤maxLen:=by unfold maxLen;omega
   have hm2:(m+1) * 16≤140737488355328:=by omega
   have hjt:=wX ns (m+1);have hlt2:(m:Int)+1<(ns.length:Int):=by omega
   have hcp:(m:Int)+1≤(nc:Int):=by omega
   have HO':=aA (show wr.ownsRow w1.heap.size 9 1 (.slice va m vc) m ((mO ns m).map vS) by have:=HO.out;unfold cT at this;rwa [qG]at this)
   go_wp2_with (first | (go_at_call 101;refine (zd2 _ _ (ns.take (m+1)) _ (HRr.out.take (m+1)) (by simp;omega) (by omega) _ (by simp;omega)).mono ?_;rintro e w2 ⟨rfl,rfl⟩) | (at_builtin;refine cS rfl (.tmp 16) (.tmp 21) 100 rfl w1.heap.size 9 i1 (.string ⟨#[]⟩) 1 16 Tryz.underlying100 ki kz0 kz1 kz2 rfl (by decide) _ _ _ rfl HO'.out rfl rfl (by intro u hu;simp at hu;subst hu;rfl) hm1 hm2 hszr ?_;intro v' w3 hown2 hkept;have O2:=aA hown2;have K2:=aA hkept;clear hown2 hkept))
   go_roundw
   case rel=>exact ⟨m+1,by omega,by go_num,aA (by rw[zu9];exact cT.snoc (ps:=mO ns m) (by rw[qG];exact O2.out) rfl),aA (HRr.out.kept K2.out (fun _ x hx hS=>by have h1:=(HPB.out x.block (by rw[hx];rfl)).2;have h2:=(HO'.out.lt _ hS).1;omega)),aA (HBr.out.trans (K2.out.below (by omega) (fun b hb hS=>by have:=(HO'.out.lt _ hS).1;omega))),by have:=K2.out.size;omega⟩
   case measure=>simp[intOf];omega
  ·have hlt2:¬ (m:Int)+1<(ns.length:Int):=by omega
   have HE:=aA (show bR ns=mO ns m by unfold bR mO;rw[show ns.length - 1=m by omega])
   go_wp2_with fail
   go_ret
   exact ⟨_,rfl,by rw[HE.out];exact HO.out.mono n1,HBr.out⟩
theorem nW {s:ByteArray} (h:aF s.data.toList=0):1≤s.size:=by
 obtain ⟨ns,_,_,_,e⟩:=fV h;have:=congrArg List.length e;rw[←Lib.size_eq]at this;simp at this
 omega
theorem sA {p:Bs} (h:aF p≠0):bG p=[]:=by simp[bG,h]
theorem fG {p:Bs} (h:aF p=0):bG p=bR (aX p.tail):=by simp[bG,h]
theorem pP (p:Bs):(bG p).length≤2:=by
 by_cases h:aF p=0
 ·obtain ⟨ns,hN,_,hc,_⟩:=fV h
  rw[fG h,iX,hc];have:=hN.2.2.2;omega
 ·rw[sA h];simp
def nE (p:Bs):Int:=if aF p=0 then (if bG p=[] then 4 else 0) else aF p
def kZ (p:Bs):Bs:=(bG p).getLastD []
def pJ (p:Bs):Bs:=if aF p=0 then kY (aX p.tail) else []
theorem qO {l:List Bs} (h:l≠[]):l[l.length - 1]?=some (l.getLastD []):=by
 rw[List.getLastD_eq_getLast?,List.getLast?_eq_getElem?];have:l.length - 1<l.length:=by have:=List.length_pos_iff.2 h;omega
 simp[this]
theorem jI (s:ByteArray) (w:World) (h1:1≤s.size) (hs:s.size≤2097152) :
  Calls Tryz.prog 162 #[.string s] w fun e w'=>e=.returned (.string (str ((bR (aX s.data.toList.tail)).getLastD [])))∧Below w.heap.size w w':=by
 have hlen:(bR (aX s.data.toList.tail)).length≤4194304:=by
  have hlen:=iX (aX s.data.toList.tail);have hcl:=lD s.data.toList.tail;have hel2:s.data.toList.tail.length≤s.size:=by rw[List.length_tail,←Lib.size_eq];omega
  omega
 obtain ⟨ab,hab⟩:∃ ab,ab=bR (aX s.data.toList.tail):=⟨_,rfl⟩;rw[←hab]at hlen ⊢;have HAB:=aA hab;clear hab;go_enter Tryz.func162,Tryz.ntmps162;go_wp2_with fail
 refine (pH _ _ h1 hs).mono ?_;rintro e w1 ⟨v,rfl,hO,hb1⟩;rw[←HAB.out]at hO;obtain ⟨va,vc,rfl⟩:=hO.shape;have HB:=aA hb1;clear hb1;by_cases h0:ab=[]
 ·subst h0
  go_wp2_with fail
  go_ret
  exact ⟨rfl,HB.out⟩
 ·have hp:=List.length_pos_iff.2 h0
  obtain ⟨b,off,p,rfl,hb,hpe,hck⟩:=hO.reads.at (k:=ab.length - 1) (by omega)
  have HP:=aA (Option.some.inj (hpe.symm.trans (qO h0)));clear hpe hO;have hz:((ab.length:Int)==0)=false:=by simp;omega
  have hp':(1:Int)≤(ab.length:Int):=by omega
  have hp2:(ab.length:Int)≤4194304:=by omega
  go_wp2_with fail
  go_ret
  exact ⟨zp3 (by rw[HP.out]),HB.out⟩
theorem zwm {p:Bs} (h:aF p≠0):nE p=aF p∧kZ p=[]:=by simp[nE,kZ,h,sA h]
theorem zn8 {p:Bs} (h:aF p=0) (ha:bR (aX p.tail)=[]):nE p=4∧kZ p=[]:=by
 have e:=fG h;rw[ha]at e;simp[nE,kZ,h,e]
theorem zm8 {p:Bs} (h:aF p=0) (ha:bR (aX p.tail)≠[]):nE p=0∧kZ p=(bR (aX p.tail)).getLastD []:=by
 have e:=fG h;exact ⟨by simp[nE,h,e,ha],by rw[kZ,e]⟩
theorem zee (s:ByteArray) (w:World) (h1:1≤s.size) (hs:s.size≤2097152) :
  Calls Tryz.prog 217 #[.string s] w fun e w'=>e=.returned (.string (str (kY (aX s.data.toList.tail))))∧Below w.heap.size w w':=by
 have h1':(1:Int)≤(s.size:Int):=by omega
 have hel:=nV s 1 s.size;have HT:=aA (qF s);have hcl:=lD s.data.toList.tail;have hel2:s.data.toList.tail.length≤s.size:=by rw[List.length_tail,←Lib.size_eq];omega
 have h0:=oX s.data.toList.tail;obtain ⟨ns,hns⟩:∃ ns,ns=aX s.data.toList.tail:=⟨_,rfl⟩;rw[←hns]at hcl h0 ⊢;have HN:=aA hns;clear hns;go_enter Tryz.func217,Tryz.ntmps217;go_wp2_with fail
 refine (xA _ _ (by omega)).mono ?_
 rintro e w1 ⟨v,rfl,hO,hb1⟩;rw[HT.out,←HN.out]at hO;obtain ⟨va,vc,rfl⟩:=hO.shape;have HB:=aA hb1;clear hb1;have hp:=List.length_pos_iff.2 h0;obtain ⟨b,off,p,rfl,hb,hpe,hck⟩:=hO.reads.at (k:=ns.length - 1) (by omega)
 have HP:=aA (Option.some.inj (hpe.symm.trans (qO h0)));clear hpe hO;have hp':(1:Int)≤(ns.length:Int):=by omega
 have hp2:(ns.length:Int)≤4194304:=by omega
 go_wp2_with fail
 go_ret
 exact ⟨zp3 (by rw[HP.out];rfl),HB.out⟩
theorem zyj {p:Bs} (h:aF p≠0):pJ p=[]:=by simp[pJ,h]
theorem zkh {p:Bs} (h:aF p=0):pJ p=kY (aX p.tail):=by simp[pJ,h]
theorem zp6 {s t:ByteArray} (h:¬ t.size+1<s.size):bD s.data.toList t.data.toList=false:=by
 simp[bD,h]
theorem zba {s t:ByteArray} (h:t.size+1<s.size) (h2:((s.extract 0 t.size).toList==t.toList)=false):bD s.data.toList t.data.toList=false:=by
 rw[Lib.extract_toList,ByteArray.toList_eq,List.drop_zero,Nat.sub_zero]at h2;simp only[bD,←Lib.size_eq,h2,Bool.and_false,Bool.false_and]
theorem zq6 {s t:ByteArray} (h:t.size+1<s.size) (h2:((s.extract 0 t.size).toList==t.toList)=true):bD s.data.toList t.data.toList=((s[t.size].toNat:Int)==47):=by
 rw[Lib.extract_toList,ByteArray.toList_eq,List.drop_zero,Nat.sub_zero]at h2;have hl:t.size<s.data.toList.length:=by rw[←Lib.size_eq];omega
 have e:(s.data.toList.drop t.size).head?=some s[t.size]:=by
  rw[List.head?_drop,List.getElem?_eq_getElem hl];rfl
 simp only[bD,←Lib.size_eq,h2,h,e,decide_true,Bool.true_and];rw[Bool.eq_iff_iff];simp only[beq_iff_eq,Option.some.injEq];constructor
 ·intro h;rw[h];rfl
 ·intro h;apply UInt8.toNat_inj.1;show _=47;omega
theorem iK (s t:ByteArray) (w:World) (hs:s.size≤2097152) (ht:t.size≤2097152) :
  Calls Tryz.prog 220 #[.string s,.string t] w fun e w'=>e=.returned (.bool (bD s.data.toList t.data.toList))∧w'=w:=by
 by_cases h:t.size+1<s.size
 ·have h':(t.size:Int)+1<(s.size:Int):=by omega
  have h3:(t.size:Int)≤(s.size:Int):=by omega
  have h4:t.size<s.size:=by omega
  cases h2:((s.extract 0 t.size).toList==t.toList)
  ·have HE:=aA (zba h h2)
   go_enter Tryz.func220,Tryz.ntmps220;go_wp2_with fail
   go_ret
   exact ⟨bQ HE.out.symm,rfl⟩
  ·have HE:=aA (zq6 h h2)
   go_enter Tryz.func220,Tryz.ntmps220;go_wp2_with fail
   go_ret
   exact ⟨bQ HE.out.symm,rfl⟩
 ·have h':¬ (t.size:Int)+1<(s.size:Int):=by omega
  have HE:=aA (zp6 h);go_enter Tryz.func220,Tryz.ntmps220;go_wp2_with fail
  go_ret
  exact ⟨bQ HE.out.symm,rfl⟩
def fD (p t:Bs):Bool:=decide (t∈bG p)
theorem lU {p t:Bs} (h:aF p=0):fD p t=decide (aF t=0∧bD p t=true):=by
 simp only[fD,fG h,kO h]
end Go.Proofs.YtolnlfnndnpiiaaGreat
namespace Go.Proofs.YtolnlfnndnpiiaaGreat
structure En where
 path:Bs
 kind:Int
 size:Int
 chunks:List Int
 deriving DecidableEq
def gW (c:Int):Bool:=decide (0≤c∧c≤4294967295)
def iJ (e:En):Bool:=decide ((1≤e.kind∧e.kind≤4)∧(e.kind=1∨(e.size=0∧e.chunks.length=0)))
def lM (e:En):Bool:=decide (0≤e.size∧e.size≤24)
def mF (e:En):Bool:=decide ((e.chunks.length:Int)=(e.size+7) / 8)
def aH (e:En):Int :=
 if aF e.path=0 then (if iJ e then (if lM e then (if mF e then (if e.chunks.all gW then 0 else 3) else 1) else 3) else 1) else aF e.path
theorem qI {e:En} (h:aF e.path≠0):aH e=aF e.path:=by simp[aH,h]
theorem gU {e:En} (h:aF e.path=0) (h1:iJ e=false):aH e=1:=by simp[aH,h,h1]
theorem vO {e:En} (h:aF e.path=0) (h1:iJ e=true) (h2:lM e=false):aH e=3:=by simp[aH,h,h1,h2]
theorem vN {e:En} (h:aF e.path=0) (h1:iJ e=true) (h2:lM e=true) (h3:mF e=false):aH e=1:=by simp[aH,h,h1,h2,h3]
theorem fX {e:En} (h:aF e.path=0) (h1:iJ e=true) (h2:lM e=true) (h3:mF e=true):aH e=if e.chunks.all gW then 0 else 3:=by simp[aH,h,h1,h2,h3]
def bZ (k:Int):Bool:=decide (k=2∨k=4)
def aG (es:List En) (p:Bs):Option En:=es.find? fun e=>decide (e.path=p)
def aE (p:Bs):Bs:=(bR (aX p.tail)).getLastD []
def eU (es:List En) (p:Bs):Bool :=
 if aE p=[] then true else
  match aG es (aE p) with
  | none=>false
  | some e=>bZ e.kind
def iP (prev:Option En) (e:En):Bool :=
 match prev with
 | none=>false
 | some q=>Op.bytesLess e.path q.path||(e.path==q.path)
def kL (es:List En) (prev:Option En) (e:En):Int:=if aH e=0 then (if iP prev e then 1 else if eU es e.path then 0 else 9) else aH e
def iT (es:List En):Option En→List En→Int
 | _,[]=>0
 | prev,e :: r=>if kL es prev e=0 then iT es (some e) r else kL es prev e
def cJ (es:List En):Int:=if 12<es.length then 2 else iT es none es
def cH (es:List En) (i:Nat):Option En:=if i=0 then none else es[i - 1]?
theorem oE {es:List En} {i:Nat} {e:En} (h:es[i]?=some e):iT es (cH es i) (es.drop i)=if kL es (cH es i) e=0 then iT es (cH es (i+1)) (es.drop (i+1)) else kL es (cH es i) e:=by
 obtain ⟨hi,he⟩:=List.getElem?_eq_some_iff.1 h;have e1:cH es (i+1)=some e:=by simp[cH,h]
 rw[e1,List.drop_eq_getElem_cons hi,he];rfl
end Go.Proofs.YtolnlfnndnpiiaaGreat
namespace Go.Proofs.YtolnlfnndnpiiaaGreat
open Go.RowKit
def RdE (w:World) (a:Option Addr) (es:List En):Prop :=
 es≠[]→∃ (b off:Nat) (A:Nat→Option Addr) (C:Nat→Nat),a=some ⟨b,off,none⟩∧b<w.heap.size∧∀ i e,es[i]?=some e →
  w.cell? ⟨b,off+i * 4,none⟩=some (.string (str e.path))∧w.cell? ⟨b,off+i * 4+1,none⟩=some (.int .i64 e.kind)∧w.cell? ⟨b,off+i * 4+2,none⟩=some (.int .i64 e.size) ∧
  w.cell? ⟨b,off+i * 4+3,none⟩=some (.slice (A i) e.chunks.length (C i))∧aP .i64 w (A i) e.chunks
theorem RdE.kept {S:Nat→Prop} {w w':World} {a:Option Addr} {es:List En} (h:RdE w a es) (hk:Below w.heap.size w w'):RdE w' a es:=by
 intro hz;obtain ⟨b,off,A,C,e,hb,hc⟩:=h hz;refine ⟨b,off,A,C,e,Nat.lt_of_lt_of_le hb hk.size,fun i x hx=>?_⟩
 obtain ⟨c0,c1,c2,c3,r⟩:=hc i x hx;exact ⟨(hk.cell (p:=⟨b,off+i * 4,none⟩) hb).trans c0,(hk.cell (p:=⟨b,off+i * 4+1,none⟩) hb).trans c1,(hk.cell (p:=⟨b,off+i * 4+2,none⟩) hb).trans c2,(hk.cell (p:=⟨b,off+i * 4+3,none⟩) hb).trans c3,r.below hk⟩
theorem RdE.below {w w':World} {a:Option Addr} {es:List En} (h:RdE w a es) (hk:Below w.heap.size w w'):RdE w' a es:=h.kept (S:=fun _=>False) hk
theorem RdE.at {w:World} {a:Option Addr} {es:List En} (h:RdE w a es) {k:Nat} (hk:k<es.length) :
  ∃ b off e x c,a=some ⟨b,off,none⟩∧b<w.heap.size∧es[k]?=some e∧w.cell? ⟨b,off+k * 4,none⟩=some (.string (str e.path))∧w.cell? ⟨b,off+k * 4+1,none⟩=some (.int .i64 e.kind)∧w.cell? ⟨b,off+k * 4+2,none⟩=some (.int .i64 e.size) ∧
   w.cell? ⟨b,off+k * 4+3,none⟩=some (.slice x e.chunks.length c)∧aP .i64 w x e.chunks:=by
 obtain ⟨b,off,A,C,e,hb,hc⟩:=h (by intro e;simp[e]at hk)
 have hx:es[k]?=some es[k]:=List.getElem?_eq_getElem hk;obtain ⟨c0,c1,c2,c3,r⟩:=hc k _ hx;exact ⟨b,off,es[k],A k,C k,e,hb,hx,c0,c1,c2,c3,r⟩
def aV (es:List En):Prop:=∀ e∈es,e.path.length≤1048576∧e.chunks.length≤1048576
theorem nC (n a b:Int) (w:World) (h0:a≤n) (h1:n≤b) :
  Calls Tryz.prog 32 #[.int .i64 n,.int .i64 a,.int .i64 b] w fun e w'=>e=.returned (.bool true)∧w'=w:=by
 go_enter Tryz.func32,Tryz.ntmps32;go_wp2
 go_ret
 exact ⟨rfl,rfl⟩
theorem tT (n a b:Int) (w:World) (h:n<a∨b<n) :
  Calls Tryz.prog 32 #[.int .i64 n,.int .i64 a,.int .i64 b] w fun e w'=>e=.returned (.bool false)∧w'=w:=by
 by_cases h0:a≤n
 ·have h1:¬ n≤b:=by omega
  go_enter Tryz.func32,Tryz.ntmps32;go_wp2
  go_ret
  exact ⟨rfl,rfl⟩
 ·go_enter Tryz.func32,Tryz.ntmps32
  go_wp2
  go_ret
  exact ⟨rfl,rfl⟩
theorem wY (n:Int) (w:World):Calls Tryz.prog 161 #[.int .i64 n] w fun e w'=>e=.returned (.bool (gW n))∧w'=w:=by
 by_cases h:0≤n∧n≤4294967295
 ·have e:gW n=true:=decide_eq_true h
  rw[e];obtain ⟨h0,h1⟩:=h;go_enter Tryz.func161,Tryz.ntmps161;go_wp2_with (go_at_call 32;refine (nC _ _ _ _ h0 h1).mono ?_;rintro e w' ⟨rfl,rfl⟩)
  go_ret
  exact ⟨rfl,rfl⟩
 ·have e:gW n=false:=decide_eq_false h
  rw[e];go_enter Tryz.func161,Tryz.ntmps161;go_wp2_with (go_at_call 32;refine (tT _ _ _ _ (by omega)).mono ?_;rintro e w' ⟨rfl,rfl⟩)
  go_ret
  exact ⟨rfl,rfl⟩
def cI (w:World) (b:Nat) (u0 u1 u2 u3:Value):Prop:=w.cell? ⟨b,0,none⟩=some u0∧w.cell? ⟨b,1,none⟩=some u1∧w.cell? ⟨b,2,none⟩=some u2∧w.cell? ⟨b,3,none⟩=some u3
theorem cI.new (w:World) (u0 u1 u2 u3:Value) (t:TypeId):cI (w.alloc (.cells #[u0,u1,u2,u3] t)) w.heap.size u0 u1 u2 u3:=⟨by simp,by simp,by simp,by simp⟩
theorem cI.lt {w:World} {b:Nat} {u0 u1 u2 u3:Value} (h:cI w b u0 u1 u2 u3):b<w.heap.size:=World.block_lt_of_cell? w ⟨b,0,none⟩ h.1
theorem cI.below {w w':World} {b:Nat} {u0 u1 u2 u3:Value} (h:cI w b u0 u1 u2 u3) (hk:Below w.heap.size w w'):cI w' b u0 u1 u2 u3 :=
 ⟨(hk.cell (p:=⟨b,0,none⟩) h.lt).trans h.1,(hk.cell (p:=⟨b,1,none⟩) h.lt).trans h.2.1,(hk.cell (p:=⟨b,2,none⟩) h.lt).trans h.2.2.1,(hk.cell (p:=⟨b,3,none⟩) h.lt).trans h.2.2.2⟩
theorem zj4 (n:Int) (w:World) (h0:0≤n) (h1:n≤24):Calls Tryz.prog 160 #[.int .i64 n] w fun e w'=>e=.returned (.int .i64 ((n+7) / 8))∧w'=w:=by
 have e:(n+7) / 8=(n+8 - 1).tdiv 8:=by rw[Int.tdiv_eq_ediv_of_nonneg (by omega)];congr 1;omega
 rw[e];go_enter Tryz.func160,Tryz.ntmps160;go_wp2
 go_ret
 exact ⟨rfl,rfl⟩
theorem mC (e:En) (x:Option Addr) (c n:Nat) (w:World) (h:aP .i64 w x e.chunks) (hn:n=e.chunks.length) (hp:e.path.length≤1048576) (hc:e.chunks.length≤1048576) :
  Calls Tryz.prog 117 #[.agg #[.string (str e.path),.int .i64 e.kind,.int .i64 e.size,.slice x n c]] w fun r w'=>r=.returned (.int .i64 (aH e))∧Below w.heap.size w w':=by
 subst hn;have HR:=aA h;clear h;have HN:=aA (aC w (.cells #[.string (str e.path),.int .i64 e.kind,.int .i64 e.size,.slice x e.chunks.length c] 50));have HB:=aA (cI.new w (.string (str e.path)) (.int .i64 e.kind) (.int .i64 e.size) (.slice x e.chunks.length c) 50);by_cases hf:aF e.path=0
 ·go_enter Tryz.func117,Tryz.ntmps117
  go_wp2_with fail
  refine (tD _ _ (by rw[aK];omega)).mono ?_
  rintro r w1 ⟨rfl,hb1⟩;rw[aT,hf];have HB1:=aA (aB HN.out hb1);have HR1:=aA (HR.out.below HB1.out);have hB:=HB.out.below hb1;clear HB HR HN hb1;obtain ⟨c0,c1,c2,c3⟩:=hB;generalize w.heap.size=bk at c0 c1 c2 c3 ⊢;by_cases hk:1≤e.kind∧e.kind≤4
  ·by_cases hk1:e.kind=1
   ·have hfm:iJ e=true:=decide_eq_true ⟨hk,Or.inl hk1⟩
    have hkn:(e.kind != 1)=false:=by simp[hk1]
    have HK:=aA hk1;clear hk1;have HI:=aA (nC e.kind 1 4 w1 hk.1 hk.2);by_cases hz:0≤e.size∧e.size≤24
    ·have HZ:=aA (nC e.size 0 24 w1 hz.1 hz.2)
     have HFo:=aA (fun u=>zj4 e.size u hz.1 hz.2)
     by_cases hm:(e.chunks.length:Int)=(e.size+7) / 8
     ·have HE:=aA (fX hf hfm (decide_eq_true hz) (decide_eq_true hm))
      have hmn:((e.chunks.length:Int) != (e.size+7) / 8)=false:=by simp;exact hm
      clear hfm hf hm;go_wp2_with fail
      refine HI.out.mono ?_;rintro r w' ⟨rfl,rfl⟩;go_wp2_with fail
      refine HZ.out.mono ?_;rintro r w' ⟨rfl,rfl⟩;go_wp2_with fail
      go_region_held3 (fun w'=>w'.cell? ⟨bk,2,none⟩=some (.int .i64 e.size)∧w'.cell? ⟨bk,3,none⟩=some (.slice x e.chunks.length c)) (first | trivial | go_keep)
       ((
        first
        | (go_at_call 160;refine (HFo.out _).mono ?_;rintro r w' ⟨rfl,rfl⟩)))
      go_wp2_with fail
      clear hmn;have d3:w'.drew.cell? ⟨bk,3,none⟩=some (.slice x e.chunks.length c):=c3;have HR2:=aA (HR1.out.below (Below.refl w'.heap.size w').drew);have HB2:=aA HB1.out.drew;clear c0 c1 c2 c3 HR1 HB1 HI HZ;generalize w'.drew=W at *;go_loop [4] (fun i=>∃ k:Nat,k≤e.chunks.length∧i=.int .i64 k∧Hid ((e.chunks.take k).all gW=true)) (fun i=>e.chunks.length - (intOf i).toNat)
      case atStart=>exact ⟨0,Nat.zero_le _,rfl,aA (by simp)⟩
      case round =>
       obtain ⟨k,hk,rfl,HA⟩:=hrel;by_cases hlt:k<e.chunks.length
       ·obtain ⟨b,off,rfl,hb1,hcc⟩:=HR2.out (by intro e;simp[e]at hlt)
        have hc1:=hcc k hlt;have hzk:e.chunks[k]?=some (e.chunks.getD k 0):=by rw[List.getD_eq_getElem?_getD,List.getElem?_eq_getElem hlt];rfl
        generalize e.chunks.getD k 0=z at hc1 hzk;have HZ:=aA hzk;clear hcc hzk;cases hd:gW z
        ·have HX:=aA (show e.chunks.all gW=false from by rw[List.all_eq_false];exact ⟨z,List.mem_of_getElem? HZ.out,by simp[hd]⟩)
         have HD:=aA hd;clear hd;go_wp2_with fail
         refine (wY _ _).mono ?_;rintro r w'' ⟨rfl,rfl⟩;rw[HD.out];go_wp2_with fail
         go_ret
         exact ⟨aO (by rw[HE.out,HX.out];rfl),HB2.out⟩
        ·have HX:=aA (show (e.chunks.take (k+1)).all gW=true from by rw[bY HZ.out];simp[HA.out,hd])
         have HD:=aA hd;clear hd;go_wp2_with fail
         refine (wY _ _).mono ?_;rintro r w'' ⟨rfl,rfl⟩;rw[HD.out];go_wp2_with fail
         go_round
         case rel=>exact ⟨k+1,by omega,by go_num,HX⟩
         case measure=>simp[intOf];omega
       ·have HX:=aA (show e.chunks.all gW=true from by have:=HA.out;rwa [List.take_of_length_le (by omega)]at this)
        go_wp2_with fail
        go_ret
        exact ⟨aO (by rw[HE.out,HX.out];rfl),HB2.out⟩
     ·have HE:=aA (vN hf hfm (decide_eq_true hz) (decide_eq_false hm))
      have hmn:((e.chunks.length:Int) != (e.size+7) / 8)=true:=by simp;exact hm
      clear hfm hf hm;go_wp2_with fail
      refine HI.out.mono ?_;rintro r w' ⟨rfl,rfl⟩;go_wp2_with fail
      refine HZ.out.mono ?_;rintro r w' ⟨rfl,rfl⟩;go_wp2_with fail
      go_region_held3 (fun w'=>w'.cell? ⟨bk,2,none⟩=some (.int .i64 e.size)∧w'.cell? ⟨bk,3,none⟩=some (.slice x e.chunks.length c)) (first | trivial | go_keep)
       ((
        first
        | (go_at_call 160;refine (HFo.out _).mono ?_;rintro r w' ⟨rfl,rfl⟩)))
      go_wp2_with fail
      go_ret
      exact ⟨aO HE.out.symm,HB1.out.drew⟩
    ·have HZ:=aA (tT e.size 0 24 w1 (by omega))
     have HE:=aA (vO hf hfm (decide_eq_false hz));clear hfm hf;go_wp2_with fail
     refine HI.out.mono ?_;rintro r w' ⟨rfl,rfl⟩;go_wp2_with fail
     refine HZ.out.mono ?_;rintro r w' ⟨rfl,rfl⟩;go_wp2_with fail
     go_ret
     exact ⟨aO HE.out.symm,HB1.out⟩
   ·have hkn:(e.kind != 1)=true:=by simp;exact hk1
    have HI:=aA (nC e.kind 1 4 w1 hk.1 hk.2);by_cases hz:e.size=0
    ·have hzn:(e.size != 0)=false:=by simp;exact hz
     by_cases hl:e.chunks.length=0
     ·have HE:=aA (show aH e=0 from by
       have e0:e.chunks=[]:=List.length_eq_zero_iff.1 hl;rw[fX hf (decide_eq_true ⟨hk,Or.inr ⟨hz,hl⟩⟩) (decide_eq_true (by omega)) (decide_eq_true (by rw[hl,hz];rfl)),e0];rfl)
      have hl0:¬ (0:Int)<(e.chunks.length:Int):=by omega
      have HZ:=aA (nC e.size 0 24 w1 (by omega) (by omega))
      have HFo:=aA (fun u=>zj4 e.size u (by omega) (by omega))
      have hmn:((e.chunks.length:Int) != (e.size+7) / 8)=false:=by rw[hl,hz];rfl
      clear hf hl hz hk1;go_wp2_with fail
      refine HI.out.mono ?_;rintro r w' ⟨rfl,rfl⟩;go_wp2_with fail
      refine HZ.out.mono ?_;rintro r w' ⟨rfl,rfl⟩;go_wp2_with fail
      go_region_held3 (fun w'=>w'.cell? ⟨bk,2,none⟩=some (.int .i64 e.size)∧w'.cell? ⟨bk,3,none⟩=some (.slice x e.chunks.length c)) (first | trivial | go_keep)
       ((
        first
        | (go_at_call 160;refine (HFo.out _).mono ?_;rintro r w' ⟨rfl,rfl⟩)))
      go_wp2_with fail
      have d3:w'.drew.cell? ⟨bk,3,none⟩=some (.slice x e.chunks.length c):=c3;have HB2:=aA HB1.out.drew;clear c0 c1 c2 c3 HR1 HB1 HI HZ hmn;generalize w'.drew=W at *;go_rounds 1
      go_ret
      exact ⟨aO HE.out.symm,HB2.out⟩
     ·have HE:=aA (gU hf (decide_eq_false (fun h=>h.2.elim hk1 (fun h=>hl h.2))))
      have hl0:(0:Int)<(e.chunks.length:Int):=by omega
      clear hf hl hz hk1;go_wp2_with fail
      refine HI.out.mono ?_;rintro r w' ⟨rfl,rfl⟩;go_wp2_with fail
      go_ret
      exact ⟨aO HE.out.symm,HB1.out⟩
    ·have HE:=aA (gU hf (decide_eq_false (fun h=>h.2.elim hk1 (fun h=>hz h.1))))
     have hzn:(e.size != 0)=true:=by simp;exact hz
     clear hf hz hk1;go_wp2_with fail
     refine HI.out.mono ?_;rintro r w' ⟨rfl,rfl⟩;go_wp2_with fail
     go_ret
     exact ⟨aO HE.out.symm,HB1.out⟩
  ·have HE:=aA (gU hf (decide_eq_false (fun h=>hk h.1)))
   have HI:=aA (tT e.kind 1 4 w1 (by omega))
   clear hf;go_wp2_with fail
   refine HI.out.mono ?_;rintro r w' ⟨rfl,rfl⟩;go_wp2_with fail
   go_ret
   exact ⟨aO HE.out.symm,HB1.out⟩
 ·rw[qI hf]
  go_enter Tryz.func117,Tryz.ntmps117;go_wp2_with fail
  refine (tD _ _ (by rw[aK];omega)).mono ?_
  rintro r w1 ⟨rfl,hb1⟩;rw[aT];have HB1:=aA (aB HN.out hb1);clear hb1 HN HB HR;go_wp2_with fail
  go_ret
  exact ⟨rfl,HB1.out⟩
end Go.Proofs.YtolnlfnndnpiiaaGreat
namespace Go.Proofs.YtolnlfnndnpiiaaGreat
open Go.RowKit Go.Shelf
def Tryz.cloneA_ren:Go.Shelf.Ren:=⟨fun | 316=>126 | n=>n,fun | 9=>9 | 3=>3 | 4=>4 | 37=>22 | 0=>0 | 127=>190 | 5=>5 | n=>n,fun | n=>n⟩
theorem Tryz.cloneA:Go.Proofs.LaysM.n316 Tryz.prog Tryz.cloneA_ren:={
 mixed:=by kernel_rfl
 f316:=Tryz.func126.trans (congrArg some (by kernel_rfl))
 t0:=Tryz.underlying0
 a0:=Tryz.isAgg0
 z0:=Tryz.sizeOf0
 v0:=Tryz.zeroValue0
 t3:=Tryz.underlying3
 a3:=Tryz.isAgg3
 z3:=Tryz.sizeOf3
 v3:=Tryz.zeroValue3
 t4:=Tryz.underlying4
 a4:=Tryz.isAgg4
 z4:=Tryz.sizeOf4
 v4:=Tryz.zeroValue4
 t9:=Tryz.underlying9
 a9:=Tryz.isAgg9
 z9:=Tryz.sizeOf9
 v9:=Tryz.zeroValue9
 t37:=Tryz.underlying22
 a37:=Tryz.isAgg22
 z37:=Tryz.sizeOf22
 v37:=Tryz.zeroValue22
 t127:=Tryz.underlying190
 a127:=Tryz.isAgg190
 z127:=Tryz.sizeOf190
 v127:=Tryz.zeroValue190
 t5:=Tryz.underlying5
 a5:=Tryz.isAgg5
 z5:=Tryz.sizeOf5
 v5:=Tryz.zeroValue5
 i0:=by kernel_rfl
 i3:=by kernel_rfl
 i4:=by kernel_rfl
 i5:=by kernel_rfl
 i9:=by kernel_rfl
 i37:=by kernel_rfl
 i127:=by kernel_rfl }
def Tryz.hasA_ren:Go.Shelf.Ren:=⟨fun | 110=>239 | 109=>258 | n=>n,fun | 31=>100 | 9=>9 | 4=>4 | 3=>3 | 0=>0 | n=>n,fun | n=>n⟩
theorem Tryz.hasA:Go.Proofs.Lays.n110 Tryz.prog Tryz.hasA_ren:={
 mixed:=by kernel_rfl
 f109:=Tryz.func258.trans (congrArg some (by kernel_rfl))
 f110:=Tryz.func239.trans (congrArg some (by kernel_rfl))
 t0:=Tryz.underlying0
 a0:=Tryz.isAgg0
 z0:=Tryz.sizeOf0
 v0:=Tryz.zeroValue0
 t3:=Tryz.underlying3
 a3:=Tryz.isAgg3
 z3:=Tryz.sizeOf3
 v3:=Tryz.zeroValue3
 t4:=Tryz.underlying4
 a4:=Tryz.isAgg4
 z4:=Tryz.sizeOf4
 v4:=Tryz.zeroValue4
 t9:=Tryz.underlying9
 a9:=Tryz.isAgg9
 z9:=Tryz.sizeOf9
 v9:=Tryz.zeroValue9
 t31:=Tryz.underlying100
 a31:=Tryz.isAgg100
 z31:=Tryz.sizeOf100
 v31:=Tryz.zeroValue100 }
def Tryz.indexA_ren:Go.Shelf.Ren:=⟨fun | 219=>270 | 217=>275 | 225=>276 | 224=>277 | 267=>278 | 266=>280 | 314=>281 | n=>n,fun | 9=>9 | 3=>3 | 4=>4 | 5=>5 | 46=>175 | 146=>268 | 51=>218 | n=>n,fun | 1=>0 | n=>n⟩
theorem Tryz.indexA:Go.Proofs.Lays.n219 Tryz.prog Tryz.indexA_ren:={
 mixed:=by kernel_rfl
 f217:=Tryz.func275.trans (congrArg some (by kernel_rfl))
 f219:=Tryz.func270.trans (congrArg some (by kernel_rfl))
 f224:=Tryz.func277.trans (congrArg some (by kernel_rfl))
 f225:=Tryz.func276.trans (congrArg some (by kernel_rfl))
 f266:=Tryz.func280.trans (congrArg some (by kernel_rfl))
 f267:=Tryz.func278.trans (congrArg some (by kernel_rfl))
 f314:=Tryz.func281.trans (congrArg some (by kernel_rfl))
 t3:=Tryz.underlying3
 a3:=Tryz.isAgg3
 z3:=Tryz.sizeOf3
 v3:=Tryz.zeroValue3
 t4:=Tryz.underlying4
 a4:=Tryz.isAgg4
 z4:=Tryz.sizeOf4
 v4:=Tryz.zeroValue4
 t5:=Tryz.underlying5
 a5:=Tryz.isAgg5
 z5:=Tryz.sizeOf5
 v5:=Tryz.zeroValue5
 t9:=Tryz.underlying9
 a9:=Tryz.isAgg9
 z9:=Tryz.sizeOf9
 v9:=Tryz.zeroValue9
 t46:=Tryz.underlying175
 a46:=Tryz.isAgg175
 z46:=Tryz.sizeOf175
 v46:=Tryz.zeroValue175
 t51:=Tryz.underlying218
 a51:=Tryz.isAgg218
 z51:=Tryz.sizeOf218
 v51:=Tryz.zeroValue218
 t146:=Tryz.underlying268
 a146:=Tryz.isAgg268
 z146:=Tryz.sizeOf268
 v146:=Tryz.zeroValue268
 g1:=by kernel_rfl }
def Tryz.prefixA_ren:Go.Shelf.Ren:=⟨fun | 103=>191 | 210=>227 | 206=>253 | n=>n,fun | 9=>9 | 4=>4 | 24=>195 | 3=>3 | n=>n,fun | n=>n⟩
theorem Tryz.prefixA:Go.Proofs.Lays.n103 Tryz.prog Tryz.prefixA_ren:={
 mixed:=by kernel_rfl
 f103:=Tryz.func191.trans (congrArg some (by kernel_rfl))
 f206:=Tryz.func253.trans (congrArg some (by kernel_rfl))
 f210:=Tryz.func227.trans (congrArg some (by kernel_rfl))
 t3:=Tryz.underlying3
 a3:=Tryz.isAgg3
 z3:=Tryz.sizeOf3
 v3:=Tryz.zeroValue3
 t4:=Tryz.underlying4
 a4:=Tryz.isAgg4
 z4:=Tryz.sizeOf4
 v4:=Tryz.zeroValue4
 t9:=Tryz.underlying9
 a9:=Tryz.isAgg9
 z9:=Tryz.sizeOf9
 v9:=Tryz.zeroValue9
 t24:=Tryz.underlying195
 a24:=Tryz.isAgg195
 z24:=Tryz.sizeOf195
 v24:=Tryz.zeroValue195 }
end Go.Proofs.YtolnlfnndnpiiaaGreat
namespace Go.Proofs.YtolnlfnndnpiiaaGreat
open Go.RowKit
theorem wV (s:ByteArray) (w:World) :
  Calls Tryz.prog 270 #[.string s,.string ⟨#[47]⟩] w fun e w'=>e=.returned (.int .i64 (Lib.indexByte s.data.toList 47))∧w'=w :=
 Any.stringslite_Index_one Tryz.indexA s 47 w
theorem zxd {l:Bs} (h:(47:UInt8)∉l):Lib.indexByte l 47 = -1:=by
 induction l with
 | nil=>rfl
 | cons c l ih =>
  have h1:¬ c=47:=fun e=>h (by simp[e])
  have h2:(47:UInt8)∉l:=fun e=>h (by simp[e])
  simp[Lib.indexByte,h1,ih h2]
theorem zbh {a:Bs} (b:Bs) (h:(47:UInt8)∉a):Lib.indexByte (a++47 :: b) 47=a.length:=by
 induction a with
 | nil=>simp[Lib.indexByte]
 | cons c a ih =>
  have h1:¬ c=47:=fun e=>h (by simp[e])
  have h2:(47:UInt8)∉a:=fun e=>h (by simp[e])
  have ih:=ih h2;simp only[List.cons_append,Lib.indexByte,ih];have:((a.length:Int) == -1)=false:=by simp
  simp[h1,this]
theorem zy6 (l:Bs) (w:World) (h:(47:UInt8)∉l) :
  Calls Tryz.prog 254 #[.string (str l),.string ⟨#[47]⟩] w fun e w'=>e=.returned (.tuple #[.string (str l),.string ⟨#[]⟩,.bool false])∧∃ n,w'=w.drewN n:=by
 have HI:=aA (zxd h);go_enter Tryz.func254,Tryz.ntmps254;go_wp2_with (go_at_call 270;refine (wV _ _).mono ?_;rintro e w' ⟨rfl,rfl⟩;rw[aT,HI.out])
 go_ret3
 exact ⟨rfl,0,rfl⟩
theorem zkj (l:Bs) (w:World) (h:(47:UInt8)∉l) :
  Calls Tryz.prog 229 #[.string (str l),.string ⟨#[47]⟩] w fun e w'=>e=.returned (.tuple #[.string (str l),.string ⟨#[]⟩,.bool false])∧∃ n,w'=w.drewN n:=by
 go_enter Tryz.func229,Tryz.ntmps229;go_wp2_with (go_at_call 254;refine (zy6 _ _ h).mono ?_;rintro e w' ⟨rfl,n,rfl⟩)
 go_ret3
 exact ⟨rfl,n,rfl⟩
theorem zca (a b:Bs) (w:World) (h:(47:UInt8)∉a) (hl:a.length≤9223372036854775806) :
  Calls Tryz.prog 254 #[.string (str (a++47 :: b)),.string ⟨#[47]⟩] w fun e w'=>e=.returned (.tuple #[.string (str a),.string (str b),.bool true])∧∃ n,w'=w.drewN n:=by
 have HI:=aA (zbh b h);have c0:(0:Int)≤a.length:=by omega
 have c1:(a.length:Int)≤((str (a++47 :: b)).size:Int):=by rw[aK];simp;omega
 have c2:(a.length:Int)+1≤((str (a++47 :: b)).size:Int):=by rw[aK];simp;omega
 have HA:=aA (show (str (a++47 :: b)).extract 0 a.length=str a by rw[Lib.extract_eq,aT];simp[str])
 have HB:=aA (show (str (a++47 :: b)).extract (a.length+1) (str (a++47 :: b)).size=str b by rw[Lib.extract_eq,aT,aK,show (a++47 :: b).drop (a.length+1)=b by simp,List.take_of_length_le (by simp;omega)];rfl)
 have hm:(a.length:Int)≤9223372036854775806:=by omega
 generalize hx:str (a++47 :: b)=x at *;have HX:=aA hx;clear hx;go_enter Tryz.func254,Tryz.ntmps254;go_wp2_with (go_at_call 270;refine (wV _ _).mono ?_;rintro e w' ⟨rfl,rfl⟩;rw[←HX.out,aT,HI.out,HX.out])
 go_region
 go_wp2
 go_ret3
 exact ⟨by rw[HA.out,HB.out];rfl,1,rfl⟩
theorem zgm (a b:Bs) (w:World) (h:(47:UInt8)∉a) (hl:a.length≤9223372036854775806) :
  Calls Tryz.prog 229 #[.string (str (a++47 :: b)),.string ⟨#[47]⟩] w fun e w'=>e=.returned (.tuple #[.string (str a),.string (str b),.bool true])∧∃ n,w'=w.drewN n:=by
 go_enter Tryz.func229,Tryz.ntmps229;go_wp2_with (go_at_call 254;refine (zca _ _ _ h hl).mono ?_;rintro e w' ⟨rfl,n,rfl⟩)
 go_ret3
 exact ⟨rfl,n,rfl⟩
theorem zj2 {l r:Bs} (h:l=47 :: r):Lib.hasPrefix l [47]=true∧Lib.trimPrefix l [47]=r:=by
 subst h;have e:Lib.hasPrefix (47 :: r) [47]=true:=by simp[Lib.hasPrefix]
 exact ⟨e,by simp[Lib.trimPrefix,e]⟩
theorem zzh {l:Bs} (h:∀ r,l≠47 :: r):Lib.hasPrefix l [47]=false:=by
 cases l with
 | nil=>rfl
 | cons c r =>
  have hc:c≠47:=fun e=>h r (by rw[e])
  have:((47:UInt8)==c)=false:=by simpa using Ne.symm hc
  simp only[Lib.hasPrefix,List.isPrefixOf,this,Bool.false_and]
theorem zt5 (s:ByteArray) (r:Bs) (w:World) (h:s.data.toList=47 :: r) :
  Calls Tryz.prog 191 #[.string s,.string ⟨#[47]⟩] w fun e w'=>e=.returned (.tuple #[.string (str r),.bool true])∧w'=w:=by
 have:=Any.strings_CutPrefix Tryz.prefixA s ⟨#[47]⟩ w;have e1:=(zj2 h).1;have e2:=(zj2 h).2;simp only[e1,e2]at this;exact this
theorem zz6 (s:ByteArray) (w:World) (h:∀ r,s.data.toList≠47 :: r) :
  Calls Tryz.prog 191 #[.string s,.string ⟨#[47]⟩] w fun e w'=>(∃ x,e=.returned (.tuple #[.string x,.bool false]))∧w'=w:=by
 have:=Any.strings_CutPrefix Tryz.prefixA s ⟨#[47]⟩ w;have e1:=zzh h;simp only[e1]at this;exact this.mono fun e w' ⟨h1,h2⟩=>⟨⟨_,h1⟩,h2⟩
theorem pR (s:ByteArray) (w:World) (hl:s.size≤281474976710656) :
  Calls Tryz.prog 84 #[.string s] w fun e w'=>e=.returned (.string s)∧Below w.heap.size w w':=by
 have H:=aA (fun w=>Any.stringslite_Clone Tryz.cloneA s w hl)
 go_enter Tryz.func84,Tryz.ntmps84;go_wp2_with fail
 refine (H.out _).mono ?_;rintro e w1 ⟨rfl,hb1⟩;go_wp2_with fail
 go_ret
 exact ⟨rfl,hb1⟩
theorem znm (a:Option Addr) (c:Nat) (ps:List Bs) (x:ByteArray) (w:World) (h:bX w a ps) (hn:ps.length≤9223372036854775807) (n:Nat) (hpn:n=ps.length) :
  Calls Tryz.prog 239 #[.slice a n c,.string x] w fun e w'=>e=.returned (.bool (decide (x.data.toList∈ps)))∧w'=w:=by
 by_cases h0:ps=[]
 ·subst h0
  subst hpn;exact Any.slices_Contains_string_empty Tryz.hasA a c x w
 ·obtain ⟨b,off,rfl,hb,hcell⟩:=h h0
  have:=Any.slices_Contains_string Tryz.hasA b off n c (ps.map str) x w (by simp;omega) (by omega)
   (fun j hj=>by
    have hj':j<ps.length:=by simpa using hj
    rw[hcell j hj'];simp[List.getD_eq_getElem?_getD,hj'])
  have e:Lib.containsS ((ps.map str).take n) x=decide (x.data.toList∈ps):=by
   rw[List.take_of_length_le (by simp;omega),Bool.eq_iff_iff,Lib.containsS_iff]
   simp only[List.mem_map,decide_eq_true_eq];constructor
   ·rintro ⟨p,hp,rfl⟩;rw[aT];exact hp
   ·intro hp;exact ⟨_,hp,zj9 x⟩
  rw[e]at this;exact this
end Go.Proofs.YtolnlfnndnpiiaaGreat
namespace Go.Proofs.YtolnlfnndnpiiaaGreat
open Go.RowKit Go.Shelf
attribute [local go_sem] Oper.semAt_some
abbrev Pc:={ p:Bs // p.length≤2097152 }
def pcs (ps:List Pc):List Bs:=ps.map Subtype.val
theorem iE (ps:List Pc) (x:Pc):pcs (ps ++ [x])=pcs ps ++ [x.1]:=by simp[pcs]
theorem qV (ps:List Pc):(pcs ps).length=ps.length:=by simp[pcs]
def zxn:Value→Nat
 | .string s=>s.size
 | _=>0
def zuc:Value→Nat
 | .bool true=>1
 | _=>0
theorem zM (w:World) (n:Nat):w.grownBy (w.drewN n) none:=⟨rfl,rfl,rfl,Nat.le_refl _,fun _ _ _=>rfl⟩
theorem zyf (r:Bs):(47:UInt8)∉r∨∃ a b,r=a++47 :: b∧(47:UInt8)∉a:=by
 induction r with
 | nil=>exact .inl (by simp)
 | cons c r ih =>
  by_cases hc:c=47
  ·exact .inr ⟨[],r,by simp[hc],by simp⟩
  ·rcases ih with h | ⟨a,b,h,ha⟩
   ·exact .inl (by simp[h,Ne.symm hc])
   ·exact .inr ⟨c :: a,b,by simp[h],by simp[ha,Ne.symm hc]⟩
theorem zqe (n:Nat) (l Bn n₀:Nat) (t:Bs) (ht:t.length≤2097152) (J Jx:List Pc→World→Prop) (B:Nat) (hJ:AbidesFrom B J)
  (hY:∀ (pre:List Pc) (x:Pc) W,J pre W→pre.length<(aX t).length→YieldAt Fence.wide (n - 1) Tryz.prog l #[.string (str x.1)] W fun e W' =>
   (e=.returned (.bool true)∧J (pre ++ [x]) W'∧Below n₀ W W')∨(e=.returned (.bool false)∧Jx (pre ++ [x]) W'))
  (W:World) (hBn:W.cell? ⟨Bn,0,none⟩=some (.string (str t))) (h0:J [] W) :
  CallsIn Fence.wide n Tryz.prog 228 #[.func (.yield l) #[] #[],.pointer (some ⟨Bn,0,none⟩)] W fun e W'=>(∃ v,e=.returned v) ∧
   ((∃ ys,pcs ys=aX t∧J ys W')∨(∃ pre,pcs pre <+: aX t∧Jx pre W')):=by
 refine callsIn_of_wp Tryz.func228 rfl trivial ?_ rfl;simp only[Tryz.ntmps228,List.size_toArray,List.length_cons,List.length_nil,Nat.reduceAdd,Nat.reduceSub,Array.replicate_succ,Array.replicate_zero,List.push_toArray,List.append_toArray,List.nil_append,List.cons_append];gi_wp2
 gi_loopw [3,4] (fun r m wr=>∃ (pre:List Pc) (q:Bs) (more:Bool),r=.string (str q)∧m=.bool more∧q.length≤2097152∧Hid (aX t=pcs pre++(if more then aX q else []))∧Hid (J pre wr)) (fun r m _=>zuc m * (zxn r+1))
 case atStart=>exact ⟨[],t,true,rfl,rfl,ht,aA rfl,aA h0⟩
 case round =>
  obtain ⟨pre,q,more,rfl,rfl,hq,HC,HJ⟩:=hrel;cases more with
  | false =>
   gi_wp2
   go_end0
   exact ⟨⟨_,rfl⟩,.inl ⟨pre,by have:=HC.out;simpa using this.symm,HJ.out⟩⟩
  | true =>
   have HC':=aA (show aX t=pcs pre++aX q from HC.out)
   rcases zyf q with hm | ⟨a,b,hqe,ha⟩
   ·have HE:=aA (zz3 hm)
    have hlen:pre.length<(aX t).length:=by rw[HC'.out,HE.out];simp[pcs]
    gi_wp2_with fail
    refine ⟨trivial,fun h=>(by cases h),?_⟩
    refine (callsIn_wide.2 (zkj q _ hm)).mono ?_;rintro e w' ⟨rfl,k,rfl⟩;obtain ⟨fn,tmps,assign,body,hy,hR⟩:=hY pre ⟨q,hq⟩ (wr.drewN k) (hJ _ _ _ none HJ.out (zM _ _) (fun r e=>by cases e)) hlen
    dsimp only at hy
    gi_wp2_with fail
    refine ⟨fun h=>(by cases h),hR.mono ?_⟩
    clear hR hy;rintro e W3 (⟨rfl,hJ3,hk3⟩ | ⟨rfl,hJx3⟩)
    ·have H3:=aA hJ3
     clear hJ3 hk3;gi_wp2_with fail
     go_roundw
     case rel=>exact ⟨pre ++ [⟨q,hq⟩],[],false,rfl,rfl,by simp,aA (by rw[HC'.out,HE.out,iE];simp),H3⟩
     case measure=>simp[zuc]
    ·have H3:=aA hJx3
     clear hJx3;gi_wp2_with fail
     refine bodyPost_ret (results_none rfl _ _ _) rfl ?_;exact ⟨⟨_,rfl⟩,.inr ⟨pre ++ [⟨q,hq⟩],⟨[],by rw[HC'.out,HE.out,iE];simp⟩,H3.out⟩⟩
   ·have hql:q.length=a.length+(b.length+1):=by rw[hqe];simp
    have hal:a.length≤2097152:=by omega
    have HE:=aA (show aX q=a :: aX b by rw[hqe];exact zx6 b ha)
    have hlen:pre.length<(aX t).length:=by rw[HC'.out,HE.out];simp[pcs]
    have HQ:=aA (zgm a b wr ha (by omega))
    rw[←hqe]at HQ;have hbl:b.length<q.length:=by omega
    clear hqe hql;gi_wp2_with fail
    refine ⟨trivial,fun h=>(by cases h),?_⟩
    refine (callsIn_wide.2 HQ.out).mono ?_;rintro e w' ⟨rfl,k,rfl⟩;obtain ⟨fn,tmps,assign,body,hy,hR⟩:=hY pre ⟨a,hal⟩ (wr.drewN k) (hJ _ _ _ none HJ.out (zM _ _) (fun r e=>by cases e)) hlen
    dsimp only at hy
    gi_wp2_with fail
    refine ⟨fun h=>(by cases h),hR.mono ?_⟩
    clear hR hy;rintro e W3 (⟨rfl,hJ3,hk3⟩ | ⟨rfl,hJx3⟩)
    ·have H3:=aA hJ3
     clear hJ3 hk3;gi_wp2_with fail
     go_roundw
     case rel=>exact ⟨pre ++ [⟨a,hal⟩],b,true,rfl,rfl,by omega,aA (by rw[HC'.out,HE.out,iE];simp),H3⟩
     case measure=>simp[zuc,zxn,aK];omega
    ·have H3:=aA hJx3
     clear hJx3;gi_wp2_with fail
     refine bodyPost_ret (results_none rfl _ _ _) rfl ?_;exact ⟨⟨_,rfl⟩,.inr ⟨pre ++ [⟨a,hal⟩],⟨aX b,by rw[HC'.out,HE.out,iE];simp⟩,H3.out⟩⟩
theorem tI (s:ByteArray) (w:World) :
  Calls Tryz.prog 192 #[.string s] w fun e w'=>e=.returned (.func (.func 228) #[] #[.pointer (some ⟨w.heap.size,0,none⟩)])∧w'=w.alloc (.cells #[.string s] 9):=by
 go_enter Tryz.func192,Tryz.ntmps192;go_wp2
 go_ret
 exact ⟨rfl,rfl⟩
theorem rQ (n:Nat) (Bn n₀:Nat) (t:Bs) (ht:t.length≤2097152) (w:World) (hBn:Bn<w.heap.size) (hc:w.cell? ⟨Bn,0,none⟩=some (.string (str t))) :
  SeqStopsK Fence.wide n Tryz.prog 228 #[.pointer (some ⟨Bn,0,none⟩)] (fun x:Pc=>#[Value.string (str x.1)]) (Below n₀) (fun ys=>pcs ys=aX t) (fun pre=>pcs pre <+: aX t) (aX t).length w:=fun l J Jx W hW hJ _ hY h0 =>
 zqe n l Bn n₀ t ht J Jx _ hJ hY W ((hW.cell (p:=⟨Bn,0,none⟩) hBn).trans hc) h0
end Go.Proofs.YtolnlfnndnpiiaaGreat
