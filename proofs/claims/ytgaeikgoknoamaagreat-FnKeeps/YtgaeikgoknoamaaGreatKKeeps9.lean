/-
  Texts put together: SeeI SeeK SeeO SeeP SeeN LayT IteR IteV.
-/
import Derived.Test.YtgaeikgoknoamaaGreatKKeeps8
import Derived.Test.YtgaeikgoknoamaaGreatKKeeps6
import Derived.Test.YtgaeikgoknoamaaGreatKKeeps4
import Derived.Shelf.SlMaps.Clone
import Derived.Lib.SlMapFilter
import Derived.RangeFuncGives
import Derived.Shelf.AbstractIn
import Derived.RangeFuncSeq
import Derived.Sort.MapsRangeIn
import Derived.OwnWalkIn
import Derived.TacticsInMore
import Derived.RegionIn
import Derived.LoopNIn
import Derived.LoopIn
import Derived.Maps.AppendAt
import Derived.Shelf.Abstract
import Derived.Test.YtgaeikgoknoamaaGreatKKeeps5
import Derived.Shelf.SlIter.Collect
import Derived.Shelf.SlSortCmp.WholeK
import Derived.Shelf.Small.Bits
import Derived.Ground.SlsfProg
import Derived.Test.YtgaeikgoknoamaaGreatProg
set_option linter.unusedVariables false
set_option maxHeartbeats 4000000
set_option maxRecDepth 100000
namespace Go.Proofs.YtgaeikgoknoamaaGreat
open Go.RowKit Go.Maps
attribute [local go_sem ↓] Go.wp_at_zero Go.wp_at_succ
theorem zZ (e:En):(asT e).chunks=e.chunks:=by unfold asT;split <;> rfl
theorem qT (a:Option Addr) (c n:Nat) (ls:List (List En)) (p:Bs) (w:World) (h:RdL w a ls) (hn:n=ls.length) (hl:ls.length≤1048576) (hs:fV ls) (hp:p.length≤1048576) :
  Calls Tryz.prog 124 #[.slice a n c,.string (str p)] w (nE (kS ls p) (kI ls p) w):=by
 subst hn;have X0:=aA (Box.new w (.int .i64 0) (.slice none 0 0) 190);have B0:=aA (aC w (.cells #[.int .i64 0,.slice none 0 0] 190));have HR:=aA h;have HSL:=aA hs;have HAs:=aA (zt5 a c ls.length ls p _ (h.below B0.out) rfl hl hs hp);clear h hs;by_cases hz:dP ls p=0
 ·obtain ⟨h4,hRs,hpf⟩:=nF hz
  rw[hz]at HAs;have HRs:=aA (wJ hRs HSL.out);go_enter Tryz.func124,Tryz.ntmps124;go_wp2_with fail
  refine HAs.out.mono ?_;rintro r w1 ⟨rfl,hb1⟩;have B1:=aA (aB B0.out hb1);have X1:=aA (X0.out.below hb1);clear hb1 X0 B0 HAs;go_wp2_with fail
  refine (yT a c ls.length ls w1 (HR.out.below B1.out) rfl h4 HRs.out).mono ?_;rintro r w2 ⟨b,N,rfl,hbb,hN,hM,hb2⟩;have HM:=aA hM;have BB2:=aA hb2;have B2:=aA (aB B1.out hb2);have X2:=aA (X1.out.below hb2);have HSA:=aA (zi1 b N p (cY ls) w1 w2 hM hp);clear hM hb2;unfold zjg at HSA;cases hsn:dN (cY ls) p 4 with
  | none =>
   have HC:=aA (zy6 hz hsn);rw[hsn]at HSA;clear hz hsn hRs hpf;go_wp2_with fail
   refine HSA.out.mono ?_;rintro r w3 ⟨⟨v,s,rfl⟩,hb3⟩;have B3:=aA (aB (aB B2.out hb3) (aC w3 (.cells #[.int .i64 v,.string s] 177)));obtain ⟨⟨t0,t1⟩,t2,t3⟩:=X2.out.below (aB hb3 (aC w3 (.cells #[.int .i64 v,.string s] 177)));clear hb3;go_wp2_with fail
   exact bodyPost_ret (v:=.agg #[.int .i64 4,.slice none 0 0]) (by simp[results,Tryz.results124,go_sem,t0,t1]) rfl (by rw[HC.out.1,HC.out.2.2];exact nE.bad (Nat.le_refl _) B3.out)
  | some k =>
   obtain ⟨hk4,e,he,-⟩:=jY hsn;have HC:=aA (zz6 hz hsn he);rw[hsn]at HSA;obtain ⟨es,hes,hee,-⟩:=iV he;have hkk:=mV ((hRs es hes).ent e hee);have hsm:=(HSL.out es hes).2 e hee;clear hz hsn hRs hpf hes hee;go_wp2_with fail
   refine HSA.out.mono ?_;rintro r w3 ⟨rfl,hb3⟩;have BA:=aA (aC w3 (.cells #[.int .i64 k,.string (str p)] 177));have B3:=aA (aB (aB B2.out hb3) BA.out);have X3:=aA (X2.out.below (aB hb3 BA.out));have BB3:=aA (aB (aB BB2.out hb3) BA.out);obtain ⟨x,cc,-,hlk,hrd⟩:=((HM.out.below hb3).below BA.out).yes (by omega:k≤100) hp he
   have HL:=aA hlk;have HRc:=aA (hrd.below BB3.out);have Y3:=aA (Box.new w3 (.int .i64 k) (.string (str p)) 177);unfold gE;clear hb3 hlk hrd he HM HSA X2 B2 BB2 BA;obtain ⟨⟨y0,y1⟩,y2,y3⟩:=Y3.out;unfold gE at HL;go_wp2_with (at_lookup;refine hI rfl _ _ 120 false rfl _ _ _ rfl rfl HL.out ?_)
   refine (zsc e x cc _ hkk).mono ?_;rintro r w4 ⟨rfl,hb4⟩;have B4:=aA (aB B3.out hb4);have X4:=aA (X3.out.below hb4);have BA5:=aA (aC w4 (.cells #[.int .i64 (asT e).size,.slice x (asT e).chunks.length cc,.string (str (asT e).path),.int .i64 (asT e).kind] 91));have HR4:=aA (show aO .i64 w4 x (asT e).chunks by rw[zZ];exact HRc.out.below hb4)
   have RI5:=aA (RdI.fresh (e:=asT e) (c:=cc) (t:=91) HR4.out);have hsm2:(asT e).path.length≤1048576∧(asT e).chunks.length≤1048576:=by rw[gK,zZ];exact hsm
   have B5:=aA (aB B4.out BA5.out);have X5:=aA (X4.out.below BA5.out);have hs4:=B4.out.size;have hlt5:w.heap.size<(w4.alloc (.cells #[.int .i64 (asT e).size,.slice x (asT e).chunks.length cc,.string (str (asT e).path),.int .i64 (asT e).kind] 91)).heap.size:=X5.out.1.lt;clear hb4 y0 y1 y2 y3 Y3 HL HRc HR4 X3 B3 BB3 X4 BA5;unfold itV;generalize asT e=E at *;go_wp2_with fail
   generalize w4.alloc (.cells #[.int .i64 E.size,.slice x E.chunks.length cc,.string (str E.path),.int .i64 E.kind] 91)=W5 at *;refine (zj4 _ _ 1 [E] _ RI5.out rfl (by simp) (fun y hy=>by simp only[List.mem_singleton]at hy;subst hy;exact hsm2)).mono ?_
   rintro r w7 ⟨av7,cv7,rfl,hG7,hb7⟩;obtain ⟨⟨t0,t1⟩,t2,t3⟩:=X5.out.below hb7;have G7:=aA hG7;have B7:=aA (aB B5.out hb7);clear hG7 hb7;go_wp2_with fail
   exact bodyPost_ret (v:=.agg #[.int .i64 0,.slice av7 1 cv7]) (by simp[results,Tryz.results124,go_sem,t0,t1]) rfl (by rw[HC.out.1,HC.out.2.2];exact nE.of (w2:=w1) hlt5 (Nat.le_refl _) rfl G7.out B7.out)
 ·have HC:=aA (zfk hz)
  generalize dP ls p=F at *;have hz2:(F != 0)=true:=by simp;exact hz
  clear hz;go_enter Tryz.func124,Tryz.ntmps124;go_wp2_with fail
  refine HAs.out.mono ?_;rintro r w1 ⟨rfl,hb1⟩;have B1:=aA (aB B0.out hb1);obtain ⟨⟨t0,t1⟩,t2,t3⟩:=X0.out.below hb1;clear hb1;go_wp2_with fail
  exact bodyPost_ret (v:=.agg #[.int .i64 F,.slice none 0 0]) (by simp[results,Tryz.results124,go_sem,t0,t1]) rfl (by rw[HC.out.1,HC.out.2.2];exact nE.bad (Nat.le_refl _) B1.out)
theorem zy4 (b:Nat) (es:Array MapEntry) (clock:Nat) (w:World) (hb:w.heap[b]?=some (.map es clock)) :
  Calls Tryz.prog 115 #[.map (some b)] w fun e w'=>e=.returned (.map (some w.heap.size))∧w'=w.alloc (.map es clock):=by
 have hq:=fun w=>run_eql_map_nil_sl (P:=Tryz.prog) w 120 _ _ (some b) Tryz.underlying120
 go_enter Tryz.func115,Tryz.ntmps115;go_wp2
 rw[run_callFunc_extern Tryz.func162 (by kernel_rfl) (by kernel_rfl) (by kernel_rfl) (e:=Extern.MapsClone.clone) (by kernel_rfl),run_maps_clone_sl w 120 hb]
 simp only[Result.andThen];rw[Oper.upon_value];go_wp2
 rw[run_typeAssert_map_sl _ 120 _ _ _ _ Tryz.underlying120];simp only[Result.andThen];rw[Oper.upon_value];go_wp2
 go_ret
 exact ⟨rfl,rfl⟩
theorem zz4 (b N:Nat) (S:Nat→Bs→Option En) (w0 w:World) (h:dZ w0 w b N S) :
  Calls Tryz.prog 115 #[.map (some b)] w fun r w'=>r=.returned (.map (some w.heap.size))∧dZ w0 w' w.heap.size N S∧Below w.heap.size w w':=by
 obtain ⟨Dt,A,C,h1,h2⟩:=h;obtain ⟨es,clock,hb,F,hs,hD⟩:=h1;refine (zy4 b es clock w hb).mono fun e w' ⟨he,hw⟩=>?_
 subst hw;exact ⟨he,⟨Dt,A,C,⟨es,clock,(MapKept.heap_alloc w _).1,F,hs,hD⟩,h2⟩,aC _ _⟩
def nL (S:Nat→Bs→Option En) (i:Nat) (p:Bs):Bool:=!decide (dN S p 4=some i)
theorem zn9 (b N i bx:Nat) (p:Bs) (S:Nat→Bs→Option En) (e:En) (x:Option Addr) (cc:Nat) (w0 w:World) (h:dZ w0 w b N S) (hp:p.length≤1048576) (hx:w.cell? ⟨bx,0,none⟩=some (.map (some b))) :
  Calls Tryz.prog 117 (#[gE i p,itV e x cc] ++ #[.pointer (some ⟨bx,0,none⟩)]) w fun r w'=>r=.returned (.bool (nL S i p))∧Below w.heap.size w w':=by
 have hbx:bx<w.heap.size:=World.block_lt_of_cell? w ⟨bx,0,none⟩ hx;have BA:=aA (aC w (.cells #[.int .i64 i,.string (str p)] 177));have YA:=aA (Box.new w (.int .i64 i) (.string (str p)) 177);have BB:=aA (aC (w.alloc (.cells #[.int .i64 i,.string (str p)] 177)) (.cells #[.int .i64 e.size,.slice x e.chunks.length cc,.string (str e.path),.int .i64 e.kind] 91));have B2:=aA (aB BA.out BB.out);have Y2:=aA (YA.out.below BB.out);have HS:=aA (zi1 b N p S w0 _ ((h.below BA.out).below BB.out) hp);have hx2:=(B2.out.cell (p:=⟨bx,0,none⟩) hbx).trans hx;obtain ⟨⟨y0,y1⟩,y2,y3⟩:=Y2.out
 clear BA YA BB h hx;unfold gE itV;unfold zjg at HS;cases hs:dN S p 4 with
 | none =>
  have HG:=aA (show nL S i p=true by simp[nL,hs])
  rw[hs]at HS;clear hs;go_enter Tryz.func117,Tryz.ntmps117;go_wp2_with fail
  refine HS.out.mono ?_;rintro r w3 ⟨⟨v,s,rfl⟩,hb3⟩;have B3:=aA (aB B2.out (aB hb3 (aC _ (.cells #[.int .i64 v,.string s] 177))));clear hb3 y0 y1 y2 y3;go_wp2_with fail
  go_ret
  exact ⟨by rw[HG.out];rfl,B3.out⟩
 | some k =>
  rw[hs]at HS;have HG:=aA (show nL S i p=!decide (k=i) by simp[nL,hs])
  clear hs;unfold gE at HS;go_enter Tryz.func117,Tryz.ntmps117;go_wp2_with fail
  refine HS.out.mono ?_;rintro r w3 ⟨rfl,hb3⟩;have BC:=aA (aB hb3 (aC _ (.cells #[.int .i64 k,.string (str p)] 177)));have B3:=aA (aB B2.out BC.out);clear y0 y1 y2 y3;obtain ⟨⟨y0,y1⟩,y2,y3⟩:=Y2.out.below BC.out;clear hb3;by_cases hk:k=i
  ·subst hk
   have HG2:=aA (show nL S k p=false by rw[HG.out];simp)
   go_wp2_with fail
   go_ret
   exact ⟨by rw[HG2.out];rfl,B3.out⟩
  ·have HG2:=aA (show nL S i p=true by rw[HG.out];simp[hk])
   have hk2:¬ (k:Int)=(i:Int):=by omega
   go_wp2_with fail
   go_ret
   exact ⟨by rw[HG2.out];rfl,B3.out⟩
def zxi (W0:World) (b:Nat) (S:Nat→Bs→Option En) (fn:FuncId) (cap:Array Value) (f:Nat→Bs→Bool):Prop :=
 (∀ args w,(callFunc fn args).run Tryz.prog w=.ok (.enter fn args) w)∧∀ (i:Nat) (p:Bs) (e:En) (x:Option Addr) (cc:Nat) (w:World),i≤100→p.length≤1048576→aD (fun y=>y=b) W0 w →
  Calls Tryz.prog fn (#[gE i p,itV e x cc]++cap) w fun r w'=>r=.returned (.bool (f i p))∧Below w.heap.size w w'
theorem zhh (f:Nat→Bs→Bool):∃ pk:Lit→Bool,∀ i p,i≤100→p.length≤1048576→pk (eC i p)=f i p:=by
 refine ⟨fun kl=>@decide (∃ i p,i≤100∧p.length≤1048576∧kl=eC i p∧f i p=true) (Classical.propDecidable _),fun i p hi hp=>?_⟩
 rw[Bool.eq_iff_iff,@decide_eq_true_iff _ (Classical.propDecidable _)];constructor
 ·rintro ⟨j,q,hj,hq,he,hf⟩
  obtain ⟨rfl,rfl⟩:=rX hi hj hp hq he;exact hf
 ·intro hf;exact ⟨i,p,hi,hp,rfl,hf⟩
theorem zg5 {f:Lit→Bool} {es:List (Lit × DataW Value)} {kl:Lit}:has (Lib.deleteFuncD (fun k _=>f k) (.map es)) kl=(has (.map es) kl&&!f kl):=by
 show (es.filter fun p=>!f p.1).any (fun p=>p.1.sameKey kl)=(es.any (fun p=>p.1.sameKey kl)&&!f kl)
 induction es with
 | nil=>simp
 | cons x r ih =>
  cases hs:x.1.sameKey kl
  ·cases hx:f x.1
   ·rw[List.filter_cons_of_pos (by simp[hx]),List.any_cons,List.any_cons,hs,ih];simp
   ·rw[List.filter_cons_of_neg (by simp[hx]),List.any_cons,hs,ih];simp
  ·have e:=WideAt.sameKey_eq hs
   cases hx:f x.1
   ·have h0:f kl=false:=by rw[←e];exact hx
    rw[List.filter_cons_of_pos (by simp[hx]),List.any_cons,List.any_cons,hs,h0];simp
   ·have h0:f kl=true:=by rw[←e];exact hx
    rw[List.filter_cons_of_neg (by simp[hx]),ih,List.any_cons,hs,h0];simp
theorem zvg {f:Lit→Bool} {es:List (Lit × DataW Value)} {kl:Lit} (hk:f kl=false) (z:DataW Value):(Lib.deleteFuncD (fun k _=>f k) (.map es)).atKey kl z=(DataW.map es).atKey kl z:=by
 have hfind:(es.filter fun p=>!f p.1).find? (fun p=>p.1.sameKey kl)=es.find? (fun p=>p.1.sameKey kl):=by
  induction es with
  | nil=>rfl
  | cons x r ih =>
   cases hs:x.1.sameKey kl
   ·cases hx:f x.1
    ·rw[List.filter_cons_of_pos (by simp[hx]),List.find?_cons_of_neg (by simp[hs]),List.find?_cons_of_neg (by simp[hs]),ih]
    ·rw[List.filter_cons_of_neg (by simp[hx]),List.find?_cons_of_neg (by simp[hs]),ih]
   ·have e:=WideAt.sameKey_eq hs
    have hx:f x.1=false:=by rw[e];exact hk
    rw[List.filter_cons_of_pos (by simp[hx]),List.find?_cons_of_pos (by simp[hs]),List.find?_cons_of_pos (by simp[hs])]
 simp only[Lib.deleteFuncD,DataW.atKey,hfind]
theorem zsk {es:List (Lit × DataW Value)} {kl:Lit} {d:DataW Value} (h:∀ z,(DataW.map es).atKey kl z=d):∃ q∈es,q.1=kl:=by
 cases hf:es.find? (fun p=>p.1.sameKey kl) with
 | some q=>exact ⟨q,List.mem_of_find?_eq_some hf,WideAt.sameKey_eq (by simpa using List.find?_some hf)⟩
 | none =>
  have h1:=h .nil;have h2:=h (.map []);simp only[DataW.atKey,hf]at h1 h2;rw[←h1]at h2;cases h2
theorem sF {w w':World} (h:Below w.heap.size w w'):w.grownBy w' none:=⟨h.os,h.tape,h.output,h.size,fun k hk _=>h.block k hk⟩
theorem zl7 {S:Nat→Bs→Option En} {w0:World} {A:Nat→Bs→Option Addr} {C:Nat→Bs→Nat} {es0:List (Lit × DataW Value)} {pd:Lit→DataW Value→Bool} {left:Lit→Bool} {x c:Value} {kl:Lit} {yd:DataW Value} {yp:List MemPlace}
  (hap:es0.Pairwise (fun p q=>p.1≠q.1)) (h2:∀ i p,i≤100→p.length≤1048576→has (.map es0) (eC i p)=(S i p).isSome)
  (h3:∀ i p e,i≤100→p.length≤1048576→S i p=some e→(∀ z,(DataW.map es0).atKey (eC i p) z=.held (itV e (A i p) (C i p)))∧aO .i64 w0 (A i p) e.chunks)
  (h4:∀ kl,has (.map es0) kl=true→∃ i p,i≤100∧p.length≤1048576∧kl=eC i p)
  (hkey:keyOf Tryz.prog 177 x=some kl) (hlx:left kl=true) (hv:RVs c=some (yd,yp)) (hat:∀ z,(Fk pd es0 left).atKey kl z=yd) :
  ∃ i p e,i≤100∧p.length≤1048576∧kl=eC i p∧x=gE i p∧c=itV e (A i p) (C i p)∧S i p=some e:=by
 have hk:=fQ.key hkey;have hc:=at_cameK hap hk hlx hat;obtain ⟨q,hq,hqk⟩:=zsk (show ∀ z,(DataW.map (es0.filter fun p=>!pd p.1 p.2||left p.1)).atKey kl z=yd from hat)
 have hq0:=(List.mem_filter.1 hq).1;have hhas:has (.map es0) kl=true:=List.any_eq_true.2 ⟨q,hq0,by rw[hqk];exact WideAt.sameKey_self hk⟩
 obtain ⟨i,p,hi,hp,rfl⟩:=h4 kl hhas;have hx:x=gE i p:=fQ.inj hkey (lL hi hp);rw[h2 i p hi hp]at hhas;obtain ⟨e,he⟩:=Option.isSome_iff_exists.1 hhas;have h5:=(h3 i p e hi hp he).1 .nil;have h6:=WideAt.atKey_mem (H:=Value) (entries:=es0) (d:=q.2) .nil hk hap (by rw[←hqk];exact hq0)
 have h7:=hc q hq0 hqk;rw[h6,h7]at h5;simp only[RVs,Option.some.injEq,Prod.mk.injEq]at hv;have h8:=hv.1.trans h5;simp only[DataW.held.injEq]at h8;exact ⟨i,p,e,hi,hp,rfl,hx,h8,he⟩
theorem zs1 (b N:Nat) (S:Nat→Bs→Option En) (fn:FuncId) (cap:Array Value) (f:Nat→Bs→Bool) (w0 w:World) (h:dZ w0 w b N S) (hf:zxi w b S fn cap f) :
  Calls Tryz.prog 116 #[.map (some b),.func (.func fn) #[] cap] w fun r w'=>r=.returned (.tuple #[])∧dZ w0 w' b N (fun i p=>if f i p then none else S i p)∧aD (fun x=>x=b) w w':=by
 obtain ⟨Dt,A,C,h1,h2,h3,h4⟩:=h;obtain ⟨pk,hpk⟩:=zhh f;obtain ⟨es0,rfl,hap,hkeys⟩:=h1.entries fQ;have hown:=h1;have eg:=hf.1;have HF:=aA hf.2;have H2:=aA h2;have H3:=aA h3;have H4:=aA h4;have HP:=aA hpk;have HEnd:=aA (show ∀ w',w'.ownsMap Tryz.prog 177 RVs b N (Lib.deleteFuncD (fun k _=>pk k) (.map es0))→dZ w0 w' b N (fun i p=>if f i p then none else S i p) from fun w' ho=>by
  refine ⟨_,A,C,ho,fun i p hi hp=>?_,fun i p e hi hp he=>?_,fun kl hkl=>?_⟩
  ·rw[zg5,H2.out i p hi hp,HP.out i p hi hp]
   cases hx:f i p <;> simp[hx]
  ·have hfi:f i p=false:=by
    cases hx:f i p
    ·rfl
    ·simp[hx]at he
   have hS:S i p=some e:=by simpa [hfi] using he
   obtain ⟨g1,g2⟩:=H3.out i p e hi hp hS;exact ⟨fun z=>by rw[zvg (by rw[HP.out i p hi hp];exact hfi)];exact g1 z,g2⟩
  ·rw[zg5]at hkl
   exact H4.out kl (by simp at hkl;exact hkl.1))
 clear h2 h3 h4 hpk hf h1;go_enter Tryz.func116,Tryz.ntmps116;go_wp2_with (first
  | (at_range;refine wpList_range_own _ rfl _ 120 rfl 177 91 fQ Tryz.underlying120 RVs b N _ rfl hown ?_;intro w0 hrg0 hg0 hs0)
  | go_in)
 go_frame
 go_loopw [8] (fun _ wr=>∃ (left:Lit→Bool) (cnt:Nat),wr.ranges Tryz.prog 177 RVs b w.heap.size N (Fk (fun k _=>pk k) es0 left) left cnt∧w.grownBy wr (some b))
  (fun _ wr=>wr.rangeLeft b w.heap.size)
 case atStart=>exact ⟨_,_,by rw[Fk_start hkeys];exact hrg0,hg0.but _⟩
 case round =>
  obtain ⟨left,cnt,hrg,hgw⟩:=hrel;go_wp2_with (first
   | (at_next;refine wpList_next_ranges _ rfl _ rfl 177 fQ RVs id id (fun key _ _=>⟨key,rfl⟩) (fun v _ _=>⟨v,rfl⟩) b w.heap.size N _ _ _ rfl hrg ?_ ?_)
   | go_in)
  ·intro _ hl0
   go_wp2
   go_end0
   exact ⟨rfl,HEnd.out _ (by rw[←Fk_end hl0];exact hrg.owns),wP hgw⟩
  ·intro x c kl yd yp w1 cnt1 hkey hlx hv hat hrg1 hlt hg1 hs1 hen
   obtain ⟨i,p,e,hi,hp,rfl,hx,hcc,he⟩:=zl7 hap H2.out H3.out H4.out hkey hlx hv hat;have hgw1:=hgw.andThen hg1 (fun j hj=>by cases hj;exact Or.inl (Nat.le_refl _))
   have hx2:x=gE i p:=hx;have hc2:c=itV e (A i p) (C i p):=hcc;subst hx2 hc2;clear hx hcc;have BA:=aA (aC w1 (.cells #[.int .i64 i,.string (str p)] 177));have BB:=aA (aC (w1.alloc (.cells #[.int .i64 i,.string (str p)] 177)) (.cells #[.int .i64 e.size,.slice (A i p) e.chunks.length (C i p),.string (str e.path),.int .i64 e.kind] 91));have BC:=aA (aB BA.out BB.out);have YC:=aA ((Box.new w1 (.int .i64 i) (.string (str p)) 177).below BB.out);have hc:=HF.out i p e (A i p) (C i p) _ hi hp (wP (hgw1.andThen (sF BC.out) (fun j hj=>by cases hj)))
   rw[hs1]at YC;have HPK:=aA (HP.out i p hi hp);have HHat:=aA hat;have HKy:=aA hkey;unfold gE itV at hc hen ⊢;clear BA BB he hat hkey hv;cases hp2:f i p
   ·rw[hp2]at hc
    have HC:=aA hc;have hpk2:pk (eC i p)=false:=HPK.out.trans hp2;clear hc hp2;go_wp2_with go_in
    refine HC.out.mono ?_;rintro r w2 ⟨rfl,hb2⟩;have hg2:=sF (aB BC.out hb2);have hrg2:=hrg1.kept hg2 (by simp) (by simp)
    clear hb2 hen;go_wp2_with go_in
    go_roundw
    case rel=>exact ⟨_,cnt1,by rw[←Fk_stays hap (fQ.key HKy.out) hlx hpk2 HHat.out];exact hrg2,hgw1.andThen hg2 (fun j hj=>by cases hj)⟩
    case measure=>rw[hrg2.left_eq,hrg.left_eq];exact hlt
   ·rw[hp2]at hc
    have HC:=aA hc;have hpk2:pk (eC i p)=true:=HPK.out.trans hp2;clear hc hp2;go_wp2_with go_in
    refine HC.out.mono ?_;rintro r w2 ⟨rfl,hb2⟩;have hg2:=sF (aB BC.out hb2);have hrg2:=hrg1.kept hg2 (by simp) (by simp)
    obtain ⟨⟨y0,y1⟩,y2,y3⟩:=YC.out.below hb2;clear hb2 hen;go_wp2_with (first
     | (at_delete;refine wpList_delete_ranges _ rfl _ _ 120 177 rfl 91 fQ Tryz.underlying120 RVs b w.heap.size N _ _ _ rfl hrg2 _ _ rfl HKy.out ?_;intro w3 cnt3 hrg3 hle hturn;go_frame)
     | go_in)
    rw[strike_twice]at hrg3;go_roundw
    case rel=>exact ⟨_,cnt3,by rw[←Fk_struck hap (fQ.key HKy.out) hlx hpk2 HHat.out];exact hrg3,(hgw1.andThen hg2 (fun j hj=>by cases hj)).andThen hturn.grown (fun j hj=>by cases hj;exact Or.inr rfl)⟩
    case measure=>rw[hrg3.left_eq,hrg.left_eq];omega
end Go.Proofs.YtgaeikgoknoamaaGreat
namespace Go.Proofs.YtgaeikgoknoamaaGreat
open Go.RowKit Go.Maps Go.Shelf
structure nB (w0:World) (S:Nat→Bs→Option En) (left:Lit→Bool) (ss:List ((Nat × Bs) × Rw)):Prop where
 one:(ss.map Prod.fst).Nodup
 was:∀ x∈ss,x.1.1≤100∧x.1.2.length≤1048576∧S x.1.1 x.1.2=some x.2.e∧aO .i64 w0 x.2.a x.2.e.chunks∧left (eC x.1.1 x.1.2)=false
 all:∀ i p e,i≤100→p.length≤1048576→S i p=some e→left (eC i p)=false→(i,p)∈ss.map Prod.fst
theorem nB.step {w0:World} {S:Nat→Bs→Option En} {left:Lit→Bool} {ss:List ((Nat × Bs) × Rw)} {i:Nat} {p:Bs} {r:Rw} (h:nB w0 S left ss) (hi:i≤100) (hp:p.length≤1048576) (hl:left (eC i p)=true) (hS:S i p=some r.e) (hr:aO .i64 w0 r.a r.e.chunks) :
  nB w0 S (fun z=>left z&&!z.sameKey (eC i p)) (ss ++ [((i,p),r)]):=by
 have hself:(eC i p).sameKey (eC i p)=true:=WideAt.sameKey_self (uM hi hp);refine ⟨?_,fun x hx=>?_,fun j q e hj hq he hlf=>?_⟩
 ·rw[List.map_append,List.nodup_append]
  refine ⟨h.one,by simp,fun y hy z hz e=>?_⟩
  simp only[List.map_cons,List.map_nil,List.mem_singleton]at hz;subst hz;subst e
  obtain ⟨x,hx,hxy⟩:=List.mem_map.1 hy;have:=(h.was x hx).2.2.2.2;rw[hxy,hl]at this;cases this
 ·rcases List.mem_append.1 hx with hx | hx
  ·obtain ⟨a1,a2,a3,a4,a5⟩:=h.was x hx
   exact ⟨a1,a2,a3,a4,by simp[a5]⟩
  ·simp only[List.mem_singleton]at hx
   subst hx;exact ⟨hi,hp,hS,hr,by simp[hself]⟩
 ·rw[List.map_append,List.mem_append]
  cases hl2:left (eC j q)
  ·exact Or.inl (h.all j q e hj hq he hl2)
  ·rw[hl2]at hlf
   have hk:=WideAt.sameKey_eq (show (eC j q).sameKey (eC i p)=true by simpa using hlf)
   obtain ⟨rfl,rfl⟩:=rX hj hi hq hp hk;exact Or.inr (by simp)
theorem zjd (F:Fence) (n:Nat) (hF:F.fn 166) (hro:F.round=none) (hn:1≤n) (l Bm b N:Nat) (S:Nat→Bs→Option En) (w0:World) (J:List Rw→World→Prop)
  (hY:∀ pre (r:Rw) W,J pre W→pre.length<N→(∃ i p,S i p=some r.e)→aO .i64 w0 r.a r.e.chunks→YieldAt F (n - 1) Tryz.prog l #[itV r.e r.a r.c] W fun e W'=>e=.returned (.bool true)∧J (pre ++ [r]) W'∧KeepsWalks W W')
  (W:World) (hJ:AbidesFrom W.heap.size J) (hm:W.cell? ⟨Bm,0,none⟩=some (.map (some b))) (hS:dZ w0 W b N S) (h0:J [] W) :
  CallsIn F n Tryz.prog 166 #[.func (.yield l) #[] #[],.pointer (some ⟨Bm,0,none⟩)] W fun e W'=>(∃ v,e=.returned v)∧∃ ss:List ((Nat × Bs) × Rw),ss.length≤N∧nB w0 S (fun _=>false) ss∧J (ss.map Prod.snd) W':=by
 obtain ⟨Dt,A,C,h1,h2,h3,h4⟩:=hS;obtain ⟨es0,rfl,hap,hkeys⟩:=h1.entries fQ;have hown:=h1;have H2:=aA h2;have H3:=aA h3;have H4:=aA h4;clear h2 h3 h4 h1;refine callsIn_of_wp Tryz.func166 rfl hF ?_ hro;simp only[Tryz.ntmps166,List.size_toArray,List.length_cons,List.length_nil,Nat.reduceAdd,Nat.reduceSub,Array.replicate_succ,Array.replicate_zero,List.push_toArray,List.append_toArray,List.nil_append,List.cons_append];gi_wp2_with (first
  | (gi_at_range;refine wpListIn_range_own _ rfl _ 120 rfl 177 91 fQ Tryz.underlying120 _ b N _ rfl hown ?_;intro v0 hrg0 hg0 hs0)
  | gi_in)
 go_frame
 gi_loopw [7] (fun _ wr=>∃ (left:Lit→Bool) (cnt:Nat) (ss:List ((Nat × Bs) × Rw)),wr.ranges Tryz.prog 177 RVs b W.heap.size N (.map es0) left cnt∧ss.length+cnt≤N∧nB w0 S (fun z=>Maps.has (.map es0) z&&left z) ss∧J (ss.map Prod.snd) wr)
  (fun _ wr=>wr.rangeLeft b W.heap.size)
 case atStart =>
  exact ⟨_,_,[],hrg0,by simpa using hown.size_le,⟨by simp,fun x hx=>by simp at hx,fun i p e hi hp he hl=>by
   rw[Bool.and_self,H2.out i p hi hp,he]at hl;cases hl⟩,hJ [] W v0 none h0 hg0 (fun r e=>by cases e)⟩
 case round =>
  obtain ⟨left,cnt,ss,hrg,hcs,hC,hJs⟩:=hrel;gi_wp2_with (first
   | (gi_at_next;refine wpListIn_next_ranges _ rfl _ rfl 177 fQ RVs id id (fun key _ _=>⟨key,rfl⟩) (fun v _ _=>⟨v,rfl⟩) b W.heap.size N _ _ _ rfl hrg ?_ ?_)
   | gi_in)
  ·intro hc0 hl0
   gi_wp2
   go_end0
   refine ⟨⟨_,rfl⟩,ss,by omega,?_,hJs⟩
   have:(fun z=>Maps.has (.map es0) z&&left z)=fun _=>false:=funext fun z=>by simp[hl0 z]
   rw[this]at hC;exact hC
  ·intro x c kl yd yp w2 cnt2 hkey hlk hv hat hrg2 hlt hg2 hs2 hen
   have hFk:Fk (fun _ _=>false) es0 left=.map es0:=by simp[Fk]
   obtain ⟨i,p,e,hi,hp,rfl,hx,hcc,he⟩:=zl7 (pd:=fun _ _=>false) hap H2.out H3.out H4.out hkey hlk hv (by rw[hFk];exact hat)
   have hx2:x=gE i p:=hx;have hc2:c=itV e (A i p) (C i p):=hcc;subst hx2 hc2;clear hx hcc hFk;have hrd:=(H3.out i p e hi hp he).2;have hhas:Maps.has (.map es0) (eC i p)=true:=by rw[H2.out i p hi hp,he];rfl
   have hC2:=hC.step (r:=⟨e,A i p,C i p⟩) hi hp (by rw[hhas,hlk];rfl) he hrd
   have hJ2:J (ss.map Prod.snd) w2:=hJ _ wr w2 (some W.heap.size) hJs hg2 (fun r e=>by cases e;exact ⟨Nat.le_refl _,hrg.iter_walk⟩)
   have hJ3:=hJ _ w2 (w2.alloc (.cells #[.int .i64 e.size,.slice (A i p) e.chunks.length (C i p),.string (str e.path),.int .i64 e.kind] 91)) none hJ2 (World.grownBy_alloc _ _ _) (fun r e=>by cases e)
   have hrg3:=hrg2.kept (World.grownBy_alloc w2 (.cells #[.int .i64 e.size,.slice (A i p) e.chunks.length (C i p),.string (str e.path),.int .i64 e.kind] 91) none) (by simp) (by simp)
   obtain ⟨fn,tmps,assign,body,hy,hR⟩:=hY _ ⟨e,A i p,C i p⟩ _ hJ3 (by rw[List.length_map];omega) ⟨i,p,he⟩ hrd
   unfold itV at hy hen;unfold gE at hen;unfold itV gE;clear hC hJs hJ2 hv hat hkey;gi_wp2
   refine hR.mono ?_;rintro e W3 ⟨rfl,hJ3,hk3⟩;gi_wp2
   have hrg4:=hrg3.of_walks hk3;go_roundw
   case rel=>exact ⟨_,cnt2,ss ++ [((i,p),⟨_,A i p,C i p⟩)],hrg4,by simp;omega,by simpa [Bool.and_assoc] using hC2,by simpa using hJ3⟩
   case measure=>rw[hrg4.left_eq,hrg.left_eq];exact hlt
def za1:Option Code→Code × Code
 | some (.seq _ (.seq (.seq _ (.block _ (.rangeFunc _ _ a b))) _))=>(a,b)
 | _=>(.ret,.ret)
def lA (cs:Code × Code) (fn:FuncId) (sv:Value) (Bs D:Nat) (st:LoopState) (pend:Option Code):Loop :=
 { state:=st,pending:=pend,fn,tmps:=#[.slice none 0 0,sv,.pointer (some ⟨Bs,0,none⟩),undef,.slice none 0 0,undef,sv,undef,undef,undef,undef,undef,undef],params:=#[7],assign:=cs.1,body:=cs.2,defers:=D }
structure zW (cs:Code × Code) (w0:World) (fn:FuncId) (sv:Value) (Bs l D:Nat) (rs:List Rw) (W:World):Prop where
 box:∃ v,W.heap[Bs]?=some (.cells #[v] 117 (0,0))∧W.ownsRow w0.heap.size 91 4 v rs.length (kT rs)∧(v=.slice none 0 0↔rs=[])
 L:W.heap[l]?=some (.loop (lA cs fn sv Bs D .ready none))
 K:W.heap[D]?=some (.deferred (some []))
 below:Below w0.heap.size w0 W
theorem zY (cs:Code × Code) (w0:World) (fn:FuncId) (sv:Value) (Bs l D B:Nat) (hB:w0.heap.size≤B):AbidesFrom B (zW cs w0 fn sv Bs l D):=fun s W W' row h hg hrow=>by
 have hrow':∀ r,row=some r→∃ o:Obj,W.heap[r]?=some o∧o.isWalk=true:=fun r e=>(hrow r e).2
 obtain ⟨v,hv,hr,hn⟩:=h.box;exact ⟨⟨v,(grownBy_keeps hg hrow' hv rfl).trans hv,ownsRow_abides_a hr hg hrow',hn⟩,(grownBy_keeps hg hrow' h.L rfl).trans h.L,(grownBy_keeps hg hrow' h.K rfl).trans h.K,
  h.below.grown hg h.below.size (fun k e=>Nat.le_trans hB (hrow k e).1)⟩
theorem zng (cs:Code × Code) (hcs:cs=za1 Tryz.f209.body) (F:Fence) (m:Nat) (w0:World) (fn:FuncId) (hfn:F.fn fn) (sv:Value) (Bs l D:Nat) (hBl:Bs≠l) (hDl:D≠l) (hDB:D≠Bs) (h0B:w0.heap.size≤Bs) (h0l:w0.heap.size≤l)
  (rs:List Rw) (r:Rw) (W:World) (h:zW cs w0 fn sv Bs l D rs W) (hlen:rs.length<1000) :
  YieldAt F m Tryz.prog l #[itV r.e r.a r.c] W fun e W'=>e=.returned (.bool true)∧zW cs w0 fn sv Bs l D (rs ++ [r]) W'∧KeepsWalks W W':=by
 have hne:117≠91:=by decide
 obtain ⟨i0,hi,hz0,hz1,hz2⟩:=info_parts Tryz.infoIt;have hlW:l<W.heap.size:=(Array.getElem?_eq_some_iff.1 h.L).1;refine ⟨fn,#[.slice none 0 0,sv,.pointer (some ⟨Bs,0,none⟩),undef,.slice none 0 0,undef,sv,itV r.e r.a r.c,undef,undef,undef,undef,undef],cs.1,cs.2,by simpa [lA] using run_yield (P:=Tryz.prog) (args:=#[itV r.e r.a r.c]) h.L rfl,roundIn_of_wpIn hfn ?_⟩
 have F0:=nA.new W (.int .i64 r.e.size) (.slice r.a r.e.chunks.length r.c) (.string (str r.e.path)) (.int .i64 r.e.kind) 91;have hA:=zY cs w0 fn sv Bs l D w0.heap.size (Nat.le_refl _) rs W (W.alloc (.cells #[.int .i64 r.e.size,.slice r.a r.e.chunks.length r.c,.string (str r.e.path),.int .i64 r.e.kind] 91)) none h (World.grownBy_alloc _ _ _) (fun j e=>by cases e)
 have hkA:KeepsWalks W (W.alloc (.cells #[.int .i64 r.e.size,.slice r.a r.e.chunks.length r.c,.string (str r.e.path),.int .i64 r.e.kind] 91)):=KeepsWalks.alloc _ _;have hsA:W.heap.size<(W.alloc (.cells #[.int .i64 r.e.size,.slice r.a r.e.chunks.length r.c,.string (str r.e.path),.int .i64 r.e.kind] 91)).heap.size:=by simp
 obtain ⟨v,hv,hrow,_⟩:=hA.box;have hl:l<(W.alloc (.cells #[.int .i64 r.e.size,.slice r.a r.e.chunks.length r.c,.string (str r.e.path),.int .i64 r.e.kind] 91)).heap.size:=(Array.getElem?_eq_some_iff.1 hA.L).1;have hbr:=run_beginRound (P:=Tryz.prog) hA.L rfl;have hcs2:=hcs;simp only[za1,Tryz.f209]at hcs2;have hc1:=congrArg Prod.fst hcs2;have hc2':=congrArg Prod.snd hcs2;simp only at hc1 hc2';rw[hc1,hc2'];clear hcs hcs2 hc1 hc2';unfold itV;obtain ⟨WA,hWA⟩:∃ WA,W.alloc (.cells #[.int .i64 r.e.size,.slice r.a r.e.chunks.length r.c,.string (str r.e.path),.int .i64 r.e.kind] 91)=WA:=⟨_,rfl⟩;rw[hWA]at hbr F0 hA hkA hsA hrow hv hl
 obtain ⟨W2,hW2⟩:∃ W2,WA.putObj l (.loop { lA cs fn sv Bs D .ready none with state:=.busy })=W2:=⟨_,rfl⟩
 rw[hW2]at hbr;have hg2:WA.grownBy W2 (some l):=by rw[←hW2];exact grownBy_putObj_a _ _ _
 have hk2:KeepsWalks W W2:=hkA.trans (by rw[←hW2];exact KeepsWalks.putObj _ hA.L rfl)
 have hv2:W2.heap[Bs]?=some (.cells #[v] 117 (0,0)):=by rw[←hW2];exact (World.putObj_heap_other hBl).trans hv
 have hK2:W2.heap[D]?=some (.deferred (some [])):=by rw[←hW2];exact (World.putObj_heap_other hDl).trans hA.K
 have hL2:W2.heap[l]?=some (.loop { lA cs fn sv Bs D .ready none with state:=.busy }):=by rw[←hW2];exact World.putObj_heap_same hl
 have hrow2:W2.ownsRow w0.heap.size 91 4 v rs.length (kT rs):=hrow.kept hg2 (ownsRow_ne_a hrow hA.L (fun cur e=>by first | cases e | exact hne (Obj.cells.inj e).2.1))
 have hb2:Below w0.heap.size w0 W2:=hA.below.grown hg2 hA.below.size (fun k e=>by cases e;exact h0l)
 have hblk:W2.heap[W.heap.size]?=WA.heap[W.heap.size]?:=hg2.block _ hsA (fun e=>by have:=Option.some.inj e;omega)
 obtain ⟨⟨g0,g1,g2,g3⟩,gf⟩:=F0;have f0:=(World.cell?_of_block (a:=⟨W.heap.size,0,none⟩) hblk).trans g0;have f1:=(World.cell?_of_block (a:=⟨W.heap.size,1,none⟩) hblk).trans g1;have f2:=(World.cell?_of_block (a:=⟨W.heap.size,2,none⟩) hblk).trans g2;have f3:=(World.cell?_of_block (a:=⟨W.heap.size,3,none⟩) hblk).trans g3;clear g0 g1 g2 g3 gf hblk;obtain ⟨hc2,hf2⟩:=cell_of_box_a hv2;have hBlt:Bs<W2.heap.size:=(Array.getElem?_eq_some_iff.1 hv2).1;have hl2:l<W2.heap.size:=(Array.getElem?_eq_some_iff.1 hL2).1;have hDlt:D<W2.heap.size:=(Array.getElem?_eq_some_iff.1 hK2).1;have ne_of:∀ {j:Nat} {o:Obj},W2.heap[j]?=some o→(∀ cur,o≠.cells cur 91 (0,0))→some j≠v.ownBlock:=fun hj hno=>by
  rcases ownsRow_ne_a hrow2 hj hno with e | e
  ·rw[e];simp
  ·exact fun e'=>e e'.symm
 clear hW2;have hNEWS:∀ j u,(eW r)[j]?=some u→(W2.alloc (.cells #[.int .i64 r.e.size,.slice r.a r.e.chunks.length r.c,.string (str r.e.path),.int .i64 r.e.kind] 91)).cell? ((⟨W2.heap.size,0,none⟩:Addr).add j)=some u:=fun j u hj=>by
  have hj4:j<4:=by have:=(List.getElem?_eq_some_iff.1 hj).1;exact this
  have:j=0∨j=1∨j=2∨j=3:=by omega
  rcases this with rfl | rfl | rfl | rfl <;> (simp[eW]at hj;subst hj;simp[Addr.add])
 gi_wp2_with (first
  | (
    gi_at_builtin;refine wpListIn_append_own _ rfl _ _ 117 rfl w0.heap.size 91 i0 (.agg #[.int .i64 0,.slice none 0 0,.string ⟨#[]⟩,.int .i64 0]) 4 56 Tryz.underlying117 hi hz0 hz1 hz2 rfl (by decide) _ _ _ rfl (hrow2.alloc _) ⟨W2.heap.size,0,none⟩ 1 1 (eW r) rfl rfl hNEWS (by intro u hu;exact zj7 [r] u (by simpa [kT] using hu)) (by unfold maxLen;omega) (by omega) (by have:=hb2.size;simp;omega) ?_;intro v' w3 hown' hg3 hnil3
    have hv3:w3.heap[Bs]?=some (.cells #[v] 117 (0,0)):=(hg3.block Bs (by simp;omega) (ne_of hv2 (fun cur e=>by first | cases e | exact hne (Obj.cells.inj e).2.1))).trans ((Below.heap_alloc _ _ Bs hBlt).trans hv2)
    obtain ⟨hc3,hf3⟩:=cell_of_box_a hv3;obtain ⟨g',cap',cur',rfl,hbase',hgb',hr1,hr2,hr3,hr4⟩:∃ g' cap' cur',v'=.slice (some ⟨g',0,none⟩) (rs.length+1) cap'∧w0.heap.size≤g'∧w3.heap[g']?=some (.cells cur' 91 (0,0))∧rs.length+1≤cap'∧cap'≤maxLen∧cur'.size=cap' * 4∧cur'.toList.take ((rs.length+1) * 4)=kT rs++eW r:=by
     rcases hown'.2 with ⟨_,h0⟩ | h'
     ·exact absurd h0 (by omega)
     ·exact h'
    go_frame)
  | gi_round_op_a)
 have hg3':(W2.alloc (.cells #[.int .i64 r.e.size,.slice r.a r.e.chunks.length r.c,.string (str r.e.path),.int .i64 r.e.kind] 91)).grownBy w3 v.ownBlock:=hg3;have hL3:w3.heap[l]?=some (.loop { lA cs fn sv Bs D .ready none with state:=.busy }):=(hg3'.block l (by simp;omega) (ne_of hL2 (fun cur e=>by first | cases e | exact hne (Obj.cells.inj e).2.1))).trans ((Below.heap_alloc _ _ l hl2).trans hL2)
 have hK3:w3.heap[D]?=some (.deferred (some [])):=(hg3'.block D (by simp;omega) (ne_of hK2 (fun cur e=>by first | cases e | exact hne (Obj.cells.inj e).2.1))).trans ((Below.heap_alloc _ _ D hDlt).trans hK2)
 obtain ⟨w4,hw4⟩:∃ w4,w3.setCell ⟨Bs,0,none⟩ (.slice (some ⟨g',0,none⟩) (rs.length+1) cap')=w4:=⟨_,rfl⟩;rw[hw4];have hg4:w3.grownBy w4 (some Bs):=by rw[←hw4];exact grownBy_setCell0_a _ _ _
 have hv4:w4.heap[Bs]?=some (.cells #[.slice (some ⟨g',0,none⟩) (rs.length+1) cap'] 117 (0,0)):=by rw[←hw4];exact heap_setCell_box_a _ hv3
 have hL4:w4.heap[l]?=some (.loop { lA cs fn sv Bs D .ready none with state:=.busy }):=(hg4.block l (Array.getElem?_eq_some_iff.1 hL3).1 (fun e=>hBl (by cases e;rfl))).trans hL3
 have hK4:w4.heap[D]?=some (.deferred (some [])):=(hg4.block D (Array.getElem?_eq_some_iff.1 hK3).1 (fun e=>hDB (by cases e;rfl))).trans hK3
 have hrow4:=hown'.kept hg4 (ownsRow_ne_a hown' hv3 (fun cur e=>by first | cases e | exact hne (Obj.cells.inj e).2.1))
 have hl4:l<w4.heap.size:=(Array.getElem?_eq_some_iff.1 hL4).1;have hb3:Below w0.heap.size w0 w3:=(hb2.alloc hb2.size _).grown hg3' (by have:=hb2.size;simp;omega) (fun k e=>(hrow2.lt k e).1)
 have hb4:Below w0.heap.size w0 w4:=hb3.grown hg4 hb3.size (fun k e=>by cases e;exact h0B)
 have hk4:KeepsWalks W w4:=((hk2.trans (KeepsWalks.alloc _ _)).trans (KeepsWalks.of_grownBy hg3' (ownsRow_not_walk_a (hrow2.alloc _)))).trans (by rw[←hw4];exact KeepsWalks.setCell _ _ _)
 clear hw4;refine ⟨_,_,run_endRound none hL4,rfl,⟨⟨_,(World.putObj_heap_other hBl).trans hv4,?_,by simp⟩,World.putObj_heap_same hl4,(World.putObj_heap_other hDl).trans hK4,hb4.grown (grownBy_putObj_a _ _ _) hb4.size (fun k e=>by cases e;exact h0l)⟩,hk4.trans (KeepsWalks.putObj _ hL4 rfl)⟩
 have:=hrow4.kept (grownBy_putObj_a w4 l (.loop { { lA cs fn sv Bs D .ready none with state:=.busy } with state:=if (none:Option Code).isNone then .ready else .done,pending:=none })) (ownsRow_ne_a hrow4 hL4 (fun cur e=>by first | cases e | exact hne (Obj.cells.inj e).2.1))
 simpa [zm9,kT] using this
end Go.Proofs.YtgaeikgoknoamaaGreat
namespace Go.Proofs.YtgaeikgoknoamaaGreat
open Go.RowKit Go.Maps
attribute [local go_sem ↓] Go.wp_at_zero Go.wp_at_succ
theorem tM {w w1 w2:World} {b B:Nat} (h1:Below B w w1) (h2:aD (fun x=>x=b) w1 w2) (hB:B≤w1.heap.size) (hb:B≤b):Below B w w2 :=
 ⟨h2.os.trans h1.os,h2.tape.trans h1.tape,h2.output.trans h1.output,Nat.le_trans h1.size h2.size,fun k hk=>(h2.block k (by omega) (by omega)).trans (h1.block k hk)⟩
def xF (S:Nat→Bs→Option En) (i:Nat) (p:Bs):Option En:=if nL S i p then none else S i p
theorem zri (b N:Nat) (S:Nat→Bs→Option En) (w0 w:World) (h:dZ w0 w b N S) :
  Calls Tryz.prog 68 #[.map (some b)] w fun r w'=>∃ b2,r=.returned (.map (some b2))∧w.heap.size≤b2∧dZ w0 w' b2 N (xF S)∧Below w.heap.size w w':=by
 have B0:=aA (aC w (.cells #[.map (some b)] 120));have hx0:(w.alloc (.cells #[.map (some b)] 120)).cell? ⟨w.heap.size,0,none⟩=some (.map (some b)):=by simp
 have hs0:(w.alloc (.cells #[.map (some b)] 120)).heap.size=w.heap.size+1:=by simp
 have HM0:=aA (h.below B0.out);have hlt:=h.lt;clear h;go_enter Tryz.func68,Tryz.ntmps68;go_wp2_with fail
 generalize w.alloc (.cells #[.map (some b)] 120)=W0 at *;refine (zz4 b N S w0 W0 HM0.out).mono ?_;rintro r w1 ⟨rfl,hM1,hb1⟩;rw[hs0]at hM1;have M1:=aA hM1;have MO:=aA (HM0.out.below hb1);have hx1:=(hb1.cell (p:=⟨w.heap.size,0,none⟩) (by show w.heap.size<W0.heap.size;omega)).trans hx0
 have B1:=aA (aB B0.out hb1);have hsz:=hb1.size;have hb2lt:=hM1.lt;clear hM1 hb1 HM0 hx0;have HA:=aA (show zxi w1 (w.heap.size+1) S 117 #[.pointer (some ⟨w.heap.size,0,none⟩)] (nL S) from
  ⟨enters_of Tryz.func117 (by kernel_rfl) rfl,fun i p e x cc W hi hp hk =>
   zn9 b N i w.heap.size p S e x cc w0 W (MO.out.kept hk (by omega)) hp ((hk.cell (p:=⟨w.heap.size,0,none⟩) (by show w.heap.size<w1.heap.size;omega) (by show ¬ w.heap.size=w.heap.size+1;omega)).trans hx1)⟩)
 have HD:=aA (zs1 (w.heap.size+1) N S _ _ (nL S) w0 w1 M1.out HA.out);go_wp2_with fail
 refine HD.out.mono ?_;rintro r w2 ⟨rfl,hM2,hk2⟩;have M2:=aA hM2;have B2:=aA (tM B1.out hk2 (by omega) (by omega))
 clear hM2 hk2 HD HA M1 MO;go_wp2_with fail
 go_ret
 exact ⟨_,rfl,by omega,M2.out,B2.out⟩
end Go.Proofs.YtgaeikgoknoamaaGreat
namespace Go.Proofs.YtgaeikgoknoamaaGreat
open Go.RowKit Go.Sort Go.Shelf
def Tryz.pdqT_ren:Go.Shelf.Ren:=⟨fun | 14=>210 | 20=>237 | 21=>238 | 22=>239 | 23=>240 | 24=>241 | 25=>242 | 26=>243 | 27=>244 | 46=>259 | 47=>254 | 48=>255 | 49=>260 | 50=>261 | 15=>201 | 57=>273 | 28=>234 | 29=>235 | n=>n,fun | 24=>91 | 22=>117 | 3=>3 | 25=>187 | 4=>4 | 0=>0 | 46=>272 | 45=>271 | 50=>277 | 66=>291 | 39=>229 | 55=>281 | 70=>295 | 76=>306 | 77=>307 | 53=>217 | 5=>5 | 9=>9 | n=>n,fun | n=>n⟩
theorem Tryz.pdqT:Go.Proofs.SlLaysF0.n14 Tryz.prog Tryz.pdqT_ren:={
 mixed:=by kernel_rfl
 f14:=⟨Tryz.f210.name,by decide,Tryz.func210.trans (congrArg some (by kernel_rfl))⟩
 f15:=Tryz.func201.trans (congrArg some (by kernel_rfl))
 f20:=⟨Tryz.f237.name,by decide,Tryz.func237.trans (congrArg some (by kernel_rfl))⟩
 f21:=⟨Tryz.f238.name,by decide,Tryz.func238.trans (congrArg some (by kernel_rfl))⟩
 f22:=⟨Tryz.f239.name,by decide,Tryz.func239.trans (congrArg some (by kernel_rfl))⟩
 f23:=⟨Tryz.f240.name,by decide,Tryz.func240.trans (congrArg some (by kernel_rfl))⟩
 f24:=⟨Tryz.f241.name,by decide,Tryz.func241.trans (congrArg some (by kernel_rfl))⟩
 f25:=⟨Tryz.f242.name,by decide,Tryz.func242.trans (congrArg some (by kernel_rfl))⟩
 f26:=⟨Tryz.f243.name,by decide,Tryz.func243.trans (congrArg some (by kernel_rfl))⟩
 f27:=⟨Tryz.f244.name,by decide,Tryz.func244.trans (congrArg some (by kernel_rfl))⟩
 f28:=Tryz.func234.trans (congrArg some (by kernel_rfl))
 f29:=Tryz.func235.trans (congrArg some (by kernel_rfl))
 f46:=⟨Tryz.f259.name,by decide,Tryz.func259.trans (congrArg some (by kernel_rfl))⟩
 f47:=Tryz.func254.trans (congrArg some (by kernel_rfl))
 f48:=Tryz.func255.trans (congrArg some (by kernel_rfl))
 f49:=⟨Tryz.f260.name,by decide,Tryz.func260.trans (congrArg some (by kernel_rfl))⟩
 f50:=⟨Tryz.f261.name,by decide,Tryz.func261.trans (congrArg some (by kernel_rfl))⟩
 f57:=⟨Tryz.f273.name,by decide,Tryz.func273.trans (congrArg some (by kernel_rfl))⟩
 t0:=Tryz.underlying0
 a0:=Tryz.isAgg0
 z0:=Tryz.sizeOf0
 v0:=Tryz.zeroValue0
 t3:=Tryz.underlying3
 a3:=Tryz.isAgg3
 z3:=Tryz.sizeOf3
 v3:=Tryz.zeroValue3
 t4:=Tryz.underlying4
 a4:=Tryz.isAgg4
 z4:=Tryz.sizeOf4
 v4:=Tryz.zeroValue4
 t5:=Tryz.underlying5
 a5:=Tryz.isAgg5
 z5:=Tryz.sizeOf5
 v5:=Tryz.zeroValue5
 t9:=Tryz.underlying9
 a9:=Tryz.isAgg9
 z9:=Tryz.sizeOf9
 v9:=Tryz.zeroValue9
 t22:=Tryz.underlying117
 a22:=Tryz.isAgg117
 z22:=Tryz.sizeOf117
 v22:=Tryz.zeroValue117
 t25:=Tryz.underlying187
 a25:=Tryz.isAgg187
 z25:=Tryz.sizeOf187
 v25:=Tryz.zeroValue187
 t39:=Tryz.underlying229
 a39:=Tryz.isAgg229
 z39:=Tryz.sizeOf229
 v39:=Tryz.zeroValue229
 t45:=Tryz.underlying271
 a45:=Tryz.isAgg271
 z45:=Tryz.sizeOf271
 v45:=Tryz.zeroValue271
 t46:=Tryz.underlying272
 a46:=Tryz.isAgg272
 z46:=Tryz.sizeOf272
 v46:=Tryz.zeroValue272
 t50:=Tryz.underlying277
 a50:=Tryz.isAgg277
 z50:=Tryz.sizeOf277
 v50:=Tryz.zeroValue277
 t53:=Tryz.underlying217
 a53:=Tryz.isAgg217
 z53:=Tryz.sizeOf217
 v53:=Tryz.zeroValue217
 t55:=Tryz.underlying281
 a55:=Tryz.isAgg281
 z55:=Tryz.sizeOf281
 v55:=Tryz.zeroValue281
 t66:=Tryz.underlying291
 a66:=Tryz.isAgg291
 z66:=Tryz.sizeOf291
 v66:=Tryz.zeroValue291
 t70:=Tryz.underlying295
 a70:=Tryz.isAgg295
 z70:=Tryz.sizeOf295
 v70:=Tryz.zeroValue295
 t76:=Tryz.underlying306
 a76:=Tryz.isAgg306
 z76:=Tryz.sizeOf306
 v76:=Tryz.zeroValue306
 t77:=Tryz.underlying307
 a77:=Tryz.isAgg307
 z77:=Tryz.sizeOf307
 v77:=Tryz.zeroValue307 }
def Tryz.lenT_ren:Go.Shelf.Ren:=⟨fun | 125=>201 | 128=>234 | 129=>235 | n=>n,fun | 46=>229 | 3=>3 | 51=>217 | 53=>281 | 4=>4 | 5=>5 | 9=>9 | n=>n,fun | n=>n⟩
theorem Tryz.lenT:Go.Proofs.Lays.n125 Tryz.prog Tryz.lenT_ren:={
 mixed:=by kernel_rfl
 f125:=Tryz.func201.trans (congrArg some (by kernel_rfl))
 f128:=Tryz.func234.trans (congrArg some (by kernel_rfl))
 f129:=Tryz.func235.trans (congrArg some (by kernel_rfl))
 t3:=Tryz.underlying3
 a3:=Tryz.isAgg3
 z3:=Tryz.sizeOf3
 v3:=Tryz.zeroValue3
 t4:=Tryz.underlying4
 a4:=Tryz.isAgg4
 z4:=Tryz.sizeOf4
 v4:=Tryz.zeroValue4
 t5:=Tryz.underlying5
 a5:=Tryz.isAgg5
 z5:=Tryz.sizeOf5
 v5:=Tryz.zeroValue5
 t9:=Tryz.underlying9
 a9:=Tryz.isAgg9
 z9:=Tryz.sizeOf9
 v9:=Tryz.zeroValue9
 t46:=Tryz.underlying229
 a46:=Tryz.isAgg229
 z46:=Tryz.sizeOf229
 v46:=Tryz.zeroValue229
 t51:=Tryz.underlying217
 a51:=Tryz.isAgg217
 z51:=Tryz.sizeOf217
 v51:=Tryz.zeroValue217
 t53:=Tryz.underlying281
 a53:=Tryz.isAgg281
 z53:=Tryz.sizeOf281
 v53:=Tryz.zeroValue281 }
end Go.Proofs.YtgaeikgoknoamaaGreat
namespace Go.Proofs.YtgaeikgoknoamaaGreat
open Go.RowKit Go.Sort
def lU (a b:Bs):Int:=if Op.bytesLess a b then -1 else if Op.bytesLess b a then 1 else 0
theorem zca (a b:Bs):decide (lU a b<0)=Op.bytesLess a b:=by
 unfold lU;cases h:Op.bytesLess a b
 ·cases h2:Op.bytesLess b a <;> rfl
 ·rfl
theorem vP (s:ByteArray) (w:World):Calls Tryz.prog 211 #[.string s] w fun e w'=>e=.returned (.bool false)∧w'=w:=by
 go_enter Tryz.func211,Tryz.ntmps211;go_wp2
 go_ret
 exact ⟨by simp,rfl⟩
theorem zb8 (p q:Bs) (w:World):Calls Tryz.prog 167 #[.string (str p),.string (str q)] w fun e w'=>e=.returned (.int .i64 (lU p q))∧w'=w:=by
 obtain ⟨F,hF⟩:∃ F:Int,F=lU p q:=⟨_,rfl⟩;rw[←hF];cases h1:Op.bytesLess (str p).toList (str q).toList
 ·by_cases hpq:p=q
  ·have hs1:=kN hpq
   have HE:=aA (show F=0 from by rw[hF,lU,hpq,iQ];rfl)
   clear hF hpq;go_enter Tryz.func167,Tryz.ntmps167;go_wp2_with (go_at_call 211;refine (vP _ _).mono ?_;rintro e w' ⟨rfl,rfl⟩)
   go_ret
   exact ⟨aM HE.out.symm,rfl⟩
  ·have hs1:=mE hpq
   have HE:=aA (show F=1 from by
    rw[aN,aN]at h1;rw[hF,lU,h1,iS _ _ h1 hpq];rfl)
   clear hF hpq;go_enter Tryz.func167,Tryz.ntmps167;go_wp2_with (go_at_call 211;refine (vP _ _).mono ?_;rintro e w' ⟨rfl,rfl⟩)
   go_ret
   exact ⟨aM HE.out.symm,rfl⟩
 ·have HE:=aA (show F = -1 from by rw[hF,lU];rw[aN,aN]at h1;rw[h1];rfl)
  clear hF;go_enter Tryz.func167,Tryz.ntmps167;go_wp2_with (go_at_call 211;refine (vP _ _).mono ?_;rintro e w' ⟨rfl,rfl⟩)
  go_ret
  exact ⟨aM HE.out.symm,rfl⟩
theorem zo9 (x y:Rw) (W:World):Calls Tryz.prog 121 #[.agg (eW x).toArray,.agg (eW y).toArray] W fun e w'=>e=.returned (.int .i64 (lU x.e.path y.e.path))∧∃ q os',w'=grow (W.drewN q) os':=by
 have hcon:=fun W'=>zb8 x.e.path y.e.path W'
 generalize lU x.e.path y.e.path=r at hcon ⊢;show Calls Tryz.prog 121 #[.agg #[.int .i64 x.e.size,.slice x.a x.e.chunks.length x.c,.string (str x.e.path),.int .i64 x.e.kind],.agg #[.int .i64 y.e.size,.slice y.a y.e.chunks.length y.c,.string (str y.e.path),.int .i64 y.e.kind]] W _
 go_enter Tryz.func121,Tryz.ntmps121;go_wp2_with (go_at_call 167;refine (hcon _).mono ?_;rintro e w' ⟨rfl,rfl⟩)
 go_ret
 exact ⟨rfl,0,_,by rw[alloc_eq_grow,alloc_eq_grow,grow_grow];rfl⟩
theorem yS:∀ {l1 l2:List Rw},l1.Perm l2→l1.Pairwise (fun x y=>Op.bytesLess x.e.path y.e.path=true)→l2.Pairwise (fun x y=>Op.bytesLess x.e.path y.e.path=true)→l1=l2
 | [],l2,hp,_,_=>hp.symm.eq_nil.symm
 | a :: l1,[],hp,_,_=>by have:=hp.length_eq;simp at this
 | a :: l1,b :: l2,hp,h1,h2=>by
  have p1:=List.pairwise_cons.1 h1;have p2:=List.pairwise_cons.1 h2;have hab:a=b:=by
   have ha:a∈b :: l2:=hp.subset List.mem_cons_self;have hb:b∈a :: l1:=hp.symm.subset List.mem_cons_self;rcases List.mem_cons.1 ha with h | ha
   ·exact h
   ·rcases List.mem_cons.1 hb with h | hb
    ·exact h.symm
    ·have q1:=p2.1 a ha
     have q2:=p1.1 b hb;rw[iR q1]at q2;cases q2
  subst hab;rw[yS (List.Perm.cons_inv hp) p1.2 p2.2]
theorem zr7:SWO (ltOf fun x y:Rw=>lU x.e.path y.e.path):=by
 have e:∀ x y:Rw,ltOf (fun x y:Rw=>lU x.e.path y.e.path) x y=Op.bytesLess x.e.path y.e.path:=fun x y=>zca _ _
 refine ⟨fun x=>by rw[e,iQ],fun x y z=>by rw[e,e,e];exact iG _ _ _,fun x y z=>?_⟩
 rw[e,e,e];intro h1 h2;cases h3:Op.bytesLess x.e.path z.e.path
 ·rfl
 ·by_cases h4:y.e.path=z.e.path
  ·rw[h4]at h1;rw[h1]at h3;cases h3
  ·have:=iG _ _ _ h3 (iS _ _ h2 h4)
   rw[h1]at this;cases this
end Go.Proofs.YtgaeikgoknoamaaGreat
namespace Go.Proofs.YtgaeikgoknoamaaGreat
open Go.RowKit Go.Sort Go.Shelf
theorem zq4 (B g n c:Nat) (rs ss:List Rw) (w:World) (h:w.ownsRow B 91 4 (.slice (some ⟨g,0,none⟩) n c) n (kT rs)) (hn:n=rs.length) (h12:n≤1048577) (hp:ss.Perm rs) (hs:ss.Pairwise (fun x y=>Op.bytesLess x.e.path y.e.path=true)) :
  Calls Tryz.prog 165 #[.slice (some ⟨g,0,none⟩) n c,.func (.func 121) #[] #[]] w fun e w'=>e=.returned (.tuple #[])∧(∀ i q r,ss[i]?=some r→q<4→w'.cell? ⟨g,i * 4+q,none⟩=(eW r)[q]?)∧aD (fun b=>b=g) w w':=by
 subst hn;haveI:Inhabited Rw:=⟨⟨⟨[],0,0,[]⟩,none,0⟩⟩;have hg:=(h.lt g rfl).2;have hH:HoldsK eW 4 w g 0 rs.toArray:=by
  intro j hj;rw[size_flatK]at hj;have hj4:j<rs.length * 4:=by simpa using hj
  have h1:j / 4<rs.length:=by omega
  obtain ⟨r,hr⟩:∃ r,rs[j / 4]?=some r:=⟨_,List.getElem?_eq_getElem h1⟩;have hc:=(h.cellAt (j / 4 * 4+j % 4) (by omega)).trans (zi7 rs (j / 4) (j % 4) _ hr (by omega))
  rw[show j / 4 * 4+j % 4=j by omega]at hc
  refine ⟨?_,h.frozenAt _⟩;rw[Nat.zero_add,hc,get_flatK _ _ _ _ hj];have e1:rs.toArray[j / 4]! = r:=by
   have:=List.getElem?_eq_some_iff.1 hr;simp[h1,this.2]
  rw[e1];have hl:j % 4<(eW r).length:=by show j % 4<4;omega
  simp only[id];rw[List.getElem?_eq_getElem hl,getElem!_pos (eW r) (j % 4) hl]
 have eg:∀ args w,(callFunc 121 args).run Tryz.prog w=.ok (.enter 121 args) w:=enters_of Tryz.func121 (by kernel_rfl) rfl
 have hsz:rs.toArray.size<4611686018427387904:=by have h2:=h12;simpa using (by omega:rs.length<4611686018427387904)
 have hlim:Lib.bitLen rs.length<4611686018427387904:=Nat.lt_of_le_of_lt (Lib.bitLen_le rs.length 62 (by omega) (by omega)) (by omega)
 have hpd:=AnyQ.pdqsortCmpFunc_all Tryz.pdqT 4 Tryz.isAgg91 Tryz.sizeOf91 eW (fun x y=>lU x.e.path y.e.path) 121 #[] zr7 g 0 c rs.toArray w eg (fun _ _ _ _ x y=>zo9 x y _) ⟨fun _=>rfl,fun x v hv=>zj7 [x] v (by simpa [kT] using hv),hH,hg⟩ (rs.toArray.size+1) 0 rs.toArray.size (Lib.bitLen rs.length) rs.toArray w (by omega) rfl (SWK.start hH) (Nat.zero_le _) (Nat.le_refl _) hsz hlim (Or.inl rfl)
 have hps:=pdq_sorts (ltOf fun x y:Rw=>lU x.e.path y.e.path) zr7 rs.toArray 0 rs.toArray.size (Lib.bitLen rs.length) true true (Nat.zero_le _) (Nat.le_refl _) (Or.inl rfl)
 have hcon:Calls Tryz.prog 165 #[.slice (some ⟨g,0,none⟩) rs.length c,.func (.func 121) #[] #[]] w fun e w'=>e=.returned (.tuple #[])∧∃ d' n os,PermIn 0 rs.toArray.size rs.toArray d'∧SortedIn (ltOf fun x y:Rw=>lU x.e.path y.e.path) 0 rs.toArray.size d'∧w'=sortWorldK eW 4 w g 0 n d' os:=by
  have HP:Hid (Calls Tryz.prog 210 #[.slice (some ⟨g,0,none⟩) rs.length c,.int .i64 0,.int .i64 rs.length,.int .i64 (Lib.bitLen rs.length:Nat),.func (.func 121) #[] #[]] w fun e w'=>e=.returned (.tuple #[])∧∃ d' n os,PermIn 0 rs.toArray.size rs.toArray d'∧SortedIn (ltOf fun x y:Rw=>lU x.e.path y.e.path) 0 rs.toArray.size d'∧w'=sortWorldK eW 4 w g 0 n d' os):=aA (by
   have h2:=hpd;simp only[List.size_toArray]at h2;refine (show Calls Tryz.prog 210 _ w _ from h2).mono ?_
   rintro e w' ⟨he,n,os,hw⟩;exact ⟨he,_,n,os,by simpa using hps.1,by simpa using hps.2,hw⟩)
  have HL:Hid (Calls Tryz.prog 201 #[.int .u64 (rs.length:Int)] w fun e w'=>e=.returned (.int .i64 (Lib.bitLen rs.length:Nat))∧w'=w):=aA (by
   have h3:=Any.bits_Len Tryz.lenT (rs.length:Int) w (by omega) (by omega)
   rw[Int.toNat_natCast]at h3;exact h3)
  have wr:IntKind.u64.wrap (rs.length:Int)=rs.length:=by simp[IntKind.wrap,IntKind.bits,IntKind.signed];omega
  clear hpd hps hH hlim hsz;go_enter Tryz.func165,Tryz.ntmps165;go_wp2_with fail
  refine HL.out.mono ?_;rintro e w ⟨rfl,rfl⟩;go_wp2_with fail
  refine HP.out.mono ?_;rintro e w' ⟨rfl,hrest⟩;have HRS:=aA hrest;clear hrest;go_wp2_with fail
  first | go_end0 | skip
  exact ⟨rfl,HRS.out⟩
 refine (show Calls Tryz.prog 165 #[.slice (some ⟨g,0,none⟩) rs.length c,.func (.func 121) #[] #[]] w _ from hcon).mono ?_
 rintro e w' ⟨he,d',m,os,hperm,hsort,rfl⟩;obtain ⟨hsz,_,hpm⟩:=hperm;have hsz':d'.size=rs.length:=by simpa using hsz
 have hpm':d'.toList.Perm rs:=by
  have e1:(d'.extract 0 rs.toArray.size).toList=d'.toList:=by simp[←hsz']
  have e2:(rs.toArray.extract 0 rs.toArray.size).toList=rs:=by simp
  rw[e1,e2]at hpm;exact hpm
 have hnd:ss.Pairwise (fun x y=>x.e.path≠y.e.path):=hs.imp (fun h=>kB h)
 have hnd':d'.toList.Pairwise (fun x y=>x.e.path≠y.e.path):=(hpm'.trans hp.symm).symm.pairwise hnd (fun h=>h.symm)
 have hd:d'.toList=ss:=by
  refine yS (hpm'.trans hp.symm) ?_ hs;rw[List.pairwise_iff_getElem];intro i j hi hj hij;have hne:=List.pairwise_iff_getElem.1 hnd' i j hi hj hij;have hlt:=hsort i j (Nat.zero_le _) hij (by simpa [←hsz'] using hj)
  have e1:ltOf (fun x y:Rw=>lU x.e.path y.e.path) d'[j]! d'[i]! = Op.bytesLess d'[j]!.e.path d'[i]!.e.path:=zca _ _
  rw[e1]at hlt;have hi':i<d'.size:=by simpa using hi
  have hj':j<d'.size:=by simpa using hj
  rw[getElem!_pos d' i hi',getElem!_pos d' j hj']at hlt;simp only[Array.getElem_toList]at hne ⊢;exact iS _ _ hlt (fun x=>hne x.symm)
 have hK:=holdsK_sortWorldK_c eW 4 w g 0 rs.toArray d' m os hH hg (by simpa using hsz')
 refine ⟨he,fun i q r hi hq=>?_,?_⟩
 ·rw[←hd]at hi
  have hi':i<d'.size:=by have:=(List.getElem?_eq_some_iff.1 hi).1;simpa using this
  have:=(hK.cell (i:=i) (c:=q) hi' hq).1;rw[Nat.zero_add]at this;rw[this];have e1:d'[i]! = r:=by
   rw[getElem!_pos d' i hi'];have:=(List.getElem?_eq_some_iff.1 hi).2;simpa using this
  rw[e1];have hl:q<(eW r).length:=hq;rw[List.getElem?_eq_getElem hl,getElem!_pos (eW r) q hl]
 ·refine ⟨rfl,rfl,rfl,?_,fun k hk hn=>?_⟩
  ·show w.heap.size≤((w.heap.modify g _)++os).size
   simp
  ·show ((w.heap.modify g _)++os)[k]?=w.heap[k]?
   rw[Array.getElem?_append_left (by simpa using hk),Array.getElem?_modify]
   have:¬ g=k:=fun e=>hn e.symm
   simp[this]
end Go.Proofs.YtgaeikgoknoamaaGreat
