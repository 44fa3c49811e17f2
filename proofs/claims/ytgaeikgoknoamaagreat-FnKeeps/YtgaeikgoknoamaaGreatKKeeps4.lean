/-
  Texts put together: IteB Bytes Cut Ints EntG EntC EntA.
-/
import Derived.Test.YtgaeikgoknoamaaGreatKKeeps3
import Derived.Test.YtgaeikgoknoamaaGreatKKeeps1
import Derived.Lib.SliceRun
import Derived.Deep.AppendLies
import Derived.Deep.DrawnRows
set_option linter.unusedVariables false
set_option maxHeartbeats 3200000
set_option maxRecDepth 100000
namespace Go.Proofs.YtgaeikgoknoamaaGreat
open Go.RowKit
theorem zl8 (es:List En) (q:Bs) (k:Nat) {e:En} (h:es[k]?=some e):dG (es.drop k) q=((decide (e.path=q)&&bX e.kind)||dG (es.drop (k+1)) q):=by
 rw[eS h];simp[dG]
theorem rP (a:Option Addr) (c n:Nat) (es:List En) (p:Bs) (w:World) (h:RdE w a es) (hn:n=es.length) (hl:es.length≤1048576) (hf:aF p=0) (hp:p.length≤1048576) :
  Calls Tryz.prog 134 #[.slice a n c,.string (str p)] w fun r w'=>r=.returned (.int .i64 (if cQ es p then 0 else 9))∧Below w.heap.size w w':=by
 subst hn;have HR:=aA h;clear h;obtain ⟨F,hF⟩:∃ F:Int,F=if cQ es p then 0 else 9:=⟨_,rfl⟩
 rw[←hF];by_cases h0:aE p=[]
 ·have HE:=aA (show F=0 from by rw[hF];simp[cQ,h0])
  have HP:=aA (zw6 hf (mD.1 h0));clear h0 hf hF;go_enter Tryz.func134,Tryz.ntmps134;go_wp2_with fail
  refine (qU _ _ (by rw[aP];omega)).mono ?_
  rintro r w1 ⟨rfl,hb1⟩;rw[bD,HP.out.1,HP.out.2];have HB1:=aA (aB hb1 (aC w1 (.cells #[.int .i64 4,.string (str [])] 234)));clear hb1;go_wp2_with fail
  go_ret
  exact ⟨aM HE.out.symm,HB1.out⟩
 ·have HE:=aA (show F=if dG es (aE p) then 0 else 9 from by rw[hF];simp[cQ,h0])
  have HP:=aA (zv6 hf (fun e=>h0 (mD.2 e)))
  have HQ:Hid (wD p=aE p):=aA HP.out.2;clear h0 hf hF;go_enter Tryz.func134,Tryz.ntmps134;go_wp2_with fail
  refine (qU _ _ (by rw[aP];omega)).mono ?_
  rintro r w1 ⟨rfl,hb1⟩;rw[bD,HP.out.1,HQ.out];generalize aE p=q at *;have X1:=aA (Box.new w1 (.int .i64 0) (.string (str q)) 234);have HB1:=aA (aB hb1 (aC w1 (.cells #[.int .i64 0,.string (str q)] 234)));clear hb1 HP HQ;go_wp2_with fail
  generalize w1.alloc (.cells #[.int .i64 0,.string (str q)] 234)=W1 at *;generalize w1.heap.size=b1 at *;go_loopw [15] (fun i wr=>∃ k:Nat,k≤es.length∧i=.int .i64 k∧Hid (dG es q=dG (es.drop k) q)∧Hid (Below W1.heap.size W1 wr)) (fun i _=>es.length - (intOf i).toNat)
  case atStart=>exact ⟨0,Nat.zero_le _,rfl,aA (by simp),aA (Below.refl _ _)⟩
  case round =>
   obtain ⟨k,hk,rfl,HF,HW⟩:=hrel;have HR1:=aA (HR.out.below (aB HB1.out HW.out));obtain ⟨⟨t0,t1⟩,t2,t3⟩:=X1.out.below HW.out;by_cases hlt:k<es.length
   ·obtain ⟨b,off,e,x,cc,rfl,hb,he,c0,c1,c2,c3,hr⟩:=HR1.out.at hlt
    have HX:=aA he;clear he hr;have HF2:=aA (HF.out.trans (zl8 es q k HX.out));have hb1w:b1<wr.heap.size:=World.block_lt_of_cell? _ _ t0;by_cases hq:e.path=q
    ·have hs1:=kN hq
     cases hd:bX e.kind
     ·have HO:=aA (show dG es q=dG (es.drop (k+1)) q from by rw[HF2.out];simp[hd])
      have HD:=aA hd;clear hd hq;go_wp2_with fail
      refine (lO _ _ _ _ _ _ _).mono ?_;rintro r w3 ⟨rfl,hb3⟩;go_wp2_with fail
      refine (pB _ _ _ _ _ _ _).mono ?_;rintro r w4 ⟨rfl,hb4⟩;rw[HD.out];have HW4:=aA (aB HW.out (aB (aC wr _) (aB hb3 hb4)));clear hb3 hb4;go_wp2_with fail
      go_roundw
      case rel=>exact ⟨k+1,by omega,by go_num,HO,HW4⟩
      case measure=>simp[intOf];omega
     ·have HO:=aA (show dG es q=true from by rw[HF2.out];simp[hd,hq])
      have HD:=aA hd;clear hd hq;go_wp2_with fail
      refine (lO _ _ _ _ _ _ _).mono ?_;rintro r w3 ⟨rfl,hb3⟩;go_wp2_with fail
      refine (pB _ _ _ _ _ _ _).mono ?_;rintro r w4 ⟨rfl,hb4⟩;rw[HD.out];have HW4:=aA (aB HW.out (aB (aC wr _) (aB hb3 hb4)));clear hb3 hb4;go_wp2_with fail
      go_ret
      exact ⟨aM (by rw[HE.out,HO.out];rfl),aB HB1.out HW4.out⟩
    ·have hs1:=mE hq
     have HO:=aA (show dG es q=dG (es.drop (k+1)) q from by rw[HF2.out];simp[hq])
     clear hq;go_wp2_with fail
     go_roundw
     case rel=>exact ⟨k+1,by omega,by go_num,HO,aA (aB HW.out (aC wr _))⟩
     case measure=>simp[intOf];omega
   ·have HO:=aA (show dG es q=false from by rw[HF.out,List.drop_eq_nil_of_le (by omega)];rfl)
    go_wp2_with fail
    go_ret
    exact ⟨aM (by rw[HE.out,HO.out];rfl),aB HB1.out HW.out⟩
theorem zA (a:Option Addr) (c n:Nat) (es:List En) (w:World) (h:RdE w a es) (hn:n=es.length) (hl:es.length≤1048576) (hs:cG es) :
  Calls Tryz.prog 81 #[.slice a n c] w fun r w'=>r=.returned (.int .i64 (cL (cQ es) none es))∧Below w.heap.size w w':=by
 subst hn;obtain ⟨F,hF⟩:∃ F:Int,F=cL (cQ es) (bW es 0) (es.drop 0):=⟨_,rfl⟩;have e0:cL (cQ es) none es=F:=by rw[hF];simp[bW]
 rw[e0];have HE:=aA hF;have HR:=aA h;have HS:=aA hs;clear h hs e0 hF;go_enter Tryz.func81,Tryz.ntmps81;go_wp2_with fail
 go_loopw [9] (fun i wr=>∃ k:Nat,k≤es.length∧i=.int .i64 k∧Hid (F=cL (cQ es) (bW es k) (es.drop k))∧Hid (Below w.heap.size w wr)) (fun i _=>es.length - (intOf i).toNat)
 case atStart=>exact ⟨0,Nat.zero_le _,rfl,HE,aA (Below.refl _ _)⟩
 case round =>
  obtain ⟨k,hk,rfl,HF,HW⟩:=hrel;have HR1:=aA (HR.out.below HW.out);by_cases hlt:k<es.length
  ·obtain ⟨b,off,e,x,cc,rfl,hb,he,c0,c1,c2,c3,hr⟩:=HR1.out.at hlt
   have HX:=aA he;have HRc:=aA (hr.below (aC wr (.cells #[.string (str e.path),.int .i64 e.kind,.int .i64 e.size,.slice x e.chunks.length cc] 87)));have hsm:=HS.out e (List.mem_of_getElem? he);have HN:=aA (aB HW.out (aC wr (.cells #[.string (str e.path),.int .i64 e.kind,.int .i64 e.size,.slice x e.chunks.length cc] 87)));have F4:=aA (dI.new wr (.string (str e.path)) (.int .i64 e.kind) (.int .i64 e.size) (.slice x e.chunks.length cc) 87);clear he hr;go_wp2_with fail
   clear c0 c1 c2 c3;generalize wr.alloc (.cells #[.string (str e.path),.int .i64 e.kind,.int .i64 e.size,.slice x e.chunks.length cc] 87)=W1 at *;generalize wr.heap.size=b1 at *;refine (vN e _ _ _ _ HRc.out rfl hsm.1 hsm.2).mono ?_;rintro r w1 ⟨rfl,hb1⟩;obtain ⟨f0,f1,f2,f3⟩:=F4.out.below hb1;have HW1:=aA (aB HN.out hb1);have HR2:=aA (HR.out.below HW1.out);clear hb1 HRc F4 HN HR1 HW;by_cases hz:aI e=0
   ·have hpz:=bQ hz
    have HPZ:=aA hpz;have HZ:=aA hz;rw[hz];clear hz hpz;cases k with
    | zero =>
     have HL:=aA (show gY (bW es 0) e=false from rfl)
     go_wp2_with fail
     go_quiet (fail)
     go_wp2_with fail
     have HW2:=aA (below_drewN HW1.out nq);have HR3:=aA (HR2.out.below (below_drewN (Below.refl w1.heap.size w1) nq));clear HW1 HR2;generalize w1.drewN nq=W at *;refine (rP _ c es.length es e.path W HR3.out rfl hl HPZ.out hsm.1).mono ?_;rintro r w4 ⟨rfl,hb4⟩;have HW3:=aA (aB HW2.out hb4);clear hb4;cases hh:cQ es e.path
     ·have HO:=aA (za3 HF.out HX.out HZ.out HL.out hh)
      clear hh;go_wp2_with fail
      go_ret
      exact ⟨aM HO.out.symm,HW3.out⟩
     ·have HO:=aA (zb3 HF.out HX.out HZ.out HL.out hh)
      clear hh;go_wp2_with fail
      go_roundw
      case rel=>exact ⟨1,by omega,by go_num,HO,HW3⟩
      case measure=>simp[intOf];omega
    | succ j =>
     have hg:(0:Int)<((j+1:Nat):Int):=by omega
     obtain ⟨b2,off2,e2,x2,cc2,hbb,hb2,he2,d0,d1,d2,d3,hr2⟩:=HR2.out.at (show j<es.length by omega)
     simp only[Option.some.injEq,Addr.mk.injEq,and_true]at hbb;obtain ⟨rfl,rfl⟩:=hbb;have HL:=aA (show gY (bW es (j+1)) e=(Op.bytesLess e.path e2.path||(e.path==e2.path)) from by simp[bW,gY,he2])
     clear he2 d1 d2 d3 hr2;cases hlow:(Op.bytesLess (str e.path).toList (str e2.path).toList||((str e.path).toList==(str e2.path).toList))
     ·have HL2:=aA (show gY (bW es (j+1)) e=false from by rw[HL.out];rw[aN,aN]at hlow;exact hlow)
      go_wp2_with fail
      go_quiet (fail)
      go_wp2_with fail
      have HW2:=aA (below_drewN HW1.out nq);have HR3:=aA (HR2.out.below (below_drewN (Below.refl w1.heap.size w1) nq));clear HW1 HR2;generalize w1.drewN nq=W at *;refine (rP _ c es.length es e.path W HR3.out rfl hl HPZ.out hsm.1).mono ?_;rintro r w4 ⟨rfl,hb4⟩;have HW3:=aA (aB HW2.out hb4);clear hb4;cases hh:cQ es e.path
      ·have HO:=aA (za3 HF.out HX.out HZ.out HL2.out hh)
       clear hh;go_wp2_with fail
       go_ret
       exact ⟨aM HO.out.symm,HW3.out⟩
      ·have HO:=aA (zb3 HF.out HX.out HZ.out HL2.out hh)
       clear hh;go_wp2_with fail
       go_roundw
       case rel=>exact ⟨j+1+1,by omega,by go_num,HO,HW3⟩
       case measure=>simp[intOf];omega
     ·have HL2:=aA (show gY (bW es (j+1)) e=true from by rw[HL.out];rw[aN,aN]at hlow;exact hlow)
      have HO:=aA (zoh HF.out HX.out HZ.out HL2.out);go_wp2_with fail
      go_quiet (fail)
      go_wp2_with fail
      go_ret
      exact ⟨aM HO.out.symm,below_drewN HW1.out _⟩
   ·have HZ:=aA (zmh HF.out HX.out hz)
    have hz2:(aI e != 0)=true:=by simp;exact hz
    clear hz;go_wp2_with fail
    go_ret
    exact ⟨aM HZ.out.symm,HW1.out⟩
  ·have HZ:=aA (znh HF.out (by omega))
   go_wp2_with fail
   go_ret
   exact ⟨aM HZ.out.symm,HW.out⟩
theorem jA (a:Option Addr) (c n:Nat) (es:List En) (w:World) (h:RdE w a es) (hn:n=es.length) (hl:es.length≤1048576) (hs:cG es) :
  Calls Tryz.prog 35 #[.slice a n c] w fun r w'=>r=.returned (.int .i64 (bE es))∧Below w.heap.size w w':=by
 subst hn;by_cases hm:12<es.length
 ·have HE:=aA (sS hm)
  have hm2:(12:Int)<(es.length:Int):=by omega
  clear h hs;go_enter Tryz.func35,Tryz.ntmps35;go_wp2_with fail
  go_ret
  exact ⟨aM HE.out.symm,Below.refl _ _⟩
 ·have HE:Hid (bE es=cL (cQ es) none es):=aA (by simp[bE,hm])
  have hm2:¬ (12:Int)<(es.length:Int):=by omega
  have HF:=aA (zA a c es.length es w h rfl hl hs);clear h hs hm;generalize bE es=F at HE ⊢;go_enter Tryz.func35,Tryz.ntmps35;go_wp2_with fail
  refine HF.out.mono ?_;rintro r w1 ⟨rfl,hb⟩;have HB:=aA hb;clear hb;go_wp2_with fail
  go_ret
  exact ⟨aM HE.out.symm,HB.out⟩
theorem Tryz.infoU8:(Tryz.prog.info? 5).map (fun i=>(i.zero,i.size,i.bytes))=some (some (.int .u8 0),1,1):=by kernel_rfl
theorem lS {w:World} {b off:Nat} {zs:List Int} {k:IntKind} (hc:∀ i,i<zs.length→w.cell? ⟨b,off+i,none⟩=some (.int k (zs.getD i 0))) :
  ∀ j u,(zs.map (Value.int k))[j]?=some u→w.cell? ((⟨b,off,none⟩:Addr).add j)=some u:=by
 intro j u hj;have hadd:(⟨b,off,none⟩:Addr).add j=⟨b,off+j,none⟩:=by unfold Addr.add;split <;> simp_all
 have hjl:j<zs.length:=by
  rcases Nat.lt_or_ge j zs.length with h | h
  ·exact h
  ·rw[List.getElem?_eq_none (by simpa using h)]at hj;simp at hj
 rw[hadd,hc j hjl];simp[hjl]at hj
 simp[List.getD_eq_getElem?_getD,hjl,hj]
theorem oC (k:IntKind) (zs:List Int):∀ u∈zs.map (Value.int k),u.oneCell'=true:=by
 intro u hu;obtain ⟨z,_,rfl⟩:=List.mem_map.1 hu;rfl
theorem sU {w:World} {base:Nat} {e:TypeId} {k:IntKind} {v:Value} {n:Nat} {zs:List Int} (h:w.ownsRow base e 1 v n (zs.map (Value.int k))) (hn:n=zs.length) (hz:0<n) :
  ∃ g cap,v=.slice (some ⟨g,0,none⟩) n cap∧base≤g∧g<w.heap.size∧Own k w (some ⟨g,0,none⟩) zs:=by
 obtain ⟨g,cap,hv,hg,hgl,hc,hf⟩:=nP h hn hz;exact ⟨g,cap,hv,hg,hgl,fun _=>⟨g,0,rfl,hgl,fun i hi=>⟨by rw[Nat.zero_add];exact hc i (by omega),hf _⟩⟩⟩
theorem kV {P:Program} {wr:World} {ops:Array Oper} {rest:List Oper} {o:Oper} {a:Act} {Q:Exit→Act→World→Prop} (hgd:o.guard=none) (s x:Operand) (t:TypeId)
  (ho:o.op=.call { callee:=.builtin .append,args:=#[s,x],argTypes:=#[t,t] })
  (e:TypeId) (i:TypeInfo) (k:IntKind) (bytes:Nat) (ht:P.underlying t=some (.slice e)) (hi:P.info? e=some i) (hz:i.zero=some (.int k 0))
  (hsize:i.size=1) (hby:i.bytes=bytes) (hs:a.eval s=.slice (some ⟨wr.heap.size,0,none⟩) 0 0)
  (b off n cap:Nat) (zs:List Int) (hx:a.eval x=.slice (some ⟨b,off,none⟩) n cap) (hn:n=zs.length) (hb:b<wr.heap.size) (hc:∀ i,i<zs.length→wr.cell? ⟨b,off+i,none⟩=some (.int k (zs.getD i 0)))
  (h0:0<zs.length) (h63:zs.length≤maxLen) (hbytes:zs.length * bytes≤140737488355328)
  (h:∀ g c w',w'.ownsRow wr.heap.size e 1 (.slice (some ⟨g,0,none⟩) n c) n (zs.map (Value.int k))→wr.heap.size≤g→g<w'.heap.size→Below wr.heap.size wr w'→wpList P ops Q rest (a.put o.dst (.slice (some ⟨g,0,none⟩) n c)) w') :
  wpList P ops Q (o :: rest) a (wr.alloc (.cells #[] e)):=by
 have hown:(wr.alloc (.cells #[] e)).ownsRow wr.heap.size e 1 (.slice (some ⟨wr.heap.size,0,none⟩) 0 0) 0 []:=World.ownsRow_made wr #[] 0 (Nat.le_refl _) (Nat.zero_le _) rfl;have hn2:∀ j u,(zs.map (Value.int k))[j]?=some u→(wr.alloc (.cells #[] e)).cell? ((⟨b,off,none⟩:Addr).add j)=some u:=fun j u hj=>(World.grownBy_alloc wr (.cells #[] e) none).cell (lS hc j u hj) (by simp)
 refine wpList_append_own _ hgd s x t ho wr.heap.size e i (.int k 0) 1 bytes ht hi hz hsize hby rfl (by decide) _ _ _ hs hown ⟨b,off,none⟩ n cap (zs.map (Value.int k)) hx (by simp[hn]) hn2 (oC _ _) (by omega) (by rw[Nat.zero_add,hn];exact hbytes) (by simp) ?_
 intro v' w' hown' hgrow _;rw[Nat.zero_add,List.nil_append]at hown';obtain ⟨g,c,rfl,hg,hgl,_⟩:=sU hown' hn (by omega)
 refine h g c w' hown' hg hgl ?_;exact ((Below.refl _ _).alloc (Nat.le_refl _) _).grown hgrow (by simp) (fun k hk=>by simp[Value.ownBlock]at hk;omega)
theorem zud (b off cap:Nat) (zs:List Int) (w:World) (hc:∀ i,i<zs.length→w.cell? ⟨b,off+i,none⟩=some (.int .u8 (zs.getD i 0))) (hb:b<w.heap.size) (h0:0<zs.length) (hl:zs.length≤1048576) (n:Nat) (hn:n=zs.length) :
  Calls Tryz.prog 109 #[.slice (some ⟨b,off,none⟩) n cap] w fun e w'=>∃ g c,e=.returned (.slice (some ⟨g,0,none⟩) n c)∧w'.ownsRow w.heap.size 5 1 (.slice (some ⟨g,0,none⟩) n c) n (zs.map (Value.int .u8))∧w.heap.size≤g∧g<w'.heap.size∧Below w.heap.size w w':=by
 obtain ⟨i0,hi,hz0,hz1,hz2⟩:=info_parts Tryz.infoU8;have heq:=fun w=>Lib.run_eql_slice_nil (P:=Tryz.prog) w 22 5 (some ⟨b,off,none⟩) n cap 0 0 Tryz.underlying22
 have HC:=aA hc;have HN:=aA hn;clear hc hn;go_enter Tryz.func109,Tryz.ntmps109;go_wp2_with (at_builtin;refine kV rfl (.tmp 5) (.tmp 6) 22 rfl 5 i0 .u8 1 Tryz.underlying22 hi hz0 hz1 hz2 rfl b off n cap zs rfl HN.out hb HC.out h0 (by unfold maxLen;omega) (by omega) ?_)
 intro g c w' hown hg hgl hbel;have HO:=aA hown;have HB:=aA hbel;clear hown hbel;go_wp2
 go_ret
 exact ⟨g,c,rfl,HO.out,hg,hgl,HB.out⟩
def dM (zs:List Int) (i:Nat):List Int:=(zs.drop (8 * i)).take 8
def cut (zs:List Int):List (List Int):=(List.range ((zs.length+7) / 8)).map (dM zs)
theorem gP (zs:List Int):(cut zs).length=(zs.length+7) / 8:=by simp[cut]
theorem gB (zs:List Int) (i:Nat):(dM zs i).length=min 8 (zs.length - 8 * i):=by simp[dM]
theorem ztc (zs:List Int) (i t:Nat) (h:t<(dM zs i).length):(dM zs i).getD t 0=zs.getD (8 * i+t) 0:=by
 rw[gB]at h;have h8:t<8:=by omega
 simp[dM,List.getD_eq_getElem?_getD,h8,List.getElem?_drop]
def fU (B:Nat) (w:World) (v:Value) (P:Nat→List Int) (j:Nat):Prop :=
 ∃ A C:Nat→Nat,w.ownsRow B 22 1 v j ((List.range j).map fun i=>.slice (some ⟨A i,0,none⟩) (P i).length (C i)) ∧
  (∀ i,i<j→w.ownsRow B 5 1 (.slice (some ⟨A i,0,none⟩) (P i).length (C i)) (P i).length ((P i).map (Value.int .u8))) ∧
  ∀ i i',i<j→i'<j→A i=A i'→i=i'
theorem fU.below {B:Nat} {w w':World} {v:Value} {P:Nat→List Int} {j:Nat} (h:fU B w v P j) (hk:Below w.heap.size w w'):fU B w' v P j:=by
 obtain ⟨A,C,h1,h2,h3⟩:=h;exact ⟨A,C,aG h1 hk,fun i hi=>aG (h2 i hi) hk,h3⟩
theorem fU.push {B:Nat} {w w1 w2:World} {v v':Value} {P:Nat→List Int} {j g c:Nat} {A C:Nat→Nat}
  (h1:w.ownsRow B 22 1 v j ((List.range j).map fun i=>.slice (some ⟨A i,0,none⟩) (P i).length (C i)))
  (h2:∀ i,i<j→w.ownsRow B 5 1 (.slice (some ⟨A i,0,none⟩) (P i).length (C i)) (P i).length ((P i).map (Value.int .u8)))
  (h3:∀ i i',i<j→i'<j→A i=A i'→i=i') (hB:B≤w.heap.size) (hbel:Below w.heap.size w w1)
  {n1 n2:Nat} (hown:w1.ownsRow w.heap.size 5 1 (.slice (some ⟨g,0,none⟩) n1 c) n1 ((P j).map (Value.int .u8))) (hg:w.heap.size≤g)
  (hv':w2.ownsRow B 22 1 v' (j+1) ((List.range j).map (fun i=>Value.slice (some ⟨A i,0,none⟩) (P i).length (C i)) ++ [.slice (some ⟨g,0,none⟩) n2 c]))
  (hk:aD (fun b=>v.ownBlock=some b) w1 w2) (hn1:n1=(P j).length) (hn2:n2=(P j).length):fU B w2 v' P (j+1):=by
 subst hn1 hn2;have hA:∀ i,i<j→A i<w.heap.size:=fun i hi=>((h2 i hi).lt (A i) rfl).2
 have k1:=aG h1 hbel;refine ⟨fun i=>if i=j then g else A i,fun i=>if i=j then c else C i,?_,?_,?_⟩
 ·rw[List.range_succ,List.map_append]
  have e:(List.range j).map (fun i=>Value.slice (some ⟨if i=j then g else A i,0,none⟩) (P i).length (if i=j then c else C i))=(List.range j).map (fun i=>Value.slice (some ⟨A i,0,none⟩) (P i).length (C i)):=by
   apply List.map_congr_left
   intro i hi;have:i≠j:=by have:=List.mem_range.1 hi;omega
   simp[this]
  rw[e];simpa using hv'
 ·intro i hi
  by_cases e:i=j
  ·subst e
   simp only[if_true];exact aH (aS hown hB) hk (fun b hb hS=>aX k1 hown (by decide) hS hb)
  ·simp only[if_neg e]
   have k2:=aG (h2 i (by omega)) hbel
   exact aH k2 hk (fun b hb hS=>aX k1 k2 (by decide) hS hb)
 ·intro i i' hi hi' he
  by_cases e:i=j
  ·by_cases e':i'=j
   ·omega
   ·simp only[if_pos e,if_neg e']at he
    have:=hA i' (by omega)
    omega
  ·by_cases e':i'=j
   ·simp only[if_neg e,if_pos e']at he
    have:=hA i (by omega)
    omega
   ·simp only[if_neg e,if_neg e']at he
    exact h3 i i' (by omega) (by omega) he
theorem Tryz.infoBs:(Tryz.prog.info? 22).map (fun i=>(i.zero,i.size,i.bytes))=some (some (.slice none 0 0),1,24):=by kernel_rfl
theorem zy2 (a:Option Addr) (cap:Nat) (zs:List Int) (w:World) (h:aO .u8 w a zs) (hcap:zs.length≤cap) (hl:zs.length≤1048576) :
  Calls Tryz.prog 102 #[.slice a zs.length cap] w fun e w'=>∃ v,e=.returned v∧fU w.heap.size w' v (dM zs) (cut zs).length∧Below w.heap.size w w':=by
 obtain ⟨i0,hi,hz0,hz1,hz2⟩:=info_parts Tryz.infoU8;obtain ⟨i1,ki,kz0,kz1,kz2⟩:=info_parts Tryz.infoBs;go_enter Tryz.func102,Tryz.ntmps102;go_wp2
 go_loopw [3,4,5] (fun v i _ wr=>∃ j:Nat,8 * j<zs.length+8∧i=.int .i64 (8 * (j:Int))∧fU w.heap.size wr v (dM zs) j∧Below w.heap.size w wr) (fun _ i _ _=>zs.length+8 - (intOf i).toNat)
 case atStart=>exact ⟨0,by omega,rfl,⟨fun _=>0,fun _=>0,World.ownsRow_made w #[] 0 (Nat.le_refl _) (Nat.zero_le _) rfl,fun i hi=>absurd hi (by omega),fun i i' hi=>absurd hi (by omega)⟩,(Below.refl _ _).alloc (Nat.le_refl _) _⟩
 case round =>
  obtain ⟨j,hj,rfl,hgrow,hbel⟩:=hrel;have hsz:=hbel.size;by_cases hlt:8 * j<zs.length
  ·obtain ⟨b,off,rfl,hb,hc⟩:=h (by intro e;simp[e]at hlt)
   obtain ⟨A,C,h1,h2,h3⟩:=hgrow;have hlt':8 * (j:Int)<(zs.length:Int):=by omega
   have H1:=aA h1;have H2:=aA h2;have H3:=aA h3;have HB:=aA hbel;have HC:=aA hc;clear h1 h2 h3 hbel hc h;have hb':b<wr.heap.size:=Nat.lt_of_lt_of_le hb hsz;have hcp:∀ t,t<(dM zs j).length→wr.cell? ⟨b,off+8 * j+t,none⟩=some (.int .u8 ((dM zs j).getD t 0)):=fun t ht=>by
    rw[ztc zs j t ht,Nat.add_assoc];exact (HB.out.cell (p:=⟨b,off+(8 * j+t),none⟩) hb).trans (HC.out (8 * j+t) (by rw[gB]at ht;omega))
   have HCP:=aA hcp;have hp0:0<(dM zs j).length:=by rw[gB];omega
   have hp1:(dM zs j).length≤maxLen:=by rw[gB];unfold maxLen;omega
   have hp2:(dM zs j).length * 1≤140737488355328:=by rw[gB];omega
   have hm1:j+1≤maxLen:=by unfold maxLen;omega
   have hm2:(j+1) * 24≤140737488355328:=by omega
   clear hcp;by_cases hm:(zs.length:Int)<8 * (j:Int)+8
   ·have hpl:zs.length - 8 * j=(dM zs j).length:=by rw[gB];omega
    have HPL:=aA hpl;clear hpl;go_wp2_with (first | (at_builtin;refine kV rfl (.tmp 19) (.tmp 23) 22 rfl 5 i0 .u8 1 Tryz.underlying22 hi hz0 hz1 hz2 rfl b (off+8 * j) (zs.length - 8 * j) (cap - 8 * j) (dM zs j) rfl HPL.out hb' HCP.out hp0 hp1 hp2 ?_;intro g c w1 hown1 hg1 hgl1 hbel1;have k1:=aA (aG H1.out hbel1);have HO1:=aA hown1;have HB1:=aA hbel1;have hsz1:w.heap.size≤w1.heap.size:=Nat.le_trans hsz hbel1.size;clear hown1 hbel1) | (at_builtin;refine bS rfl (.tmp 18) (.tmp 25) 129 rfl w.heap.size 22 i1 (.slice none 0 0) 1 24 Tryz.underlying129 ki kz0 kz1 kz2 rfl (by decide) _ _ _ rfl k1.out rfl rfl (by intro u hu;simp at hu;subst hu;rfl) hm1 hm2 hsz1 ?_;intro v' w2 hown2 hkept;have hG:Hid (fU w.heap.size w2 v' (dM zs) (j+1)):=fU.push H1.out H2.out H3.out hsz HB1.out HO1.out hg1 hown2 hkept HPL.out (by first | exact HPL.out | (have:=HPL.out;omega));have hB2:=aA (aD.below_own (HB.out.trans (HB1.out.mono hsz)) hsz1 k1.out hkept);clear hown2 hkept k1) | go_in)
    go_roundw
    case rel=>exact ⟨j+1,by omega,by go_num,hG.out,hB2.out⟩
    case measure=>simp[intOf];omega
   ·have hpl:8 * j+8 - 8 * j=(dM zs j).length:=by rw[gB];omega
    have HPL:=aA hpl;clear hpl;go_wp2_with (first | (at_builtin;refine kV rfl (.tmp 19) (.tmp 23) 22 rfl 5 i0 .u8 1 Tryz.underlying22 hi hz0 hz1 hz2 rfl b (off+8 * j) (8 * j+8 - 8 * j) (cap - 8 * j) (dM zs j) rfl HPL.out hb' HCP.out hp0 hp1 hp2 ?_;intro g c w1 hown1 hg1 hgl1 hbel1;have k1:=aA (aG H1.out hbel1);have HO1:=aA hown1;have HB1:=aA hbel1;have hsz1:w.heap.size≤w1.heap.size:=Nat.le_trans hsz hbel1.size;clear hown1 hbel1) | (at_builtin;refine bS rfl (.tmp 18) (.tmp 25) 129 rfl w.heap.size 22 i1 (.slice none 0 0) 1 24 Tryz.underlying129 ki kz0 kz1 kz2 rfl (by decide) _ _ _ rfl k1.out rfl rfl (by intro u hu;simp at hu;subst hu;rfl) hm1 hm2 hsz1 ?_;intro v' w2 hown2 hkept;have hG:Hid (fU w.heap.size w2 v' (dM zs) (j+1)):=fU.push H1.out H2.out H3.out hsz HB1.out HO1.out hg1 hown2 hkept HPL.out (by first | exact HPL.out | (have:=HPL.out;omega));have hB2:=aA (aD.below_own (HB.out.trans (HB1.out.mono hsz)) hsz1 k1.out hkept);clear hown2 hkept k1) | go_in)
    go_roundw
    case rel=>exact ⟨j+1,by omega,by go_num,hG.out,hB2.out⟩
    case measure=>simp[intOf];omega
  ·have hje:j=(cut zs).length:=by rw[gP];omega
   subst hje;go_wp2
   go_ret
   exact ⟨_,rfl,hgrow,hbel⟩
theorem fU.mono {B B':Nat} {w:World} {v:Value} {P:Nat→List Int} {j:Nat} (h:fU B w v P j) (hB:B'≤B):fU B' w v P j:=by
 obtain ⟨A,C,h1,h2,h3⟩:=h;exact ⟨A,C,aS h1 hB,fun i hi=>aS (h2 i hi) hB,h3⟩
theorem Tryz.infoI64:(Tryz.prog.info? 2).map (fun i=>(i.zero,i.size,i.bytes))=some (some (.int .i64 0),1,8):=by kernel_rfl
end Go.Proofs.YtgaeikgoknoamaaGreat
namespace Go.Proofs.YtgaeikgoknoamaaGreat
open Go.RowKit Go.Maps
theorem Tryz.infoEn:(Tryz.prog.info? 87).map (fun i=>(i.zero,i.size,i.bytes))=some (some (.agg #[.string ⟨#[]⟩,.int .i64 0,.int .i64 0,.slice none 0 0]),4,56):=by kernel_rfl
structure Rw where
 e:En
 a:Option Addr
 c:Nat
def cA (r:Rw):List Value:=[.string (str r.e.path),.int .i64 r.e.kind,.int .i64 r.e.size,.slice r.a r.e.chunks.length r.c]
def aZ (rs:List Rw):List Value:=rs.flatMap cA
theorem oP (a b:List Rw):aZ (a++b)=aZ a++aZ b:=by simp[aZ]
theorem eJ:∀ rs:List Rw,(aZ rs).length=rs.length * 4
 | []=>rfl
 | r :: rs=>by
  have:=eJ rs;simp only[aZ,List.flatMap_cons,List.length_append,List.length_cons]at this ⊢;rw[this];simp[cA];omega
theorem jM:∀ (rs:List Rw) (i q:Nat) (r:Rw),rs[i]?=some r→q<4→(aZ rs)[i * 4+q]?=(cA r)[q]?
 | [],i,q,r,h,_=>by simp at h
 | x :: rs,0,q,r,h,hq=>by
  simp only[List.getElem?_cons_zero,Option.some.injEq]at h;subst h;simp only[aZ,List.flatMap_cons,Nat.zero_mul,Nat.zero_add];rw[List.getElem?_append_left (by simp[cA];omega)]
 | x :: rs,i+1,q,r,h,hq=>by
  have:=jM rs i q r (by simpa using h) hq
  rw[←this];simp only[aZ,List.flatMap_cons];rw[List.getElem?_append_right (by simp[cA];omega)]
  congr 1
  simp[cA];omega
theorem rT:∀ (rs:List Rw) (k:Nat),(aZ rs).drop (k * 4)=aZ (rs.drop k)
 | rs,0=>by simp
 | [],k+1=>by simp[aZ]
 | x :: rs,k+1=>by
  have:=rT rs k;rw[List.drop_succ_cons,←this];simp only[aZ,List.flatMap_cons];rw[show (k+1) * 4=(cA x).length+k * 4 from by simp[cA];omega,List.drop_length_add_append]
theorem wL:∀ (rs:List Rw) (k:Nat),(aZ rs).take (k * 4)=aZ (rs.take k)
 | rs,0=>by simp[aZ]
 | [],k+1=>by simp[aZ]
 | x :: rs,k+1=>by
  have:=wL rs k;rw[List.take_succ_cons];simp only[aZ,List.flatMap_cons]at this ⊢;rw[show (k+1) * 4=(cA x).length+k * 4 from by simp[cA];omega,List.take_length_add_append,this]
theorem jN (rs:List Rw):∀ u∈aZ rs,u.oneCell'=true:=by
 intro u hu;simp only[aZ,List.mem_flatMap]at hu;obtain ⟨r,_,hr⟩:=hu;simp only[cA,List.mem_cons,List.not_mem_nil,or_false]at hr;rcases hr with rfl | rfl | rfl | rfl <;> rfl
def SE (B:Nat) (w:World) (v:Value) (es:List En):Prop :=
 ∃ rs:List Rw,rs.map Rw.e=es∧w.ownsRow B 87 4 v es.length (aZ rs)∧∀ r∈rs,aO .i64 w r.a r.e.chunks
def GE (B T:Nat) (w:World) (v:Value) (es:List En):Prop :=
 ∃ rs:List Rw,rs.map Rw.e=es∧w.ownsRow B 87 4 v es.length (aZ rs) ∧
  (∀ r∈rs,w.ownsRow B 2 1 (.slice r.a r.e.chunks.length r.c) r.e.chunks.length (r.e.chunks.map (Value.int .i64))) ∧
  rs.Pairwise (fun r r'=>∀ g,r.a.map Addr.block=some g→r'.a.map Addr.block≠some g) ∧
  (∀ r∈rs,∀ g,r.a.map Addr.block=some g→g<T)∧∀ b,v.ownBlock=some b→b<T
theorem cM {w:World} {B:Nat} {e:TypeId} {k:IntKind} {a:Option Addr} {n c:Nat} {zs:List Int} (h:w.ownsRow B e 1 (.slice a n c) n (zs.map (Value.int k))) (hn:n=zs.length):aO k w a zs:=by
 intro hz;have h0:0<n:=by rw[hn];exact List.length_pos_iff.2 hz
 obtain ⟨g,cap,hv,hg,hgl,hc,hf⟩:=nP h hn h0;simp only[Value.slice.injEq,true_and]at hv;exact ⟨g,0,hv.1,hgl,fun i hi=>by rw[Nat.zero_add];exact hc i (by omega)⟩
theorem GE.se {B T:Nat} {w:World} {v:Value} {es:List En} (h:GE B T w v es):SE B w v es:=by
 obtain ⟨rs,e,h1,h2,_⟩:=h;exact ⟨rs,e,h1,fun r hr=>cM (h2 r hr) rfl⟩
theorem SE.shape {B:Nat} {w:World} {v:Value} {es:List En} (h:SE B w v es):∃ a c,v=.slice a es.length c:=by
 obtain ⟨rs,_,h1,_⟩:=h;exact aQ h1
theorem SE.rd {B:Nat} {w:World} {a:Option Addr} {n c:Nat} {es:List En} (h:SE B w (.slice a n c) es):RdE w a es:=by
 intro hz;obtain ⟨rs,he,h1,h2⟩:=h;have h0:0<es.length:=List.length_pos_iff.2 hz;have hl:rs.length=es.length:=by rw[←he,List.length_map]
 rcases h1.2 with ⟨_,h0'⟩ | ⟨g,cap,cur,h',hb,hh,hnc,hcm,hcs,htake⟩
 ·omega
 ·simp only[Value.slice.injEq]at h'
  obtain ⟨rfl,rfl,rfl⟩:=h';refine ⟨g,0,fun i=>(rs[i]?.map Rw.a).getD none,fun i=>(rs[i]?.map Rw.c).getD 0,rfl,(h1.lt g rfl).2,fun i e hi=>?_⟩
  have hi0:i<es.length:=(List.getElem?_eq_some_iff.1 hi).1;obtain ⟨r,hr⟩:∃ r,rs[i]?=some r:=⟨rs[i]'(by omega),List.getElem?_eq_getElem (by omega)⟩
  have hre:r.e=e:=by
   have:(rs.map Rw.e)[i]?=some r.e:=by rw[List.getElem?_map,hr];rfl
   rw[he,hi]at this;exact (Option.some.inj this).symm
  have hc:=fun q hq=>(h1.cellAt (i * 4+q) (by omega)).trans (jM rs i q r hr hq)
  simp only[hr,Option.map_some,Option.getD_some,Nat.zero_add];rw[←hre];exact ⟨hc 0 (by decide),hc 1 (by decide),hc 2 (by decide),hc 3 (by decide),h2 r (List.mem_of_getElem? hr)⟩
theorem GE.rd {B T:Nat} {w:World} {a:Option Addr} {n c:Nat} {es:List En} (h:GE B T w (.slice a n c) es):RdE w a es:=h.se.rd
theorem zo3 {a:Option Addr} {n c g:Nat} (hb:(Value.slice a n c).ownBlock=some g):a.map Addr.block=some g:=by
 cases a with
 | none=>simp[Value.ownBlock]at hb
 | some x=>simpa [Value.ownBlock] using hb
theorem mU {a:Option Addr} {n c g:Nat} (hb:a.map Addr.block=some g):(Value.slice a n c).ownBlock=some g:=by
 cases a with
 | none=>simp at hb
 | some x=>simpa [Value.ownBlock] using hb
theorem GE.kept {S:Nat→Prop} {B T:Nat} {w w':World} {v:Value} {es:List En} (h:GE B T w v es) (hk:aD S w w') (hS:∀ b,B≤b→b<T→¬ S b):GE B T w' v es:=by
 obtain ⟨rs,he,h1,h2,h3,h4,h5⟩:=h;exact ⟨rs,he,aH h1 hk (fun b hb=>hS b (h1.lt b hb).1 (h5 b hb)),fun r hr=>aH (h2 r hr) hk (fun b hb=>hS b ((h2 r hr).lt b hb).1 (h4 r hr b (zo3 hb))),h3,h4,h5⟩
theorem GE.below {B T:Nat} {w w':World} {v:Value} {es:List En} (h:GE B T w v es) (hk:Below w.heap.size w w'):GE B T w' v es :=
 h.kept (S:=fun _=>False) (aD.of_below hk) (fun _ _ _=>id)
theorem GE.mono {B B' T:Nat} {w:World} {v:Value} {es:List En} (h:GE B T w v es) (hB:B'≤B):GE B' T w v es:=by
 obtain ⟨rs,he,h1,h2,h3,h4,h5⟩:=h;exact ⟨rs,he,aS h1 hB,fun r hr=>aS (h2 r hr) hB,h3,h4,h5⟩
theorem GE.wide {B T T':Nat} {w:World} {v:Value} {es:List En} (h:GE B T w v es) (hT:T≤T'):GE B T' w v es:=by
 obtain ⟨rs,he,h1,h2,h3,h4,h5⟩:=h;exact ⟨rs,he,h1,h2,h3,fun r hr g hg=>Nat.lt_of_lt_of_le (h4 r hr g hg) hT,fun b hb=>Nat.lt_of_lt_of_le (h5 b hb) hT⟩
theorem GE.nil (B T:Nat) (w:World):GE B T w (.slice none 0 0) [] :=
 ⟨[],rfl,World.ownsRow_nil _ _ _ _,fun r hr=>by simp at hr,List.Pairwise.nil,fun r hr=>by simp at hr,fun b hb=>by simp[Value.ownBlock]at hb⟩
theorem GE.push {B:Nat} {w w1 w2:World} {v v':Value} {es:List En} {rs:List Rw} {e:En} {a:Option Addr} {c:Nat} (he:rs.map Rw.e=es)
  (h1:w.ownsRow B 87 4 v es.length (aZ rs))
  (h2:∀ r∈rs,w.ownsRow B 2 1 (.slice r.a r.e.chunks.length r.c) r.e.chunks.length (r.e.chunks.map (Value.int .i64)))
  (h3:rs.Pairwise (fun r r'=>∀ g,r.a.map Addr.block=some g→r'.a.map Addr.block≠some g)) (hB:B≤w.heap.size) (hbel:Below w.heap.size w w1)
  (hown:w1.ownsRow w.heap.size 2 1 (.slice a e.chunks.length c) e.chunks.length (e.chunks.map (Value.int .i64)))
  (hv':w2.ownsRow B 87 4 v' (es.length+1) (aZ rs++cA ⟨e,a,c⟩))
  (hk:aD (fun b=>v.ownBlock=some b) w1 w2):GE B w2.heap.size w2 v' (es ++ [e]):=by
 have hA:∀ r∈rs,∀ g',r.a.map Addr.block=some g'→g'<w.heap.size:=fun r hr g' hg=>((h2 r hr).lt g' (mU hg)).2
 have hg0:∀ g',a.map Addr.block=some g'→w.heap.size≤g'∧g'<w1.heap.size:=fun g' hg=>hown.lt g' (mU hg)
 have k1:=aG h1 hbel;have hsz:=hk.size;have hsz1:=hbel.size;refine ⟨rs ++ [⟨e,a,c⟩],by rw[List.map_append,he];rfl,?_,?_,?_,?_,fun b hb=>(hv'.lt b hb).2⟩
 ·rw[oP,List.length_append]
  simpa [aZ] using hv'
 ·intro r hr
  rcases List.mem_append.1 hr with hr | hr
  ·have k2:=aG (h2 r hr) hbel
   exact aH k2 hk (fun b hb hS=>aX k1 k2 (by decide) hS hb)
  ·simp only[List.mem_singleton]at hr
   subst hr;exact aH (aS hown hB) hk (fun b hb hS=>aX k1 hown (by decide) hS hb)
 ·rw[List.pairwise_append]
  refine ⟨h3,List.pairwise_singleton _ _,fun r hr r' hr' g hg hg'=>?_⟩
  simp only[List.mem_singleton]at hr';subst hr';have:=hA r hr g hg;have:=hg0 g hg';omega
 ·intro r hr g hg
  rcases List.mem_append.1 hr with hr | hr
  ·have:=hA r hr g hg
   omega
  ·simp only[List.mem_singleton]at hr
   subst hr;have:=hg0 g hg;omega
end Go.Proofs.YtgaeikgoknoamaaGreat
namespace Go.Proofs.YtgaeikgoknoamaaGreat
open Go.RowKit Go.Maps
attribute [local go_sem ↓] Go.wp_at_zero Go.wp_at_succ
theorem lN {P:Program} {wr:World} {ops:Array Oper} {rest:List Oper} {o:Oper} {a:Act} {Q:Exit→Act→World→Prop} (hgd:o.guard=none) (s x:Operand) (t:TypeId)
  (ho:o.op=.call { callee:=.builtin .append,args:=#[s,x],argTypes:=#[t,t] })
  (base:Nat) (e:TypeId) (i:TypeInfo) (k:IntKind) (bytes:Nat) (hu:P.underlying t=some (.slice e)) (hi:P.info? e=some i) (hz:i.zero=some (.int k 0))
  (hsize:i.size=1) (hby:i.bytes=bytes) (g c n:Nat) (ys:List Int) (hs:a.eval s=.slice (some ⟨g,0,none⟩) n c) (hown:wr.ownsRow base e 1 (.slice (some ⟨g,0,none⟩) n c) n (ys.map (Value.int k)))
  (xa:Option Addr) (m cap:Nat) (zs:List Int) (hx:a.eval x=.slice xa m cap) (hm:m=zs.length) (hr:aO k wr xa zs)
  (N:Nat) (hN:n+m=N) (h63:n+m≤maxLen) (hbytes:(n+m) * bytes≤140737488355328) (hbase:base≤wr.heap.size)
  (h:∀ av cv w',w'.ownsRow base e 1 (.slice av N cv) N ((ys++zs).map (Value.int k))→aD (fun b=>b=g) wr w'→wpList P ops Q rest (a.put o.dst (.slice av N cv)) w') :
  wpList P ops Q (o :: rest) a wr:=by
 subst hN;cases xa with
 | some ad =>
  refine wpList_append_own _ hgd s x t ho base e i (.int k 0) 1 bytes hu hi hz hsize hby rfl (by decide) _ n _ hs hown ad m cap (zs.map (Value.int k)) hx (by simp[hm]) (fun j u hj=>?_) (oC _ _) h63 hbytes hbase ?_
  ·have h0:zs≠[]:=fun e=>by subst e;simp at hj
   obtain ⟨b,off,e1,hb,hc⟩:=hr h0;simp only[Option.some.injEq]at e1;subst e1;exact lS hc j u hj
  ·intro v' w' ho' hg _
   rw[←List.map_append]at ho';obtain ⟨av,cv,rfl⟩:=aQ ho';exact h av cv w' ho' ⟨hg.os,hg.tape,hg.output,hg.size,fun q hq hn=>hg.block q hq (fun e=>hn (by simp[Value.ownBlock]at e;exact e))⟩
 | none =>
  have h0:zs=[]:=by
   by_cases h0:zs=[]
   ·exact h0
   ·obtain ⟨b,off,e1,_⟩:=hr h0;cases e1
  subst h0;simp only[List.length_nil]at hm;subst hm;have hc:n≤c:=kM hown;have hrun:(Builtin.append_ #[t,t] o.type #[.slice (some ⟨g,0,none⟩) n c,.slice none 0 cap]).run P wr=.ok (.slice (some ⟨g,0,none⟩) (n+0) c) wr:=by
   simp[Builtin.append_,run_underlying hu,sizeOf,typeInfo,hi,Builtin.lenOf,Builtin.firstCells,storeCells,hc]
  refine wpList_plain hgd fun K hK=>?_
  unfold Oper.wp execOp;simp only[ho,resolve,invoke,builtin,Sem.run_bind,Sem.run_pure,Result.andThen_ok,List.map_toArray,List.map_cons,List.map_nil,hs,hx,hrun];exact hK _ _ (h _ _ wr (by simpa using hown) (aD.refl _ _))
theorem dQ {P:Program} {wr:World} {news:Array Value} {ops:Array Oper} {rest:List Oper} {o:Oper} {a:Act} {Q:Exit→Act→World→Prop} (hgd:o.guard=none) (s x:Operand) (t:TypeId)
  (ho:o.op=.call { callee:=.builtin .append,args:=#[s,x],argTypes:=#[t,t] })
  (base:Nat) (e:TypeId) (i:TypeInfo) (z:Value) (size bytes:Nat) (ht:P.underlying t=some (.slice e)) (hi:P.info? e=some i) (hz:i.zero=some z)
  (hsize:i.size=size) (hby:i.bytes=bytes) (hzs:z.cells.size=size) (hsz:0<size)
  (v:Value) (n:Nat) (xs:List Value) (hs:a.eval s=v) (hown:wr.ownsRow base e size v n xs)
  (H:Nat) (hH:wr.heap.size=H) (hx:a.eval x=.slice (some ⟨H,0,none⟩) 1 1) (hl:news.size=size) (h1:∀ u∈news.toList,u.oneCell'=true)
  (h63:n+1≤maxLen) (hbytes:(n+1) * bytes≤140737488355328) (hbase:base≤wr.heap.size)
  (h:∀ av cv w',w'.ownsRow base e size (.slice av (n+1) cv) (n+1) (xs++news.toList)→aD (fun b=>v.ownBlock=some b) wr w'→wpList P ops Q rest (a.put o.dst (.slice av (n+1) cv)) w') :
  wpList P ops Q (o :: rest) a (wr.alloc (.cells news e)):=by
 subst hH;refine bS hgd s x t ho base e i z size bytes ht hi hz hsize hby hzs hsz v n xs hs hown hx hl h1 h63 hbytes hbase fun v' w' h2 h3=>?_
 obtain ⟨av,cv,rfl⟩:=aQ h2;exact h av cv w' h2 h3
theorem jO {w:World} {B:Nat} {e:TypeId} {size n:Nat} {a:Option Addr} {c:Nat} {xs:List Value} (h:w.ownsRow B e size (.slice a n c) n xs) (hn:0<n∨∃ g,(Value.slice a n c).ownBlock=some g):∃ g,a=some ⟨g,0,none⟩∧n≤c:=by
 rcases h.2 with ⟨h',h0⟩ | ⟨g,cap,cur,h',_,_,hnc,_⟩
 ·simp only[Value.slice.injEq]at h'
  rcases hn with hn | ⟨g,hg⟩
  ·omega
  ·rw[h'.1]at hg;simp[Value.ownBlock]at hg
 ·simp only[Value.slice.injEq,true_and]at h'
  exact ⟨g,h'.1,by rw[h'.2];exact hnc⟩
theorem GE.addr {B T:Nat} {w:World} {a:Option Addr} {n c:Nat} {es:List En} (h:GE B T w (.slice a n c) es) (hn:n=es.length) (ho:0<n∨∃ g,(Value.slice a n c).ownBlock=some g):∃ g,a=some ⟨g,0,none⟩∧n≤c:=by
 subst hn;obtain ⟨rs,_,h1,_⟩:=h;exact jO h1 ho
theorem GE.made (w:World):GE w.heap.size (w.alloc (.cells #[] 87)).heap.size (w.alloc (.cells #[] 87)) (.slice (some ⟨w.heap.size,0,none⟩) 0 0) [] :=
 ⟨[],rfl,World.ownsRow_made w #[] 0 (Nat.le_refl _) (Nat.zero_le _) rfl,fun r hr=>by simp at hr,List.Pairwise.nil,fun r hr=>by simp at hr,fun x hx=>by simp[Value.ownBlock]at hx;subst hx;simp⟩
theorem GE.shape {B T:Nat} {w:World} {v:Value} {es:List En} (h:GE B T w v es):∃ a c,v=.slice a es.length c:=h.se.shape
theorem gN {α:Type} {es:List α} {k:Nat} (h:k≤es.length):(es.take k).length=k:=by rw[List.length_take];omega
theorem zvd {wr w1:World} {e:En} {x av:Option Addr} {cc cv:Nat} (hown:w1.ownsRow (wr.heap.size+1) 2 1 (.slice av e.chunks.length cv) e.chunks.length (e.chunks.map (Value.int .i64)))
  (hk:aD (fun b=>b=wr.heap.size+1) ((wr.alloc (.cells #[.string (str e.path),.int .i64 e.kind,.int .i64 e.size,.slice x e.chunks.length cc] 87)).alloc (.cells #[] 2)) w1) :
  (w1.cell? ⟨wr.heap.size,0,none⟩=some (.string (str e.path))∧w1.cell? ⟨wr.heap.size,1,none⟩=some (.int .i64 e.kind)∧w1.cell? ⟨wr.heap.size,2,none⟩=some (.int .i64 e.size)∧w1.cell? ⟨wr.heap.size,3,none⟩=some (.slice x e.chunks.length cc)∧w1.frozen? ⟨wr.heap.size,3,none⟩=false) ∧
  Below wr.heap.size wr (w1.setCell ⟨wr.heap.size,3,none⟩ (.slice av e.chunks.length cv)) ∧
  (w1.setCell ⟨wr.heap.size,3,none⟩ (.slice av e.chunks.length cv)).ownsRow wr.heap.size 2 1 (.slice av e.chunks.length cv) e.chunks.length (e.chunks.map (Value.int .i64)):=by
 have hF:=(dI.new wr (.string (str e.path)) (.int .i64 e.kind) (.int .i64 e.size) (.slice x e.chunks.length cc) 87).below (aC _ (.cells #[] 2));have hfz:((wr.alloc (.cells #[.string (str e.path),.int .i64 e.kind,.int .i64 e.size,.slice x e.chunks.length cc] 87)).alloc (.cells #[] 2)).frozen? ⟨wr.heap.size,3,none⟩=false:=by
  rw[(aC _ (.cells #[] 2)).frozen (p:=⟨wr.heap.size,3,none⟩) (by simp)]
  simp
 have hBB:Below wr.heap.size wr ((wr.alloc (.cells #[.string (str e.path),.int .i64 e.kind,.int .i64 e.size,.slice x e.chunks.length cc] 87)).alloc (.cells #[] 2)):=aB (aC _ _) (aC _ _);have hlt:=hF.lt;generalize (wr.alloc (.cells #[.string (str e.path),.int .i64 e.kind,.int .i64 e.size,.slice x e.chunks.length cc] 87)).alloc (.cells #[] 2)=W at *;obtain ⟨f0,f1,f2,f3⟩:=hF;have hne:¬ (wr.heap.size=wr.heap.size+1):=by omega
 refine ⟨⟨(hk.cell (p:=⟨wr.heap.size,0,none⟩) hlt hne).trans f0,(hk.cell (p:=⟨wr.heap.size,1,none⟩) hlt hne).trans f1,(hk.cell (p:=⟨wr.heap.size,2,none⟩) hlt hne).trans f2,(hk.cell (p:=⟨wr.heap.size,3,none⟩) hlt hne).trans f3,(hk.frozen (p:=⟨wr.heap.size,3,none⟩) hlt hne).trans hfz⟩,?_,?_⟩
 ·exact (hBB.trans (hk.below hBB.size (fun k hk h=>by omega))).setCell (p:=⟨wr.heap.size,3,none⟩) (Nat.le_refl _) _
 ·refine aS (base:=wr.heap.size+1) ?_ (by omega)
  exact aH (S:=fun b=>b=wr.heap.size) hown (aD.setCell (S:=fun b=>b=wr.heap.size) (p:=⟨wr.heap.size,3,none⟩) (aD.refl _ w1) (fun _=>rfl) _) (fun b hb hS=>by have:=(hown.lt b hb).1;omega)
theorem iN (a:Option Addr) (c n:Nat) (es:List En) (w:World) (h:RdE w a es) (hn:n=es.length) (hl:es.length≤1048576) (hs:cG es) :
  Calls Tryz.prog 132 #[.slice a n c] w fun r w'=>∃ g cv,r=.returned (.slice (some ⟨g,0,none⟩) n cv)∧n≤cv∧GE w.heap.size w'.heap.size w' (.slice (some ⟨g,0,none⟩) n cv) es∧Below w.heap.size w w':=by
 subst hn;obtain ⟨i1,ki,kz0,kz1,kz2⟩:=info_parts Tryz.infoEn;obtain ⟨i0,hi0,hz0,hz1,hz2⟩:=info_parts Tryz.infoI64;have HA:=aA h;have HS:=aA hs;clear h hs;go_enter Tryz.func132,Tryz.ntmps132;go_wp2_with fail
 go_loopw [3,4] (fun v i wr=>∃ j:Nat,j≤es.length∧i=.int .i64 j∧Hid (GE w.heap.size wr.heap.size wr v (es.take j))∧Hid (∃ g,v.ownBlock=some g)∧Hid (Below w.heap.size w wr)) (fun _ i _=>es.length - (intOf i).toNat)
 case atStart=>exact ⟨0,Nat.zero_le _,rfl,aA (GE.made w),aA ⟨_,rfl⟩,aA (aC _ _)⟩
 case round =>
  obtain ⟨j,hj,rfl,HG,HOb,HW⟩:=hrel;obtain ⟨lv,lc,hv⟩:=HG.out.shape;rw[gN hj]at hv;subst hv;have HA1:=aA (HA.out.below HW.out);have hsz:=HW.out.size;by_cases hlt:j<es.length
  ·obtain ⟨b,off,e,x,cc,rfl,hb,he,c0,c1,c2,c3,hr⟩:=HA1.out.at hlt
   have HX:=aA he;have HRc:=aA hr;have hsm:=HS.out e (List.mem_of_getElem? he);clear he hr;obtain ⟨rs,g1,g2,g3,g4,g5,g6⟩:=HG.out;have G1:=aA g1;have G2:=aA g2;have G3:=aA g3;have G4:=aA g4;clear g1 g2 g3 g4 g5 g6 HG;have hj1:(es.take j).length=j:=gN hj;have OWN0:Hid (((wr.alloc (.cells #[.string (str e.path),.int .i64 e.kind,.int .i64 e.size,.slice x e.chunks.length cc] 87)).alloc (.cells #[] 2)).ownsRow (wr.heap.size+1) 2 1 (.slice (some ⟨wr.heap.size+1,0,none⟩) 0 0) 0 (([]:List Int).map (Value.int .i64))):=aA (by
    have:=World.ownsRow_made (base:=wr.heap.size+1) (e:=2) (size:=1) (wr.alloc (.cells #[.string (str e.path),.int .i64 e.kind,.int .i64 e.size,.slice x e.chunks.length cc] 87)) #[] 0 (by simp) (Nat.zero_le _) rfl
    simpa using this)
   have RD0:Hid (aO .i64 ((wr.alloc (.cells #[.string (str e.path),.int .i64 e.kind,.int .i64 e.size,.slice x e.chunks.length cc] 87)).alloc (.cells #[] 2)) x e.chunks):=HRc.out.below (aB (aC _ _) (aC _ _));have hm0:0+e.chunks.length≤maxLen:=by unfold maxLen;omega
   have hm0':(0+e.chunks.length) * 8≤140737488355328:=by omega
   have hm1:j+1≤maxLen:=by unfold maxLen;omega
   have hm1':(j+1) * 56≤140737488355328:=by omega
   have G2':Hid (wr.ownsRow w.heap.size 87 4 (.slice lv j lc) j (aZ rs)):=by have:=G2.out;rw[hj1]at this;exact this
   have HJ:=aA hj1;clear hj1;go_wp2_with (first
    | (at_builtin;refine lN rfl (.tmp 17) (.tmp 19) 48 rfl (wr.heap.size+1) 2 i0 .i64 8 Tryz.underlying48 hi0 hz0 hz1 hz2 (wr.heap.size+1) 0 0 [] rfl OWN0.out x e.chunks.length cc e.chunks rfl rfl RD0.out e.chunks.length (by simp) hm0 hm0' (by simp) ?_;intro av cv w1 hown1 hk1;obtain ⟨⟨f0,f1,f2,f3,f4⟩,hB1,hO1⟩:=zvd hown1 hk1;have B1:=aA hB1;have O1:=aA hO1;have O2:=aA (aG G2'.out hB1);have hs1:=hB1.size;have hH1:(w1.setCell ⟨wr.heap.size,3,none⟩ (.slice av e.chunks.length cv)).heap.size=w1.heap.size:=(by simp[World.setCell]);clear hown1 hk1 hB1 hO1)
    | (at_builtin;refine dQ rfl (.tmp 22) (.tmp 24) 40 rfl w.heap.size 87 i1 (.agg #[.string ⟨#[]⟩,.int .i64 0,.int .i64 0,.slice none 0 0]) 4 56 Tryz.underlying40 ki kz0 kz1 kz2 rfl (by decide) _ _ _ rfl O2.out _ hH1 rfl rfl (by intro u hu;simp at hu;rcases hu with rfl | rfl | rfl | rfl <;> rfl) hm1 hm1' (by omega) ?_;intro av3 cv3 w3 hown2 hkept;have O3:=aA hown2;have K3:=aA hkept;clear hown2 hkept))
   go_roundw
   case rel =>
    refine ⟨j+1,by omega,by go_num,aA ?_,aA ?_,aA ?_⟩
    ·rw[cT HX.out]
     exact GE.push G1.out G2.out G3.out G4.out hsz B1.out O1.out (by rw[HJ.out];exact O3.out) K3.out
    ·obtain ⟨g5,h5,_⟩:=jO O3.out (.inl (by omega))
     exact ⟨g5,by rw[h5];rfl⟩
    ·exact (aB HW.out B1.out).trans (K3.out.below (by omega) (fun k hk hx=>by have:=(G2'.out.lt k hx).1;omega))
   case measure=>simp[intOf];omega
  ·have hje:j=es.length:=by omega
   have HE:=aA (show es.take j=es from List.take_of_length_le (by omega))
   obtain ⟨g5,h5,h6⟩:=HG.out.addr (gN hj).symm (.inr HOb.out);subst h5;have HG2:Hid (GE w.heap.size wr.heap.size wr (.slice (some ⟨g5,0,none⟩) j lc) es):=by have:=HG.out;rw[HE.out]at this;exact this
   clear HG HE;subst hje;go_wp2_with fail
   go_ret
   exact ⟨_,_,rfl,h6,HG2.out,HW.out⟩
def nE (q:Int) (es:List En) (w:World) (r:Ending) (w':World):Prop :=
 ∃ av cv,r=.returned (.agg #[.int .i64 q,.slice av es.length cv])∧GE w.heap.size w'.heap.size w' (.slice av es.length cv) es∧Below w.heap.size w w'
theorem nE.of {q:Int} {es:List En} {w w2 w3:World} {B b n:Nat} {av:Option Addr} {cv:Nat} {u v:Value} (hB:b<B) (hw:w.heap.size≤b) (hn:n=es.length) (hG:GE B w3.heap.size w3 (.slice av n cv) es) (hb:Below w.heap.size w w3) :
  nE q es w (.returned (.agg #[.int .i64 q,.slice av n cv])) ((w3.setCell ⟨b,0,none⟩ u).setCell ⟨b,1,none⟩ v):=by
 subst hn;refine ⟨av,cv,rfl,?_,(hb.setCell hw _).setCell hw _⟩;have hs:((w3.setCell ⟨b,0,none⟩ u).setCell ⟨b,1,none⟩ v).heap.size=w3.heap.size:=by simp[World.setCell]
 rw[hs];exact (hG.kept (aD.two w3 b 0 1 u v) (fun x h1 _ h2=>by omega)).mono (by omega)
theorem nE.bad {q:Int} {w w3:World} {b:Nat} {u v:Value} (hw:w.heap.size≤b) (hb:Below w.heap.size w w3) :
  nE q [] w (.returned (.agg #[.int .i64 q,.slice none 0 0])) ((w3.setCell ⟨b,0,none⟩ u).setCell ⟨b,1,none⟩ v) :=
 ⟨none,0,rfl,GE.nil _ _ _,(hb.setCell hw _).setCell hw _⟩
end Go.Proofs.YtgaeikgoknoamaaGreat
