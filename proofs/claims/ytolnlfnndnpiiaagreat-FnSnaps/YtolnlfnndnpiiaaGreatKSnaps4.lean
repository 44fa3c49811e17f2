/-
  Texts put together: PathQ IteB Bytes Cut Ints.
-/
import Derived.Test.YtolnlfnndnpiiaaGreatKSnaps3
import Derived.Test.YtolnlfnndnpiiaaGreatKSnaps1
import Derived.Lib.SliceRun
set_option linter.unusedVariables false
set_option maxHeartbeats 2000000
set_option maxRecDepth 100000
namespace Go.Proofs.YtolnlfnndnpiiaaGreat
open Go.RowKit Go.Shelf
attribute [local go_sem] Oper.semAt_some
theorem uP:∀ (ns:List Bs) (m:Nat),(∀ n∈ns,n.length≤m)→(cA ns).length≤(m+1) * ns.length
 | [],_,_=>by simp[cA]
 | n :: ns,m,h=>by
  have:=uP ns m (fun x hx=>h x (by simp[hx]))
  have:=h n (by simp)
  simp only[cA,List.length_cons,List.length_append,Nat.mul_add,Nat.mul_one];omega
theorem vW {F:Fence} {m:Nat} {P:Program} {wr:World} {news:Array Value} {ops:Array Oper} {rest:List Oper} {o:Oper} {a:Act} {Q:Exit→Act→World→Prop} (hgd:o.guard=none) (s x:Operand) (t:TypeId)
  (ho:o.op=.call { callee:=.builtin .append,args:=#[s,x],argTypes:=#[t,t] })
  (base:Nat) (e:TypeId) (i:TypeInfo) (z:Value) (size bytes:Nat) (ht:P.underlying t=some (.slice e)) (hi:P.info? e=some i) (hz:i.zero=some z)
  (hsize:i.size=size) (hby:i.bytes=bytes) (hzs:z.cells.size=size) (hsz:0<size)
  (v:Value) (n:Nat) (xs:List Value) (hs:a.eval s=v) (hown:wr.ownsRow base e size v n xs)
  (hx:a.eval x=.slice (some ⟨wr.heap.size,0,none⟩) 1 1) (hl:news.size=size) (h1:∀ u∈news.toList,u.oneCell'=true)
  (h63:n+1≤maxLen) (hbytes:(n+1) * bytes≤140737488355328) (hbase:base≤wr.heap.size)
  (h:∀ v' w',w'.ownsRow base e size v' (n+1) (xs++news.toList)→aD (fun b=>v.ownBlock=some b) wr w'→KeepsOthers wr w'→wpListIn F m P ops Q rest (a.put o.dst v') w') :
  wpListIn F m P ops Q (o :: rest) a (wr.alloc (.cells news e)):=by
 refine wpListIn_append_own _ hgd s x t ho base e i z size bytes ht hi hz hsize hby hzs hsz v n xs hs (hown.alloc _) ⟨wr.heap.size,0,none⟩ 1 1 news.toList hx (by simp[hl]) ?_ h1 h63 hbytes (by simp;omega) ?_
 ·intro j u hj
  have hadd:(⟨wr.heap.size,0,none⟩:Addr).add j=⟨wr.heap.size,j,none⟩:=by unfold Addr.add;split <;> simp_all
  rw[hadd,cell_of_row _ wr.heap.size j news e (0,0) (heap_alloc_new wr _)];simpa using hj
 ·intro v' w' ho' hg _
  refine h v' w' ho' ⟨hg.os,hg.tape,hg.output,Nat.le_trans (by simp) hg.size,fun k hk hn=>?_⟩ ?_
  ·rw[hg.block k (by simp;omega) (fun e=>hn e.symm)]
   exact Below.heap_alloc _ _ _ hk
  ·refine (KeepsOthers.alloc wr _).trans (KeepsOthers.of_grownBy hg fun j o ej hj=>?_)
   rcases (hown.alloc (.cells news e)).2 with ⟨rfl,_⟩ | ⟨g,cap,cur,rfl,_,hgb,_⟩
   ·simp[Value.ownBlock]at ej
   ·obtain rfl:g=j:=by simpa [Value.ownBlock] using ej
    rw[hgb]at hj;cases hj;rfl
theorem uE {S:Nat→Prop} {W W':World} {B:Nat} {t:TypeId} {v:Value} (h:Boxed W B t v) (hk:aD S W W') (hn:¬ S B):Boxed W' B t v:=(hk.block B h.lt hn).trans h
theorem zsk {β:Type} (R:Nat) (B:Nat) (t:TypeId) (f:β→List Bs):Go.Own (fun s W=>∃ v,Boxed W B t v∧cT R W v (f s)):=by
 have:=holdsRow_own (β:=β) R B t 9 1 (fun s=>(f s).length) (fun s=>(f s).map vS) (fun _ _=>True)
 intro s W W' row hs hg hr;obtain ⟨v,hv,hrow⟩:=hs;obtain ⟨v',hv',hrow',_⟩:=this s W W' row ⟨v,hv,hrow,trivial⟩ hg hr;exact ⟨v',hv',hrow'⟩
theorem zv9 (ps:List Bs) (x:Bs) (h:ps≠[]):bR (ps ++ [x])=bR ps ++ [cA ps]:=by
 have hp:=List.length_pos_iff.2 h;obtain ⟨k,hk⟩:∃ k,ps.length=k+1:=⟨ps.length - 1,by omega⟩
 unfold bR;have e1:(ps ++ [x]).length - 1=k+1:=by simp;omega
 have e2:ps.length - 1=k:=by omega
 rw[e1,e2,List.range_succ,List.map_append]
 congr 1
 ·apply List.map_congr_left
  intro j hj;have:j<k:=by simpa using hj
  rw[List.take_append_of_le_length (by omega)]
 ·simp[List.take_append_of_le_length (show k+1≤ps.length by omega),List.take_of_length_le (show ps.length≤k+1 by omega)]
theorem zch (ps:List Bs) (x:Bs):str (cA ps)++((⟨#[47]⟩:ByteArray)++str x)=str (cA (ps ++ [x])):=by
 have e:(⟨#[47]⟩:ByteArray)=str [47]:=rfl;rw[e,qY,qY,lE];simp[cA]
theorem zp7 (ps:List Pc):(cA (pcs ps)).length≤2097153 * ps.length:=by
 have:=uP (pcs ps) 2097152 (fun n hn=>by obtain ⟨x,_,rfl⟩:=List.mem_map.1 hn;exact x.2)
 rwa [qV]at this
theorem nZ (s:ByteArray) (w:World) (hs:s.size≤2097152) :
  Calls Tryz.prog 222 #[.string s] w fun e w'=>∃ a c,e=.returned (.agg #[.int .i64 (aF s.data.toList),.slice a (bG s.data.toList).length c])∧cT w.heap.size w' (.slice a (bG s.data.toList).length c) (bG s.data.toList)∧Below w.heap.size w w':=by
 obtain ⟨i1,ki,kz0,kz1,kz2⟩:=info_parts sF;refine (callsIn_wide (n:=4)).1 ?_;refine callsIn_of_wp_marks Tryz.func222 rfl trivial ?_ rfl;simp only[Tryz.ntmps222,List.size_toArray,List.length_cons,List.length_nil,Nat.reduceAdd,Nat.reduceSub,Array.replicate_succ,Array.replicate_zero,List.push_toArray,List.append_toArray,List.nil_append,List.cons_append];gi_wp2_with fail
 refine ⟨trivial,?_⟩;refine (callsIn_wide.2 (fS s _ hs)).mono ?_;rintro e w1 ⟨rfl,hb1⟩;have X0:=aA ((Box.new w (.int .i64 0) (.slice none 0 0) 164).below hb1);have n1:w.heap.size<w1.heap.size:=by have:=hb1.size;simp at this;omega
 have HB:=aA (aB (aC w _) hb1);clear hb1;by_cases hf:aF s.data.toList=0
 ·have h1:=nW hf
  have HA:=aA (fG hf);have HF:=aA hf;have h1':(1:Int)≤(s.size:Int):=by omega
  have HT:=aA (qF s);have hel:=nV s 1 s.size;rw[hf];clear hf;gi_wp2_with fail
  refine ⟨trivial,?_⟩;refine (callsIn_wide.2 (tI _ _)).mono ?_;rintro e w2 ⟨rfl,rfl⟩;gi_wp2_with fail
  have HXE:=aA (show s.extract 1 s.size=str s.data.toList.tail by rw[←HT.out,zj9])
  have hrl:s.data.toList.tail.length≤2097152:=by rw[List.length_tail,←Lib.size_eq];omega
  have hcl:=lD s.data.toList.tail;have bA:=Boxed.new w1 100 (.slice none 0 0);have bP:=Boxed.new (w1.alloc (.cells #[.slice none 0 0] 100)) 9 (.string ⟨#[]⟩);have bT:=Boxed.new ((w1.alloc (.cells #[.slice none 0 0] 100)).alloc (.cells #[.string ⟨#[]⟩] 9)) 9 (.string (s.extract 1 s.size));simp only[World.size_alloc]at bP bT;have hB0:Below w.heap.size w (((w1.alloc (.cells #[.slice none 0 0] 100)).alloc (.cells #[.string ⟨#[]⟩] 9)).alloc (.cells #[.string (s.extract 1 s.size)] 9)):=((HB.out.alloc (by omega) _).alloc (by simp;omega) _).alloc (by simp;omega) _
  have hX0:=((X0.out.below (aC w1 (.cells #[.slice none 0 0] 100))).below (aC _ (.cells #[.string ⟨#[]⟩] 9))).below (aC _ (.cells #[.string (s.extract 1 s.size)] 9));refine wpIn_rangeFunc_ownF rfl (by decide) (gf:=228) (lb:=#[.pointer (some ⟨w1.heap.size+1+1,0,none⟩)]) rfl trivial (enters_of Tryz.func228 (by kernel_rfl) rfl)
   (rQ _ (w1.heap.size+1+1) w.heap.size s.data.toList.tail hrl _ (by simp) (by rw[←HXE.out];exact bT.cell)) belowK_t (belowK_b (by simp;omega)) (Below.refl _ _) (fun _=>rfl)
   (fun (pre:List Pc) W=>((∃ v,Boxed W w1.heap.size 100 v∧cT (w1.heap.size+3) W v (bR (pcs pre)))∧Boxed W (w1.heap.size+1) 9 (.string (str (cA (pcs pre))))∧Box W w.heap.size (.int .i64 0) (.slice none 0 0)∧w1.heap.size+3≤W.heap.size)∧Below w.heap.size w W)
   (fun c (pre:List Pc) W=>False)
   (OwnFrom.and (OwnFrom.and (Own.from (zsk _ _ _ (fun pre=>bR (pcs pre))) _) (OwnFrom.and (Own.from (boxed_own _ _ (fun pre=>.string (str (cA (pcs pre))))) _) (OwnFrom.and (Own.from (zw2 _ _ _) _) (fun _ _ _ _ hs hg _=>Nat.le_trans hs hg.size)))) (ownFrom_below (Nat.le_refl _) (by simp;omega)))
   (fun c=>ownFrom_pure _ _)
   ⟨⟨⟨_,(bA.alloc _).alloc _,cT.nil _ _⟩,bP.alloc _,hX0,by simp⟩,hB0⟩
   (fun x=>{ tmps:=#[.string s,undef,.pointer (some ⟨w.heap.size,0,none⟩),.int .i64 0,.pointer (some ⟨w1.heap.size,0,none⟩),.pointer (some ⟨w1.heap.size+1,0,none⟩),.string (str x.1),.string s,.int .i64 0,.int .i64 0,.bool false,undef,undef,.string s,.string (s.extract 1 s.size),.func (.func 228) #[] #[.pointer (some ⟨w1.heap.size+1+1,0,none⟩)],.string (str x.1),undef,undef,undef,undef,undef,undef,undef,undef,undef,undef,undef,undef],defers:=[] }) ?assign ?body ?done ?stop
  case assign =>
   intro l x W K hK;gi_wp2_with fail
   exact hK
  case body =>
   rintro l pre ⟨x,hx⟩ W ⟨⟨⟨v,hv,hO⟩,hP,hX,hsz⟩,hB⟩ hlt;obtain ⟨va,vc,rfl⟩:=hO.shape;have hjl:=zp7 pre;have hpl:pre.length≤2097152:=by omega
   have HJS:=aA (zch (pcs pre) x);generalize hj:cA (pcs pre)=j at *;have HJ:=aA hj;clear hj;have hz1:¬ 9223372036854775807<1+(str x).size:=by rw[aK];omega
   have hz2:¬ 9223372036854775807<(str j).size+(1+(str x).size):=by rw[aK,aK];omega
   have hv0:=hv.cell;have hv1:=hv.frozen;have hP0:=hP.cell;have hP1:=hP.frozen;have HX:=aA hX;have HB':=aA hB;have HO:=aA hO;have HV:=aA hv;have HP:=aA hP;clear hX hB hO hv hP;by_cases h0:pre=[]
   ·subst h0
    have he:(str j).toList.isEmpty=true:=by rw[←HJ.out,ByteArray.toList_eq,aT];rfl
    gi_wp2_with fail
    have KS:=aA (aD.setCell (S:=fun b=>b=w1.heap.size+1) (p:=⟨w1.heap.size+1,0,none⟩) (aD.refl _ W) (fun _=>rfl) (.string (str j++((⟨#[47]⟩:ByteArray)++str x))))
    exact ⟨KeepsOthers.setCell _ _ _,(Below.refl w.heap.size W).setCell (p:=⟨w1.heap.size+1,0,none⟩) (by simp;omega) _,⟨⟨_,HV.out.other (by omega) _,HO.out.kept KS.out (fun b hb e=>by have:=(HO.out.lt b hb).1;omega)⟩,by rw[iE,←HJS.out];exact HP.out.set _,HX.out.kept KS.out (by omega),by have:=KS.out.size;omega⟩,HB'.out.setCell (p:=⟨w1.heap.size+1,0,none⟩) (by simp;omega) _⟩
   ·have he:(str j).toList.isEmpty=false:=by
     rw[←HJ.out,ByteArray.toList_eq,aT];cases pre with
     | nil=>exact absurd rfl h0
     | cons p pre=>rfl
    have HAS:=aA (show bR (pcs (pre ++ [⟨x,hx⟩]))=bR (pcs pre) ++ [j] by rw[iE,zv9 _ _ (by intro e;apply h0;exact List.map_eq_nil_iff.1 e),HJ.out])
    have hal:(bR (pcs pre)).length≤2097152:=by rw[iX,qV];omega
    generalize bR (pcs pre)=ab at *;have hm1:ab.length+1≤maxLen:=by unfold maxLen;omega
    have hm2:(ab.length+1) * 16≤140737488355328:=by omega
    gi_wp2_with (gi_at_builtin;refine vW rfl (.tmp 19) (.tmp 21) 100 rfl (w1.heap.size+3) 9 i1 (.string ⟨#[]⟩) 1 16 Tryz.underlying100 ki kz0 kz1 kz2 rfl (by decide) _ _ _ rfl HO.out rfl rfl (by intro u hu;simp at hu;subst hu;rfl) hm1 hm2 hsz ?_;intro v' w2 hown2 hkept hko;obtain ⟨g',cap',rfl⟩:=ownsRow_succ hown2;have O2:=aA (cT.snoc hown2 rfl);have K2:=aA hkept;have KO:=aA hko;clear hown2 hkept hko;have HV2:=aA (uE HV.out K2.out (fun hS=>by have:=(HO.out.lt _ hS).1;omega));have HP2:=aA (uE HP.out K2.out (fun hS=>by have:=(HO.out.lt _ hS).1;omega));have hv2:=HV2.out.cell;have hv3:=HV2.out.frozen;have HP3:=aA (HP2.out.other (B':=w1.heap.size) (by omega) (.slice (some ⟨g',0,none⟩) (ab.length+1) cap'));have hP2:=HP3.out.cell;have hP3:=HP3.out.frozen)
    have KS:=aA (aD.setCell (S:=fun b=>b=w1.heap.size∨b=w1.heap.size+1) (p:=⟨w1.heap.size+1,0,none⟩) (aD.setCell (S:=fun b=>b=w1.heap.size∨b=w1.heap.size+1) (p:=⟨w1.heap.size,0,none⟩) (aD.refl _ w2) (fun _=>.inl rfl) (.slice (some ⟨g',0,none⟩) (ab.length+1) cap')) (fun _=>.inr rfl) (.string (str j++((⟨#[47]⟩:ByteArray)++str x))))
    have hBK:=K2.out.below (B:=w.heap.size) (by have:=HB'.out.size;omega) (fun k hk hS=>by have:=(HO.out.lt _ hS).1;omega)
    have hBS:=KS.out.below (B:=w.heap.size) (by have:=K2.out.size;omega) (fun k hk hS=>by omega)
    exact ⟨KO.out.trans ((KeepsOthers.setCell _ _ _).trans (KeepsOthers.setCell _ _ _)),hBK.trans hBS,⟨⟨_,(HV2.out.set _).other (by omega) _,by rw[HAS.out];exact O2.out.kept KS.out (fun b hb e=>by have:=(O2.out.lt b hb).1;omega)⟩,by rw[iE,←HJS.out];exact HP3.out.set _,(HX.out.kept K2.out (fun hS=>by have:=(HO.out.lt _ hS).1;omega)).kept KS.out (by omega),by have:=K2.out.size;have:=KS.out.size;omega⟩,(HB'.out.trans hBK).trans hBS⟩
  case done =>
   rintro D ys W hD hys ⟨⟨⟨v,hv,hO⟩,hP,hX,hsz⟩,hB⟩ hK;rw[hys,←HA.out]at hO;obtain ⟨va,vc,rfl⟩:=hO.shape;have hv0:=hv.cell;have HX:=aA hX;have HB':=aA hB;have HK:=aA hK;have HO:=aA hO;clear hX hB hK hO hys hv hP;obtain ⟨⟨q0,q1⟩,q2,q3⟩:=HX.out;gi_wp2_with fail
   obtain ⟨k1,k2,k3⟩:=zc3 HX.out.1 HK.out (.int .i64 0) (.slice va (bG s.data.toList).length vc);refine ⟨by simp,.inl ⟨_,_,rfl,run_takeDeferred k1,?_⟩⟩
   refine ⟨.agg #[.int .i64 0,.slice va (bG s.data.toList).length vc],by simp[results,Tryz.results222,go_sem,k2,k3],va,vc,by rw[HF.out],?_,?_⟩
   ·exact ownsRow_putObj ((HO.out.kept (aD.two W w.heap.size 0 1 _ _) (fun b hb e=>by have:=(HO.out.lt b hb).1;omega)).mono (by omega)) _ k1 rfl
   ·exact ((HB'.out.setCell (p:=⟨w.heap.size,0,none⟩) (Nat.le_refl _) _).setCell (p:=⟨w.heap.size,1,none⟩) (Nat.le_refl _) _).trans (belowK_b (w:=w) (Nat.le_refl _) _ D _ _ (by simp at hD;omega) k1 rfl rfl)
  case stop =>
   rintro D c pre W hD hpre hc hK;exact hc.elim
 ·have HA:=aA (sA hf)
  obtain ⟨⟨q0,q1⟩,q2,q3⟩:=X0.out;obtain ⟨c,hc⟩:∃ c,c=aF s.data.toList:=⟨_,rfl⟩;rw[←hc]at hf ⊢;have HC:=aA hc;clear hc;have hf2:(c != 0)=true:=by simpa using hf
  gi_wp2_with fail
  have h2:=X0.out.1.set (.int .i64 c) (.slice none 0 0);refine ⟨.agg #[.int .i64 c,.slice none 0 0],by simp[results,Tryz.results222,go_sem,h2.1,h2.2],?_⟩
  rw[HA.out,←HC.out];exact ⟨_,_,rfl,cT.nil _ _,(HB.out.setCell (p:=⟨w.heap.size,0,none⟩) (Nat.le_refl _) _).setCell (p:=⟨w.heap.size,1,none⟩) (Nat.le_refl _) _⟩
theorem gB (s:ByteArray) (w:World) (hs:s.size≤2097152) :
  Calls Tryz.prog 177 #[.string s] w fun e w'=>e=.returned (.agg #[.int .i64 (nE s.data.toList),.string (str (kZ s.data.toList))])∧Below w.heap.size w w':=by
 have hlen:=pP s.data.toList;go_enter Tryz.func177,Tryz.ntmps177;go_wp2_with fail
 refine (nZ s _ hs).mono ?_;rintro e w1 ⟨va,vc,rfl,hO,hb1⟩;have X0:=aA ((Box.new w (.int .i64 0) (.string ⟨#[]⟩) 188).below hb1);have n1:w.heap.size<w1.heap.size:=by have:=hb1.size;simp at this;omega
 have HB:=aA (aB (aC w _) hb1);have HO:=aA hO;clear hb1 hO;by_cases hf:aF s.data.toList=0
 ·have HF:=aA hf
  have HA:=aA (fG hf);rw[hf];clear hf;by_cases h0:bG s.data.toList=[]
  ·have HE:=aA (zn8 HF.out (by rw[←HA.out];exact h0))
   rw[h0];obtain ⟨⟨q0,q1⟩,q2,q3⟩:=X0.out;clear h0 hlen;go_wp2_with fail
   rw[HE.out.1,HE.out.2];have h2:=(X0.out.1.set (.int .i64 4) (.string ⟨#[]⟩)).below (aC _ (.cells #[.int .i64 0,.slice va 0 vc] 164));exact bodyPost_ret (v:=.agg #[.int .i64 4,.string ⟨#[]⟩]) (by simp[results,Tryz.results177,go_sem,h2.1,h2.2]) rfl ⟨rfl,((HB.out.setCell (p:=⟨w.heap.size,0,none⟩) (Nat.le_refl _) _).setCell (p:=⟨w.heap.size,1,none⟩) (Nat.le_refl _) _).alloc (by simp[World.setCell];omega) _⟩
  ·have HE:=aA (zm8 HF.out (by rw[←HA.out];exact h0))
   have hp:=List.length_pos_iff.2 h0;obtain ⟨b,off,p,rfl,hb,hpe,hck⟩:=HO.out.reads.at (k:=(bG s.data.toList).length - 1) (by omega)
   have HP:=aA (show (bR (aX s.data.toList.tail)).getLastD []=p by rw[←HA.out];exact (Option.some.inj (hpe.symm.trans (qO h0))).symm)
   clear hpe;generalize (bG s.data.toList).length=n at *;have hz:((n:Int)==0)=false:=by simp;omega
   have hp':(1:Int)≤(n:Int):=by omega
   have hp2:(n:Int)≤2:=by omega
   obtain ⟨⟨q0,q1⟩,q2,q3⟩:=X0.out;go_wp2_with fail
   rw[HE.out.1,HE.out.2,HP.out];have h2:=(X0.out.1.set (.int .i64 0) (.string (str p))).below (aC _ (.cells #[.int .i64 0,.slice (some ⟨b,off,none⟩) n vc] 164));exact bodyPost_ret (v:=.agg #[.int .i64 0,.string (str p)]) (by simp[results,Tryz.results177,go_sem,h2.1,h2.2]) rfl ⟨rfl,((HB.out.setCell (p:=⟨w.heap.size,0,none⟩) (Nat.le_refl _) _).setCell (p:=⟨w.heap.size,1,none⟩) (Nat.le_refl _) _).alloc (by simp[World.setCell];omega) _⟩
 ·have HE:=aA (zwm hf)
  obtain ⟨⟨q0,q1⟩,q2,q3⟩:=X0.out;obtain ⟨c,hc⟩:∃ c,c=aF s.data.toList:=⟨_,rfl⟩;rw[←hc]at hf ⊢;have HC:=aA hc;clear hc;have hf2:(c != 0)=true:=by simpa using hf
  go_wp2_with fail
  rw[HE.out.1,HE.out.2,←HC.out];have h2:=(X0.out.1.set (.int .i64 c) (.string ⟨#[]⟩)).below (aC _ (.cells #[.int .i64 c,.slice va (bG s.data.toList).length vc] 164));exact bodyPost_ret (v:=.agg #[.int .i64 c,.string ⟨#[]⟩]) (by simp[results,Tryz.results177,go_sem,h2.1,h2.2]) rfl ⟨rfl,((HB.out.setCell (p:=⟨w.heap.size,0,none⟩) (Nat.le_refl _) _).setCell (p:=⟨w.heap.size,1,none⟩) (Nat.le_refl _) _).alloc (by simp[World.setCell];omega) _⟩
theorem sE (s t:ByteArray) (w:World) (hs:s.size≤2097152) :
  Calls Tryz.prog 201 #[.string s,.string t] w fun e w'=>e=.returned (.bool (fD s.data.toList t.data.toList))∧Below w.heap.size w w':=by
 have hlen:=pP s.data.toList;go_enter Tryz.func201,Tryz.ntmps201;go_wp2_with fail
 refine (nZ s _ hs).mono ?_;rintro e w1 ⟨va,vc,rfl,hO,hb1⟩;have HB:=aA hb1;have HO:=aA hO;clear hb1 hO;have hfield:∀ (c v:Value) (w:World),(Instr.field 164 (.agg #[c,v]) 1).run Tryz.prog w=.ok v w:=fun c v w=>by kernel_rfl
 go_wp2_with fail
 refine (znm va vc (bG s.data.toList) t _ HO.out.reads (by omega) _ rfl).mono ?_
 rintro e w2 ⟨rfl,rfl⟩;go_wp2_with fail
 go_ret
 exact ⟨rfl,HB.out⟩
end Go.Proofs.YtolnlfnndnpiiaaGreat
namespace Go.Proofs.YtolnlfnndnpiiaaGreat
open Go.RowKit
theorem zna (es:List En) (q:Bs) (k:Nat) {e:En} (h:es[k]?=some e):dL (es.drop k) q=((decide (e.path=q)&&bZ e.kind)||dL (es.drop (k+1)) q):=by
 rw[eG h];simp[dL]
theorem oI (a:Option Addr) (c n:Nat) (es:List En) (p:Bs) (w:World) (h:RdE w a es) (hn:n=es.length) (hl:es.length≤1048576) (hf:aF p=0) (hp:p.length≤1048576) :
  Calls Tryz.prog 125 #[.slice a n c,.string (str p)] w fun r w'=>r=.returned (.int .i64 (if cR es p then 0 else 9))∧Below w.heap.size w w':=by
 subst hn;have HR:=aA h;clear h;obtain ⟨F,hF⟩:∃ F:Int,F=if cR es p then 0 else 9:=⟨_,rfl⟩
 rw[←hF];by_cases h0:aE p=[]
 ·have HE:=aA (show F=0 from by rw[hF];simp[cR,h0])
  have HP:=aA (zn8 hf (kC.1 h0));clear h0 hf hF;go_enter Tryz.func125,Tryz.ntmps125;go_wp2_with fail
  refine (gB _ _ (by rw[aK];omega)).mono ?_
  rintro r w1 ⟨rfl,hb1⟩;rw[aT,HP.out.1,HP.out.2];have HB1:=aA (aB hb1 (aC w1 (.cells #[.int .i64 4,.string (str [])] 188)));clear hb1;go_wp2_with fail
  go_ret
  exact ⟨aO HE.out.symm,HB1.out⟩
 ·have HE:=aA (show F=if dL es (aE p) then 0 else 9 from by rw[hF];simp[cR,h0])
  have HP:=aA (zm8 hf (fun e=>h0 (kC.2 e)))
  have HQ:Hid (kZ p=aE p):=aA HP.out.2;clear h0 hf hF;go_enter Tryz.func125,Tryz.ntmps125;go_wp2_with fail
  refine (gB _ _ (by rw[aK];omega)).mono ?_
  rintro r w1 ⟨rfl,hb1⟩;rw[aT,HP.out.1,HQ.out];generalize aE p=q at *;have X1:=aA (Box.new w1 (.int .i64 0) (.string (str q)) 188);have HB1:=aA (aB hb1 (aC w1 (.cells #[.int .i64 0,.string (str q)] 188)));clear hb1 HP HQ;go_wp2_with fail
  generalize w1.alloc (.cells #[.int .i64 0,.string (str q)] 188)=W1 at *;generalize w1.heap.size=b1 at *;go_loopw [15] (fun i wr=>∃ k:Nat,k≤es.length∧i=.int .i64 k∧Hid (dL es q=dL (es.drop k) q)∧Hid (Below W1.heap.size W1 wr)) (fun i _=>es.length - (intOf i).toNat)
  case atStart=>exact ⟨0,Nat.zero_le _,rfl,aA (by simp),aA (Below.refl _ _)⟩
  case round =>
   obtain ⟨k,hk,rfl,HF,HW⟩:=hrel;have HR1:=aA (HR.out.below (aB HB1.out HW.out));obtain ⟨⟨t0,t1⟩,t2,t3⟩:=X1.out.below HW.out;by_cases hlt:k<es.length
   ·obtain ⟨b,off,e,x,cc,rfl,hb,he,c0,c1,c2,c3,hr⟩:=HR1.out.at hlt
    have HX:=aA he;clear he hr;have HF2:=aA (HF.out.trans (zna es q k HX.out));have hb1w:b1<wr.heap.size:=World.block_lt_of_cell? _ _ t0;by_cases hq:e.path=q
    ·have hs1:=gS hq
     cases hd:bZ e.kind
     ·have HO:=aA (show dL es q=dL (es.drop (k+1)) q from by rw[HF2.out];simp[hd])
      have HD:=aA hd;clear hd hq;go_wp2_with fail
      refine (fY _ _ _ _ _ _ _).mono ?_;rintro r w3 ⟨rfl,hb3⟩;go_wp2_with fail
      refine (lV _ _ _ _ _ _ _).mono ?_;rintro r w4 ⟨rfl,hb4⟩;rw[HD.out];have HW4:=aA (aB HW.out (aB (aC wr _) (aB hb3 hb4)));clear hb3 hb4;go_wp2_with fail
      go_roundw
      case rel=>exact ⟨k+1,by omega,by go_num,HO,HW4⟩
      case measure=>simp[intOf];omega
     ·have HO:=aA (show dL es q=true from by rw[HF2.out];simp[hd,hq])
      have HD:=aA hd;clear hd hq;go_wp2_with fail
      refine (fY _ _ _ _ _ _ _).mono ?_;rintro r w3 ⟨rfl,hb3⟩;go_wp2_with fail
      refine (lV _ _ _ _ _ _ _).mono ?_;rintro r w4 ⟨rfl,hb4⟩;rw[HD.out];have HW4:=aA (aB HW.out (aB (aC wr _) (aB hb3 hb4)));clear hb3 hb4;go_wp2_with fail
      go_ret
      exact ⟨aO (by rw[HE.out,HO.out];rfl),aB HB1.out HW4.out⟩
    ·have hs1:=jA hq
     have HO:=aA (show dL es q=dL (es.drop (k+1)) q from by rw[HF2.out];simp[hq])
     clear hq;go_wp2_with fail
     go_roundw
     case rel=>exact ⟨k+1,by omega,by go_num,HO,aA (aB HW.out (aC wr _))⟩
     case measure=>simp[intOf];omega
   ·have HO:=aA (show dL es q=false from by rw[HF.out,List.drop_eq_nil_of_le (by omega)];rfl)
    go_wp2_with fail
    go_ret
    exact ⟨aO (by rw[HE.out,HO.out];rfl),aB HB1.out HW.out⟩
theorem rJ (a:Option Addr) (c n:Nat) (es:List En) (w:World) (h:RdE w a es) (hn:n=es.length) (hl:es.length≤1048576) (hs:aV es) :
  Calls Tryz.prog 78 #[.slice a n c] w fun r w'=>r=.returned (.int .i64 (cP (cR es) none es))∧Below w.heap.size w w':=by
 subst hn;obtain ⟨F,hF⟩:∃ F:Int,F=cP (cR es) (cH es 0) (es.drop 0):=⟨_,rfl⟩;have e0:cP (cR es) none es=F:=by rw[hF];simp[cH]
 rw[e0];have HE:=aA hF;have HR:=aA h;have HS:=aA hs;clear h hs e0 hF;go_enter Tryz.func78,Tryz.ntmps78;go_wp2_with fail
 go_loopw [9] (fun i wr=>∃ k:Nat,k≤es.length∧i=.int .i64 k∧Hid (F=cP (cR es) (cH es k) (es.drop k))∧Hid (Below w.heap.size w wr)) (fun i _=>es.length - (intOf i).toNat)
 case atStart=>exact ⟨0,Nat.zero_le _,rfl,HE,aA (Below.refl _ _)⟩
 case round =>
  obtain ⟨k,hk,rfl,HF,HW⟩:=hrel;have HR1:=aA (HR.out.below HW.out);by_cases hlt:k<es.length
  ·obtain ⟨b,off,e,x,cc,rfl,hb,he,c0,c1,c2,c3,hr⟩:=HR1.out.at hlt
   have HX:=aA he;have HRc:=aA (hr.below (aC wr (.cells #[.string (str e.path),.int .i64 e.kind,.int .i64 e.size,.slice x e.chunks.length cc] 50)));have hsm:=HS.out e (List.mem_of_getElem? he);have HN:=aA (aB HW.out (aC wr (.cells #[.string (str e.path),.int .i64 e.kind,.int .i64 e.size,.slice x e.chunks.length cc] 50)));have F4:=aA (cI.new wr (.string (str e.path)) (.int .i64 e.kind) (.int .i64 e.size) (.slice x e.chunks.length cc) 50);clear he hr;go_wp2_with fail
   clear c0 c1 c2 c3;generalize wr.alloc (.cells #[.string (str e.path),.int .i64 e.kind,.int .i64 e.size,.slice x e.chunks.length cc] 50)=W1 at *;generalize wr.heap.size=b1 at *;refine (pY e _ _ _ _ HRc.out rfl hsm.1 hsm.2).mono ?_;rintro r w1 ⟨rfl,hb1⟩;obtain ⟨f0,f1,f2,f3⟩:=F4.out.below hb1;have HW1:=aA (aB HN.out hb1);have HR2:=aA (HR.out.below HW1.out);clear hb1 HRc F4 HN HR1 HW;by_cases hz:aH e=0
   ·have hpz:=bM hz
    have HPZ:=aA hpz;have HZ:=aA hz;rw[hz];clear hz hpz;cases k with
    | zero =>
     have HL:=aA (show iP (cH es 0) e=false from rfl)
     go_wp2_with fail
     go_quiet (fail)
     go_wp2_with fail
     have HW2:=aA (below_drewN HW1.out nq);have HR3:=aA (HR2.out.below (below_drewN (Below.refl w1.heap.size w1) nq));clear HW1 HR2;generalize w1.drewN nq=W at *;refine (oI _ c es.length es e.path W HR3.out rfl hl HPZ.out hsm.1).mono ?_;rintro r w4 ⟨rfl,hb4⟩;have HW3:=aA (aB HW2.out hb4);clear hb4;cases hh:cR es e.path
     ·have HO:=aA (zk4 HF.out HX.out HZ.out HL.out hh)
      clear hh;go_wp2_with fail
      go_ret
      exact ⟨aO HO.out.symm,HW3.out⟩
     ·have HO:=aA (zl4 HF.out HX.out HZ.out HL.out hh)
      clear hh;go_wp2_with fail
      go_roundw
      case rel=>exact ⟨1,by omega,by go_num,HO,HW3⟩
      case measure=>simp[intOf];omega
    | succ j =>
     have hg:(0:Int)<((j+1:Nat):Int):=by omega
     obtain ⟨b2,off2,e2,x2,cc2,hbb,hb2,he2,d0,d1,d2,d3,hr2⟩:=HR2.out.at (show j<es.length by omega)
     simp only[Option.some.injEq,Addr.mk.injEq,and_true]at hbb;obtain ⟨rfl,rfl⟩:=hbb;have HL:=aA (show iP (cH es (j+1)) e=(Op.bytesLess e.path e2.path||(e.path==e2.path)) from by simp[cH,iP,he2])
     clear he2 d1 d2 d3 hr2;cases hlow:(Op.bytesLess (str e.path).toList (str e2.path).toList||((str e.path).toList==(str e2.path).toList))
     ·have HL2:=aA (show iP (cH es (j+1)) e=false from by rw[HL.out];rw[aN,aN]at hlow;exact hlow)
      go_wp2_with fail
      go_quiet (fail)
      go_wp2_with fail
      have HW2:=aA (below_drewN HW1.out nq);have HR3:=aA (HR2.out.below (below_drewN (Below.refl w1.heap.size w1) nq));clear HW1 HR2;generalize w1.drewN nq=W at *;refine (oI _ c es.length es e.path W HR3.out rfl hl HPZ.out hsm.1).mono ?_;rintro r w4 ⟨rfl,hb4⟩;have HW3:=aA (aB HW2.out hb4);clear hb4;cases hh:cR es e.path
      ·have HO:=aA (zk4 HF.out HX.out HZ.out HL2.out hh)
       clear hh;go_wp2_with fail
       go_ret
       exact ⟨aO HO.out.symm,HW3.out⟩
      ·have HO:=aA (zl4 HF.out HX.out HZ.out HL2.out hh)
       clear hh;go_wp2_with fail
       go_roundw
       case rel=>exact ⟨j+1+1,by omega,by go_num,HO,HW3⟩
       case measure=>simp[intOf];omega
     ·have HL2:=aA (show iP (cH es (j+1)) e=true from by rw[HL.out];rw[aN,aN]at hlow;exact hlow)
      have HO:=aA (zbk HF.out HX.out HZ.out HL2.out);go_wp2_with fail
      go_quiet (fail)
      go_wp2_with fail
      go_ret
      exact ⟨aO HO.out.symm,below_drewN HW1.out _⟩
   ·have HZ:=aA (zzj HF.out HX.out hz)
    have hz2:(aH e != 0)=true:=by simp;exact hz
    clear hz;go_wp2_with fail
    go_ret
    exact ⟨aO HZ.out.symm,HW1.out⟩
  ·have HZ:=aA (zak HF.out (by omega))
   go_wp2_with fail
   go_ret
   exact ⟨aO HZ.out.symm,HW.out⟩
theorem gD (a:Option Addr) (c n:Nat) (es:List En) (w:World) (h:RdE w a es) (hn:n=es.length) (hl:es.length≤1048576) (hs:aV es) :
  Calls Tryz.prog 38 #[.slice a n c] w fun r w'=>r=.returned (.int .i64 (aR es))∧Below w.heap.size w w':=by
 subst hn;by_cases hm:12<es.length
 ·have HE:=aA (tU hm)
  have hm2:(12:Int)<(es.length:Int):=by omega
  clear h hs;go_enter Tryz.func38,Tryz.ntmps38;go_wp2_with fail
  go_ret
  exact ⟨aO HE.out.symm,Below.refl _ _⟩
 ·have HE:Hid (aR es=cP (cR es) none es):=aA (by simp[aR,hm])
  have hm2:¬ (12:Int)<(es.length:Int):=by omega
  have HF:=aA (rJ a c es.length es w h rfl hl hs);clear h hs hm;generalize aR es=F at HE ⊢;go_enter Tryz.func38,Tryz.ntmps38;go_wp2_with fail
  refine HF.out.mono ?_;rintro r w1 ⟨rfl,hb⟩;have HB:=aA hb;clear hb;go_wp2_with fail
  go_ret
  exact ⟨aO HE.out.symm,HB.out⟩
def mZ (es:List En) (p:Bs):Int:=if aR es=0 then aF p else aR es
theorem zP (a:Option Addr) (c n:Nat) (es:List En) (p:Bs) (w:World) (h:RdE w a es) (hn:n=es.length) (hl:es.length≤1048576) (hs:aV es) (hp:p.length≤1048576) :
  Calls Tryz.prog 151 #[.slice a n c,.string (str p)] w fun r w'=>r=.returned (.int .i64 (mZ es p))∧Below w.heap.size w w':=by
 have HF:=aA (gD a c n es w h hn hl hs);clear hn hl;clear h hs;unfold mZ;generalize aR es=F at HF ⊢;by_cases hz:F=0
 ·rw[if_pos hz]
  subst hz;go_enter Tryz.func151,Tryz.ntmps151;go_wp2_with fail
  refine HF.out.mono ?_;rintro r w1 ⟨rfl,hb⟩;have HB:=aA hb;clear hb;go_wp2_with fail
  refine (fS _ _ (by rw[aK];omega)).mono ?_
  rintro r w2 ⟨rfl,hb2⟩;rw[aT];have HB2:=aA (aB HB.out hb2);clear hb2;go_wp2_with fail
  go_ret
  exact ⟨rfl,HB2.out⟩
 ·rw[if_neg hz]
  have hz2:(F != 0)=true:=by simp;exact hz
  clear hz;go_enter Tryz.func151,Tryz.ntmps151;go_wp2_with fail
  refine HF.out.mono ?_;rintro r w1 ⟨rfl,hb⟩;have HB:=aA hb;clear hb;go_wp2_with fail
  go_ret
  exact ⟨rfl,HB.out⟩
theorem Tryz.infoU8:(Tryz.prog.info? 5).map (fun i=>(i.zero,i.size,i.bytes))=some (some (.int .u8 0),1,1):=by kernel_rfl
theorem qW {w:World} {b off:Nat} {zs:List Int} {k:IntKind} (hc:∀ i,i<zs.length→w.cell? ⟨b,off+i,none⟩=some (.int k (zs.getD i 0))) :
  ∀ j u,(zs.map (Value.int k))[j]?=some u→w.cell? ((⟨b,off,none⟩:Addr).add j)=some u:=by
 intro j u hj;have hadd:(⟨b,off,none⟩:Addr).add j=⟨b,off+j,none⟩:=by unfold Addr.add;split <;> simp_all
 have hjl:j<zs.length:=by
  rcases Nat.lt_or_ge j zs.length with h | h
  ·exact h
  ·rw[List.getElem?_eq_none (by simpa using h)]at hj;simp at hj
 rw[hadd,hc j hjl];simp[hjl]at hj
 simp[List.getD_eq_getElem?_getD,hjl,hj]
theorem uN (k:IntKind) (zs:List Int):∀ u∈zs.map (Value.int k),u.oneCell'=true:=by
 intro u hu;obtain ⟨z,_,rfl⟩:=List.mem_map.1 hu;rfl
theorem zm3 {w:World} {base:Nat} {e:TypeId} {k:IntKind} {v:Value} {n:Nat} {zs:List Int} (h:w.ownsRow base e 1 v n (zs.map (Value.int k))) (hn:n=zs.length) (hz:0<n) :
  ∃ g cap,v=.slice (some ⟨g,0,none⟩) n cap∧base≤g∧g<w.heap.size∧Own k w (some ⟨g,0,none⟩) zs:=by
 obtain ⟨g,cap,hv,hg,hgl,hc,hf⟩:=rP h hn hz;exact ⟨g,cap,hv,hg,hgl,fun _=>⟨g,0,rfl,hgl,fun i hi=>⟨by rw[Nat.zero_add];exact hc i (by omega),hf _⟩⟩⟩
theorem lI {P:Program} {wr:World} {ops:Array Oper} {rest:List Oper} {o:Oper} {a:Act} {Q:Exit→Act→World→Prop} (hgd:o.guard=none) (s x:Operand) (t:TypeId)
  (ho:o.op=.call { callee:=.builtin .append,args:=#[s,x],argTypes:=#[t,t] })
  (e:TypeId) (i:TypeInfo) (k:IntKind) (bytes:Nat) (ht:P.underlying t=some (.slice e)) (hi:P.info? e=some i) (hz:i.zero=some (.int k 0))
  (hsize:i.size=1) (hby:i.bytes=bytes) (hs:a.eval s=.slice (some ⟨wr.heap.size,0,none⟩) 0 0)
  (b off n cap:Nat) (zs:List Int) (hx:a.eval x=.slice (some ⟨b,off,none⟩) n cap) (hn:n=zs.length) (hb:b<wr.heap.size) (hc:∀ i,i<zs.length→wr.cell? ⟨b,off+i,none⟩=some (.int k (zs.getD i 0)))
  (h0:0<zs.length) (h63:zs.length≤maxLen) (hbytes:zs.length * bytes≤140737488355328)
  (h:∀ g c w',w'.ownsRow wr.heap.size e 1 (.slice (some ⟨g,0,none⟩) n c) n (zs.map (Value.int k))→wr.heap.size≤g→g<w'.heap.size→Below wr.heap.size wr w'→wpList P ops Q rest (a.put o.dst (.slice (some ⟨g,0,none⟩) n c)) w') :
  wpList P ops Q (o :: rest) a (wr.alloc (.cells #[] e)):=by
 have hown:(wr.alloc (.cells #[] e)).ownsRow wr.heap.size e 1 (.slice (some ⟨wr.heap.size,0,none⟩) 0 0) 0 []:=World.ownsRow_made wr #[] 0 (Nat.le_refl _) (Nat.zero_le _) rfl;have hn2:∀ j u,(zs.map (Value.int k))[j]?=some u→(wr.alloc (.cells #[] e)).cell? ((⟨b,off,none⟩:Addr).add j)=some u:=fun j u hj=>(World.grownBy_alloc wr (.cells #[] e) none).cell (qW hc j u hj) (by simp)
 refine wpList_append_own _ hgd s x t ho wr.heap.size e i (.int k 0) 1 bytes ht hi hz hsize hby rfl (by decide) _ _ _ hs hown ⟨b,off,none⟩ n cap (zs.map (Value.int k)) hx (by simp[hn]) hn2 (uN _ _) (by omega) (by rw[Nat.zero_add,hn];exact hbytes) (by simp) ?_
 intro v' w' hown' hgrow _;rw[Nat.zero_add,List.nil_append]at hown';obtain ⟨g,c,rfl,hg,hgl,_⟩:=zm3 hown' hn (by omega)
 refine h g c w' hown' hg hgl ?_;exact ((Below.refl _ _).alloc (Nat.le_refl _) _).grown hgrow (by simp) (fun k hk=>by simp[Value.ownBlock]at hk;omega)
theorem zx3 (b off cap:Nat) (zs:List Int) (w:World) (hc:∀ i,i<zs.length→w.cell? ⟨b,off+i,none⟩=some (.int .u8 (zs.getD i 0))) (hb:b<w.heap.size) (h0:0<zs.length) (hl:zs.length≤1048576) (n:Nat) (hn:n=zs.length) :
  Calls Tryz.prog 230 #[.slice (some ⟨b,off,none⟩) n cap] w fun e w'=>∃ g c,e=.returned (.slice (some ⟨g,0,none⟩) n c)∧w'.ownsRow w.heap.size 5 1 (.slice (some ⟨g,0,none⟩) n c) n (zs.map (Value.int .u8))∧w.heap.size≤g∧g<w'.heap.size∧Below w.heap.size w w':=by
 obtain ⟨i0,hi,hz0,hz1,hz2⟩:=info_parts Tryz.infoU8;have heq:=fun w=>Lib.run_eql_slice_nil (P:=Tryz.prog) w 22 5 (some ⟨b,off,none⟩) n cap 0 0 Tryz.underlying22
 have HC:=aA hc;have HN:=aA hn;clear hc hn;go_enter Tryz.func230,Tryz.ntmps230;go_wp2_with (at_builtin;refine lI rfl (.tmp 5) (.tmp 6) 22 rfl 5 i0 .u8 1 Tryz.underlying22 hi hz0 hz1 hz2 rfl b off n cap zs rfl HN.out hb HC.out h0 (by unfold maxLen;omega) (by omega) ?_)
 intro g c w' hown hg hgl hbel;have HO:=aA hown;have HB:=aA hbel;clear hown hbel;go_wp2
 go_ret
 exact ⟨g,c,rfl,HO.out,hg,hgl,HB.out⟩
def dQ (zs:List Int) (i:Nat):List Int:=(zs.drop (8 * i)).take 8
def cut (zs:List Int):List (List Int):=(List.range ((zs.length+7) / 8)).map (dQ zs)
theorem iI (zs:List Int):(cut zs).length=(zs.length+7) / 8:=by simp[cut]
theorem eC (zs:List Int) (i:Nat):(dQ zs i).length=min 8 (zs.length - 8 * i):=by simp[dQ]
theorem zi2 (zs:List Int) (i t:Nat) (h:t<(dQ zs i).length):(dQ zs i).getD t 0=zs.getD (8 * i+t) 0:=by
 rw[eC]at h;have h8:t<8:=by omega
 simp[dQ,List.getD_eq_getElem?_getD,h8,List.getElem?_drop]
def eT (B:Nat) (w:World) (v:Value) (P:Nat→List Int) (j:Nat):Prop :=
 ∃ A C:Nat→Nat,w.ownsRow B 22 1 v j ((List.range j).map fun i=>.slice (some ⟨A i,0,none⟩) (P i).length (C i)) ∧
  (∀ i,i<j→w.ownsRow B 5 1 (.slice (some ⟨A i,0,none⟩) (P i).length (C i)) (P i).length ((P i).map (Value.int .u8))) ∧
  ∀ i i',i<j→i'<j→A i=A i'→i=i'
theorem eT.below {B:Nat} {w w':World} {v:Value} {P:Nat→List Int} {j:Nat} (h:eT B w v P j) (hk:Below w.heap.size w w'):eT B w' v P j:=by
 obtain ⟨A,C,h1,h2,h3⟩:=h;exact ⟨A,C,aI h1 hk,fun i hi=>aI (h2 i hi) hk,h3⟩
theorem eT.push {B:Nat} {w w1 w2:World} {v v':Value} {P:Nat→List Int} {j g c:Nat} {A C:Nat→Nat}
  (h1:w.ownsRow B 22 1 v j ((List.range j).map fun i=>.slice (some ⟨A i,0,none⟩) (P i).length (C i)))
  (h2:∀ i,i<j→w.ownsRow B 5 1 (.slice (some ⟨A i,0,none⟩) (P i).length (C i)) (P i).length ((P i).map (Value.int .u8)))
  (h3:∀ i i',i<j→i'<j→A i=A i'→i=i') (hB:B≤w.heap.size) (hbel:Below w.heap.size w w1)
  {n1 n2:Nat} (hown:w1.ownsRow w.heap.size 5 1 (.slice (some ⟨g,0,none⟩) n1 c) n1 ((P j).map (Value.int .u8))) (hg:w.heap.size≤g)
  (hv':w2.ownsRow B 22 1 v' (j+1) ((List.range j).map (fun i=>Value.slice (some ⟨A i,0,none⟩) (P i).length (C i)) ++ [.slice (some ⟨g,0,none⟩) n2 c]))
  (hk:aD (fun b=>v.ownBlock=some b) w1 w2) (hn1:n1=(P j).length) (hn2:n2=(P j).length):eT B w2 v' P (j+1):=by
 subst hn1 hn2;have hA:∀ i,i<j→A i<w.heap.size:=fun i hi=>((h2 i hi).lt (A i) rfl).2
 have k1:=aI h1 hbel;refine ⟨fun i=>if i=j then g else A i,fun i=>if i=j then c else C i,?_,?_,?_⟩
 ·rw[List.range_succ,List.map_append]
  have e:(List.range j).map (fun i=>Value.slice (some ⟨if i=j then g else A i,0,none⟩) (P i).length (if i=j then c else C i))=(List.range j).map (fun i=>Value.slice (some ⟨A i,0,none⟩) (P i).length (C i)):=by
   apply List.map_congr_left
   intro i hi;have:i≠j:=by have:=List.mem_range.1 hi;omega
   simp[this]
  rw[e];simpa using hv'
 ·intro i hi
  by_cases e:i=j
  ·subst e
   simp only[if_true];exact aL (bF hown hB) hk (fun b hb hS=>cW k1 hown (by decide) hS hb)
  ·simp only[if_neg e]
   have k2:=aI (h2 i (by omega)) hbel
   exact aL k2 hk (fun b hb hS=>cW k1 k2 (by decide) hS hb)
 ·intro i i' hi hi' he
  by_cases e:i=j
  ·by_cases e':i'=j
   ·omega
   ·simp only[if_pos e,if_neg e']at he
    have:=hA i' (by omega)
    omega
  ·by_cases e':i'=j
   ·simp only[if_neg e,if_pos e']at he
    have:=hA i (by omega)
    omega
   ·simp only[if_neg e,if_neg e']at he
    exact h3 i i' (by omega) (by omega) he
theorem Tryz.infoBs:(Tryz.prog.info? 22).map (fun i=>(i.zero,i.size,i.bytes))=some (some (.slice none 0 0),1,24):=by kernel_rfl
theorem zhh (a:Option Addr) (cap:Nat) (zs:List Int) (w:World) (h:aP .u8 w a zs) (hcap:zs.length≤cap) (hl:zs.length≤1048576) :
  Calls Tryz.prog 249 #[.slice a zs.length cap] w fun e w'=>∃ v,e=.returned v∧eT w.heap.size w' v (dQ zs) (cut zs).length∧Below w.heap.size w w':=by
 obtain ⟨i0,hi,hz0,hz1,hz2⟩:=info_parts Tryz.infoU8;obtain ⟨i1,ki,kz0,kz1,kz2⟩:=info_parts Tryz.infoBs;go_enter Tryz.func249,Tryz.ntmps249;go_wp2
 go_loopw [3,4,5] (fun v i _ wr=>∃ j:Nat,8 * j<zs.length+8∧i=.int .i64 (8 * (j:Int))∧eT w.heap.size wr v (dQ zs) j∧Below w.heap.size w wr) (fun _ i _ _=>zs.length+8 - (intOf i).toNat)
 case atStart=>exact ⟨0,by omega,rfl,⟨fun _=>0,fun _=>0,World.ownsRow_made w #[] 0 (Nat.le_refl _) (Nat.zero_le _) rfl,fun i hi=>absurd hi (by omega),fun i i' hi=>absurd hi (by omega)⟩,(Below.refl _ _).alloc (Nat.le_refl _) _⟩
 case round =>
  obtain ⟨j,hj,rfl,hgrow,hbel⟩:=hrel;have hsz:=hbel.size;by_cases hlt:8 * j<zs.length
  ·obtain ⟨b,off,rfl,hb,hc⟩:=h (by intro e;simp[e]at hlt)
   obtain ⟨A,C,h1,h2,h3⟩:=hgrow;have hlt':8 * (j:Int)<(zs.length:Int):=by omega
   have H1:=aA h1;have H2:=aA h2;have H3:=aA h3;have HB:=aA hbel;have HC:=aA hc;clear h1 h2 h3 hbel hc h;have hb':b<wr.heap.size:=Nat.lt_of_lt_of_le hb hsz;have hcp:∀ t,t<(dQ zs j).length→wr.cell? ⟨b,off+8 * j+t,none⟩=some (.int .u8 ((dQ zs j).getD t 0)):=fun t ht=>by
    rw[zi2 zs j t ht,Nat.add_assoc];exact (HB.out.cell (p:=⟨b,off+(8 * j+t),none⟩) hb).trans (HC.out (8 * j+t) (by rw[eC]at ht;omega))
   have HCP:=aA hcp;have hp0:0<(dQ zs j).length:=by rw[eC];omega
   have hp1:(dQ zs j).length≤maxLen:=by rw[eC];unfold maxLen;omega
   have hp2:(dQ zs j).length * 1≤140737488355328:=by rw[eC];omega
   have hm1:j+1≤maxLen:=by unfold maxLen;omega
   have hm2:(j+1) * 24≤140737488355328:=by omega
   clear hcp;by_cases hm:(zs.length:Int)<8 * (j:Int)+8
   ·have hpl:zs.length - 8 * j=(dQ zs j).length:=by rw[eC];omega
    have HPL:=aA hpl;clear hpl;go_wp2_with (first | (at_builtin;refine lI rfl (.tmp 19) (.tmp 23) 22 rfl 5 i0 .u8 1 Tryz.underlying22 hi hz0 hz1 hz2 rfl b (off+8 * j) (zs.length - 8 * j) (cap - 8 * j) (dQ zs j) rfl HPL.out hb' HCP.out hp0 hp1 hp2 ?_;intro g c w1 hown1 hg1 hgl1 hbel1;have k1:=aA (aI H1.out hbel1);have HO1:=aA hown1;have HB1:=aA hbel1;have hsz1:w.heap.size≤w1.heap.size:=Nat.le_trans hsz hbel1.size;clear hown1 hbel1) | (at_builtin;refine cS rfl (.tmp 18) (.tmp 25) 200 rfl w.heap.size 22 i1 (.slice none 0 0) 1 24 Tryz.underlying200 ki kz0 kz1 kz2 rfl (by decide) _ _ _ rfl k1.out rfl rfl (by intro u hu;simp at hu;subst hu;rfl) hm1 hm2 hsz1 ?_;intro v' w2 hown2 hkept;have hG:Hid (eT w.heap.size w2 v' (dQ zs) (j+1)):=eT.push H1.out H2.out H3.out hsz HB1.out HO1.out hg1 hown2 hkept HPL.out (by first | exact HPL.out | (have:=HPL.out;omega));have hB2:=aA (aD.below_own (HB.out.trans (HB1.out.mono hsz)) hsz1 k1.out hkept);clear hown2 hkept k1) | go_in)
    go_roundw
    case rel=>exact ⟨j+1,by omega,by go_num,hG.out,hB2.out⟩
    case measure=>simp[intOf];omega
   ·have hpl:8 * j+8 - 8 * j=(dQ zs j).length:=by rw[eC];omega
    have HPL:=aA hpl;clear hpl;go_wp2_with (first | (at_builtin;refine lI rfl (.tmp 19) (.tmp 23) 22 rfl 5 i0 .u8 1 Tryz.underlying22 hi hz0 hz1 hz2 rfl b (off+8 * j) (8 * j+8 - 8 * j) (cap - 8 * j) (dQ zs j) rfl HPL.out hb' HCP.out hp0 hp1 hp2 ?_;intro g c w1 hown1 hg1 hgl1 hbel1;have k1:=aA (aI H1.out hbel1);have HO1:=aA hown1;have HB1:=aA hbel1;have hsz1:w.heap.size≤w1.heap.size:=Nat.le_trans hsz hbel1.size;clear hown1 hbel1) | (at_builtin;refine cS rfl (.tmp 18) (.tmp 25) 200 rfl w.heap.size 22 i1 (.slice none 0 0) 1 24 Tryz.underlying200 ki kz0 kz1 kz2 rfl (by decide) _ _ _ rfl k1.out rfl rfl (by intro u hu;simp at hu;subst hu;rfl) hm1 hm2 hsz1 ?_;intro v' w2 hown2 hkept;have hG:Hid (eT w.heap.size w2 v' (dQ zs) (j+1)):=eT.push H1.out H2.out H3.out hsz HB1.out HO1.out hg1 hown2 hkept HPL.out (by first | exact HPL.out | (have:=HPL.out;omega));have hB2:=aA (aD.below_own (HB.out.trans (HB1.out.mono hsz)) hsz1 k1.out hkept);clear hown2 hkept k1) | go_in)
    go_roundw
    case rel=>exact ⟨j+1,by omega,by go_num,hG.out,hB2.out⟩
    case measure=>simp[intOf];omega
  ·have hje:j=(cut zs).length:=by rw[iI];omega
   subst hje;go_wp2
   go_ret
   exact ⟨_,rfl,hgrow,hbel⟩
theorem eT.mono {B B':Nat} {w:World} {v:Value} {P:Nat→List Int} {j:Nat} (h:eT B w v P j) (hB:B'≤B):eT B' w v P j:=by
 obtain ⟨A,C,h1,h2,h3⟩:=h;exact ⟨A,C,bF h1 hB,fun i hi=>bF (h2 i hi) hB,h3⟩
theorem eT.kept {S:Nat→Prop} {B:Nat} {w w':World} {v:Value} {P:Nat→List Int} {j:Nat} (h:eT B w v P j) (hk:aD S w w') (hS:∀ b,B≤b→¬ S b):eT B w' v P j:=by
 obtain ⟨A,C,h1,h2,h3⟩:=h;exact ⟨A,C,aL h1 hk (fun b hb=>hS b (h1.lt b hb).1),fun i hi=>aL (h2 i hi) hk (fun b hb=>hS b ((h2 i hi).lt b hb).1),h3⟩
theorem zj0 (a:Option Addr) (cap:Nat) (zs:List Int) (w:World) (h:aP .u8 w a zs) (hcap:zs.length≤cap) (hl:zs.length≤24) :
  Calls Tryz.prog 193 #[.slice a zs.length cap] w fun e w'=>∃ v,e=.returned (.agg #[.int .i64 0,v])∧eT w.heap.size w' v (dQ zs) (cut zs).length∧Below w.heap.size w w':=by
 obtain ⟨i1,ki,kz0,kz1,kz2⟩:=info_parts Tryz.infoBs;have hl':¬ (24:Int)<(zs.length:Int):=by omega
 go_enter Tryz.func193,Tryz.ntmps193;go_wp2
 go_loopw [3,4,5] (fun v i _ wr=>∃ j:Nat,8 * j<zs.length+8∧i=.int .i64 (8 * (j:Int))∧eT (w.heap.size+1) wr v (dQ zs) j∧wr.cell? ⟨w.heap.size,0,none⟩=some (.int .i64 0)∧wr.cell? ⟨w.heap.size,1,none⟩=some (.slice none 0 0)∧wr.frozen? ⟨w.heap.size,0,none⟩=false∧wr.frozen? ⟨w.heap.size,1,none⟩=false∧w.heap.size+1≤wr.heap.size∧Below w.heap.size w wr) (fun _ i _ _=>zs.length+8 - (intOf i).toNat)
 case atStart=>exact ⟨0,by omega,rfl,⟨fun _=>0,fun _=>0,World.ownsRow_nil _ _ _ _,fun i hi=>absurd hi (by omega),fun i i' hi=>absurd hi (by omega)⟩,by simp,by simp,by simp,by simp,by simp,(Below.refl _ _).alloc (Nat.le_refl _) _⟩
 case round =>
  obtain ⟨j,hj,rfl,hgrow,q0,q1,q2,q3,hsz,hbel⟩:=hrel;by_cases hlt:8 * j<zs.length
  ·obtain ⟨b,off,rfl,hb,hc⟩:=h (by intro e;simp[e]at hlt)
   obtain ⟨A,C,h1,h2,h3⟩:=hgrow;obtain ⟨av,cv,rfl⟩:=bH h1;have hlt':8 * (j:Int)<(zs.length:Int):=by omega
   have H1:=aA h1;have H2:=aA h2;have H3:=aA h3;have HB:=aA hbel;have HC:=aA hc;clear h1 h2 h3 hbel hc h;have hb':b<wr.heap.size:=by omega
   have hcp:∀ t,t<(dQ zs j).length→wr.cell? ⟨b,off+8 * j+t,none⟩=some (.int .u8 ((dQ zs j).getD t 0)):=fun t ht=>by
    rw[zi2 zs j t ht,Nat.add_assoc];exact (HB.out.cell (p:=⟨b,off+(8 * j+t),none⟩) hb).trans (HC.out (8 * j+t) (by rw[eC]at ht;omega))
   have HCP:=aA hcp;have hp0:0<(dQ zs j).length:=by rw[eC];omega
   have hp1:(dQ zs j).length≤1048576:=by rw[eC];omega
   have hm1:j+1≤maxLen:=by unfold maxLen;omega
   have hm2:(j+1) * 24≤140737488355328:=by omega
   clear hcp;by_cases hm:(zs.length:Int)<8 * (j:Int)+8
   ·have hpl:zs.length - 8 * j=(dQ zs j).length:=by rw[eC];omega
    have HPL:=aA hpl;clear hpl;go_wp2_with (first | (go_at_call 230;refine (zx3 b (off+8 * j) (cap - 8 * j) (dQ zs j) wr HCP.out hb' hp0 hp1 _ (by first | exact HPL.out | (have:=HPL.out;omega))).mono ?_;rintro e w1 ⟨g,c,rfl,hown1,hg1,hgl1,hbel1⟩;have k1:=aA (aI H1.out hbel1);have HO1:=aA hown1;have HB1:=aA hbel1;have hsz1:w.heap.size+1≤w1.heap.size:=Nat.le_trans hsz hbel1.size;clear hown1 hbel1) | (at_builtin;refine cS rfl (.tmp 21) (.tmp 27) 200 rfl (w.heap.size+1) 22 i1 (.slice none 0 0) 1 24 Tryz.underlying200 ki kz0 kz1 kz2 rfl (by decide) _ _ _ rfl k1.out rfl rfl (by intro u hu;simp at hu;subst hu;rfl) hm1 hm2 hsz1 ?_;intro v' w2 hown2 hkept;have hG:Hid (eT (w.heap.size+1) w2 v' (dQ zs) (j+1)):=eT.push H1.out H2.out H3.out hsz HB1.out HO1.out hg1 hown2 hkept (by first | exact HPL.out | (have:=HPL.out;omega)) (by first | exact HPL.out | (have:=HPL.out;omega));have hN:=aA (aD.below hkept hsz1 (fun k hk' he=>by have:=(k1.out.lt k he).1;omega));have hz2:=aA hkept.size;clear hown2 hkept k1))
    have hB1:=(HB1.out.mono hsz).trans hN.out;go_roundw
    case rel=>exact ⟨j+1,by omega,by go_num,hG.out,(hB1.cell (p:=⟨w.heap.size,0,none⟩) (by simp)).trans q0,(hB1.cell (p:=⟨w.heap.size,1,none⟩) (by simp)).trans q1,(hB1.frozen (p:=⟨w.heap.size,0,none⟩) (by simp)).trans q2,(hB1.frozen (p:=⟨w.heap.size,1,none⟩) (by simp)).trans q3,Nat.le_trans hsz1 hz2.out,HB.out.trans (hB1.mono (by omega))⟩
    case measure=>simp[intOf];omega
   ·have hpl:8 * j+8 - 8 * j=(dQ zs j).length:=by rw[eC];omega
    have HPL:=aA hpl;clear hpl;go_wp2_with (first | (go_at_call 230;refine (zx3 b (off+8 * j) (cap - 8 * j) (dQ zs j) wr HCP.out hb' hp0 hp1 _ (by first | exact HPL.out | (have:=HPL.out;omega))).mono ?_;rintro e w1 ⟨g,c,rfl,hown1,hg1,hgl1,hbel1⟩;have k1:=aA (aI H1.out hbel1);have HO1:=aA hown1;have HB1:=aA hbel1;have hsz1:w.heap.size+1≤w1.heap.size:=Nat.le_trans hsz hbel1.size;clear hown1 hbel1) | (at_builtin;refine cS rfl (.tmp 21) (.tmp 27) 200 rfl (w.heap.size+1) 22 i1 (.slice none 0 0) 1 24 Tryz.underlying200 ki kz0 kz1 kz2 rfl (by decide) _ _ _ rfl k1.out rfl rfl (by intro u hu;simp at hu;subst hu;rfl) hm1 hm2 hsz1 ?_;intro v' w2 hown2 hkept;have hG:Hid (eT (w.heap.size+1) w2 v' (dQ zs) (j+1)):=eT.push H1.out H2.out H3.out hsz HB1.out HO1.out hg1 hown2 hkept (by first | exact HPL.out | (have:=HPL.out;omega)) (by first | exact HPL.out | (have:=HPL.out;omega));have hN:=aA (aD.below hkept hsz1 (fun k hk' he=>by have:=(k1.out.lt k he).1;omega));have hz2:=aA hkept.size;clear hown2 hkept k1))
    have hB1:=(HB1.out.mono hsz).trans hN.out;go_roundw
    case rel=>exact ⟨j+1,by omega,by go_num,hG.out,(hB1.cell (p:=⟨w.heap.size,0,none⟩) (by simp)).trans q0,(hB1.cell (p:=⟨w.heap.size,1,none⟩) (by simp)).trans q1,(hB1.frozen (p:=⟨w.heap.size,0,none⟩) (by simp)).trans q2,(hB1.frozen (p:=⟨w.heap.size,1,none⟩) (by simp)).trans q3,Nat.le_trans hsz1 hz2.out,HB.out.trans (hB1.mono (by omega))⟩
    case measure=>simp[intOf];omega
  ·have hje:j=(cut zs).length:=by rw[iI];omega
   subst hje;obtain ⟨av,cv,rfl⟩:∃ a c,u3=.slice a (cut zs).length c:=by obtain ⟨A,C,h1,h2,h3⟩:=hgrow;exact bH h1
   have HG:=aA hgrow;have HB:=aA hbel;clear hgrow hbel;go_wp2
   refine bodyPost_ret (v:=.agg #[.int .i64 0,.slice av (cut zs).length cv]) (by simp[results,Tryz.results193,go_sem,q0,q1]) rfl ⟨_,rfl,?_,(HB.out.setCell (Nat.le_refl _) _).setCell (Nat.le_refl _) _⟩
   exact (HG.out.kept (S:=fun b=>b=w.heap.size) (aD.two _ _ _ _ _ _) (fun b hb e=>by omega)).mono (by omega)
theorem zi0 (a:Option Addr) (cap:Nat) (zs:List Int) (w:World) (hl:24<zs.length) (hl2:zs.length≤1048576) :
  Calls Tryz.prog 193 #[.slice a zs.length cap] w fun e w'=>e=.returned (.agg #[.int .i64 2,.slice none 0 0])∧Below w.heap.size w w':=by
 have hl':(24:Int)<(zs.length:Int):=by omega
 go_enter Tryz.func193,Tryz.ntmps193;go_wp2
 exact bodyPost_ret (v:=.agg #[.int .i64 2,.slice none 0 0]) (by simp[results,Tryz.results193,go_sem]) rfl ⟨rfl,(Below.refl _ _).alloc (Nat.le_refl _) _⟩
theorem Tryz.infoI64:(Tryz.prog.info? 2).map (fun i=>(i.zero,i.size,i.bytes))=some (some (.int .i64 0),1,8):=by kernel_rfl
end Go.Proofs.YtolnlfnndnpiiaaGreat
