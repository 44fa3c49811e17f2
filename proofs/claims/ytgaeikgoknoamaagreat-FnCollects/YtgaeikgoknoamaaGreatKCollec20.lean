/-
  Texts put together: OvrI OvrN.
-/
import Derived.Test.YtgaeikgoknoamaaGreatKCollec1
import Derived.Test.YtgaeikgoknoamaaGreatKCollec4
import Derived.Test.YtgaeikgoknoamaaGreatKCollec13
import Derived.ProofKit
import Derived.Deep.DrawnRows
import Derived.Deep.RegionHeld3
import Derived.Deep.RegionLaw
import Derived.Test.YtgaeikgoknoamaaGreatKCollec7
set_option linter.unusedVariables false
set_option maxHeartbeats 12800000
set_option maxRecDepth 100000
namespace Go.Proofs.YtgaeikgoknoamaaGreat
open Go.RowKit
attribute [local go_sem ↓] Go.wp_at_zero Go.wp_at_succ
def sH (ps:List Bs) (p:Bs):Nat:=(ps.takeWhile fun x=>Op.bytesLess x p).length
def fO (ps:List Bs) (p:Bs):List Bs:=ps.take (sH ps p)++p :: ps.drop (sH ps p)
theorem zg8 {bs:List Bs} {p:Bs} {k:Nat} (hk:k≤bs.length) (h1:(bs.take k).all (fun x=>Op.bytesLess x p)=true) (h2:∀ y,bs[k]?=some y→Op.bytesLess y p=false):sH bs p=k:=by
 have e:bs=bs.take k++bs.drop k:=(List.take_append_drop k bs).symm;have hd:(bs.drop k).takeWhile (fun x=>Op.bytesLess x p)=[]:=by
  cases hx:bs.drop k with
  | nil=>rfl
  | cons y r =>
   have:bs[k]?=some y:=by
    have h3:=congrArg (fun l=>l[0]?) hx
    simpa using h3
   simp[h2 y this]
 unfold sH
 conv=>lhs;rw[e]
 rw[List.takeWhile_append_of_pos (by intro x hx;exact List.all_eq_true.1 h1 x hx),hd,List.append_nil,List.length_take]
 omega
theorem pQ (ps:List Bs) (p:Bs):(fO ps p).length=ps.length+1:=by
 unfold fO;have:sH ps p≤ps.length:=by unfold sH;exact List.Sublist.length_le (List.takeWhile_sublist _)
 simp;omega
theorem zpi (ys:List Bs):∀ u∈ys.map vS,u.oneCell'=true:=by
 intro u hu;obtain ⟨p,-,rfl⟩:=List.mem_map.1 hu;rfl
theorem zk7 {w:World} {b off:Nat} {ys:List Bs} (h:∀ i,i<ys.length→w.cell? ⟨b,off+i,none⟩=some (.string (str (ys.getD i [])))):∀ j u,(ys.map vS)[j]?=some u→w.cell? ((⟨b,off,none⟩:Addr).add j)=some u:=by
 intro j u hj;rw[zv2];have hlt:j<ys.length:=by have:=(List.getElem?_eq_some_iff.1 hj).1;simpa using this
 rw[h j hlt];rw[List.getElem?_map,List.getElem?_eq_getElem hlt]at hj
 simp only[Option.map_some,Option.some.injEq]at hj;rw[←hj,List.getD_eq_getElem?_getD,List.getElem?_eq_getElem hlt]
 rfl
theorem cF {P:Program} {w:World} {ops:Array Oper} {o:Oper} {a:Act} {K:Act→World→Prop} {Q:Exit→Act→World→Prop} {E:Prop} (hgd:o.guard=none) (s x:Operand) (t:TypeId)
  (ho:o.op=.call { callee:=.builtin .append,args:=#[s,x],argTypes:=#[t,t] })
  (base:Nat) (e:TypeId) (i:TypeInfo) (ht:P.underlying t=some (.slice e)) (hi:P.info? e=some i) (hz:i.zero=some (.string ⟨#[]⟩))
  (hsize:i.size=1) (hby:i.bytes=16)
  (av0:Option Addr) (n c0:Nat) (xs:List Bs) (hs:a.eval s=.slice av0 n c0) (hown:w.ownsRow base e 1 (.slice av0 n c0) n (xs.map vS))
  (xv:Option Addr) (m xc:Nat) (ys:List Bs) (hx:a.eval x=.slice xv m xc) (hm:ys.length=m) (hr:aU w xv ys)
  (N:Nat) (hN:n+m=N) (h63:n+m≤maxLen) (hbytes:(n+m) * 16≤140737488355328) (hbase:base≤w.heap.size)
  (h:∀ av cv w',w'.ownsRow base e 1 (.slice av N cv) N ((xs++ys).map vS)→aE (fun b=>(Value.slice av0 n c0).ownBlock=some b) w w'→K (a.put o.dst (.slice av N cv)) w') :
  if Region.wanted o (yielded ops a.tmps)=true then Oper.wp P o a w K Q else E:=by
 have hw:Region.wanted o (yielded ops a.tmps)=true:=by simp[Region.wanted,hgd]
 rw[if_pos hw];subst hm;cases xv with
 | some ad =>
  refine wp_append_own w s x t ho base e i (.string ⟨#[]⟩) 1 16 ht hi hz hsize hby rfl (by decide) _ n _ hs hown ad ys.length xc (ys.map vS) hx (by simp) (fun j u hj=>?_) (zpi ys) h63 hbytes hbase fun v' w' h2 h3 _=>?_
  ·have h0:ys≠[]:=fun e=>by subst e;simp at hj
   obtain ⟨b,off,e1,hb,hc⟩:=hr h0;simp only[Option.some.injEq]at e1;subst e1;exact zk7 hc j u hj
  ·rw[hN]at h2
   obtain ⟨av,cv,rfl⟩:=aR h2;exact h av cv w' (by rw[List.map_append];exact h2) ⟨h3.os,h3.tape,h3.output,h3.size,fun q hq hn=>h3.block q hq (fun e=>hn e.symm)⟩
 | none =>
  have h0:ys=[]:=by
   by_cases h0:ys=[]
   ·exact h0
   ·obtain ⟨b,off,e1,-⟩:=hr h0;cases e1
  subst h0;have hN':N=n:=by simp at hN;omega
  subst hN';have hc0:(if xc=0 then true else true)=true:=by split <;> rfl
  have hrun:(Builtin.append_ #[t,t] o.type #[.slice av0 N c0,.slice none 0 xc]).run P w=.ok (.slice av0 N c0) w:=by
   rcases hown.2 with ⟨hv,h0⟩ | ⟨g,cap,cur,hv,-,-,hnc,-⟩
   ·simp only[Value.slice.injEq]at hv
    obtain ⟨rfl,rfl,rfl⟩:=hv;simp[Builtin.append_,run_underlying ht,sizeOf,typeInfo,hi,Builtin.lenOf,Builtin.firstCells]
   ·simp only[Value.slice.injEq,true_and]at hv
    obtain ⟨rfl,rfl⟩:=hv;simp[Builtin.append_,run_underlying ht,sizeOf,typeInfo,hi,Builtin.lenOf,Builtin.firstCells,hnc,storeCells]
  unfold Oper.wp execOp;simp only[ho,resolve,invoke,builtin,Sem.run_bind,Sem.run_pure,Result.andThen_ok,List.map_toArray,List.map_cons,List.map_nil,hs,hx,List.length_nil,hrun];exact h av0 c0 w (by rw[List.append_nil];exact hown) (aE.refl _ _)
theorem aU.drop {w:World} {g:Nat} {ps:List Bs} (h:aU w (some ⟨g,0,none⟩) ps) (k:Nat):aU w (some ⟨g,k,none⟩) (ps.drop k):=by
 intro hz;have hp:ps≠[]:=by rintro rfl;simp at hz
 obtain ⟨b,off,e1,hb,hc⟩:=h hp;simp only[Option.some.injEq,Addr.mk.injEq,and_true]at e1;obtain ⟨rfl,rfl⟩:=e1;refine ⟨g,k,rfl,hb,fun i hi=>?_⟩
 have hi':k+i<ps.length:=by simp at hi;omega
 have:=hc (k+i) hi';rw[Nat.zero_add]at this;rw[this];simp[List.getD_eq_getElem?_getD]
theorem fD (w:World) (p:Bs):aU (w.alloc (.cells #[.string (str p)] 9)) (some ⟨w.heap.size,0,none⟩) [p]:=by
 intro _;refine ⟨w.heap.size,0,rfl,by simp,fun i hi=>?_⟩
 obtain rfl:i=0:=by simp at hi;omega
 simp
theorem eX (w:World):(w.alloc (.cells #[] 9)).ownsRow w.heap.size 9 1 (.slice (some ⟨w.heap.size,0,none⟩) 0 0) 0 (([]:List Bs).map vS):=World.ownsRow_made w #[] 0 (Nat.le_refl _) (Nat.zero_le _) rfl
theorem gT {w w1 w2:World} {b n c:Nat} (h:Below w.heap.size w w1) (hk:aE (fun q=>(Value.slice (some ⟨b,0,none⟩) n c).ownBlock=some q) w1 w2) (hb:w.heap.size≤b):Below w.heap.size w w2 :=
 h.trans (hk.below h.size (fun q hq hS=>by simp[Value.ownBlock]at hS;omega))
theorem eI {w w1 w2 w3:World} {t:TypeId} {a:Option Addr} {n c m:Nat} {xs:List Value} (h:Below w.heap.size w w1) (hk:aE (fun q=>(Value.slice a n c).ownBlock=some q) w1 w2) (ho:w3.ownsRow w.heap.size t 1 (.slice a n c) m xs):Below w.heap.size w w2 :=
 h.trans (hk.below h.size (fun q hq hS=>by have:=(ho.lt q hS).1;omega))
theorem jM {w1 w2:World} {b d n c:Nat} {p:Bs} (hk:aE (fun q=>(Value.slice (some ⟨b,0,none⟩) n c).ownBlock=some q) w1 w2) (hd:d≠b) (h:aU w1 (some ⟨d,0,none⟩) [p]):aU w2 (some ⟨d,0,none⟩) [p] :=
 h.kept hk (fun _ x hx hS=>by simp only[Option.some.injEq]at hx;subst hx;simp[Value.ownBlock]at hS;exact hd hS.symm)
theorem vP {B:Nat} {w:World} {a:Option Addr} {c k n:Nat} {ps qs:List Bs} {p:Bs} (h:w.ownsRow B 9 1 (.slice a n c) n ((((([]:List Bs)++ps.take k) ++ [p])++ps.drop k).map vS)) (hq:qs=ps.take k++p :: ps.drop k) (hn:qs.length=n):bR B w (.slice a n c) qs:=by
 subst hq;unfold bR;rw[hn];simpa using h
theorem zga (g c:Nat) (ps:List Bs) (p:Bs) (w:World) (h:aU w (some ⟨g,0,none⟩) ps) (hc:ps.length≤c) (hl:ps.length≤1048576) :
  Calls Tryz.prog 278 #[.slice (some ⟨g,0,none⟩) ps.length c,.string (str p)] w fun r w'=>∃ av cv,r=.returned (.slice av (fO ps p).length cv)∧bR w.heap.size w' (.slice av (fO ps p).length cv) (fO ps p)∧Below w.heap.size w w':=by
 obtain ⟨i1,ki,kz0,kz1,kz2⟩:=info_parts mI;have HR:=aA h;clear h;go_enter Tryz.func278,Tryz.ntmps278;go_wp2_with fail
 go_loopw [5] (fun i wr=>∃ k:Nat,k≤ps.length∧i=.int .i64 k∧wr=w∧Hid ((ps.take k).all (fun x=>Op.bytesLess x p)=true)) (fun i _=>ps.length - (intOf i).toNat)
 case atStart=>exact ⟨0,Nat.zero_le _,rfl,rfl,aA (by simp)⟩
 case round =>
  obtain ⟨k,hk,rfl,rfl,HL⟩:=hrel;have hk0:(0:Int)≤(k:Int):=by omega
  have hkc:(k:Int)≤(c:Int):=by omega
  have hkl:(k:Int)≤(ps.length:Int):=by omega
  have hlc:(ps.length:Int)≤(c:Int):=by omega
  by_cases hlt:k<ps.length
  ·obtain ⟨b,off,q,hbb,hb,he,c0⟩:=HR.out.at hlt
   simp only[Option.some.injEq,Addr.mk.injEq,and_true]at hbb;obtain ⟨rfl,rfl⟩:=hbb;rw[Nat.zero_add]at c0;have hk1:(k:Int)<(ps.length:Int):=by omega
   have HX:=aA he;clear he;cases hlo:Op.bytesLess (str q).toList (str p).toList
   ·have HLk:=aA (zg8 hk HL.out (fun y' hy'=>by rw[HX.out]at hy';cases hy';rw[aM,aM]at hlo;exact hlo))
    have hck:¬ c=k:=by omega
    have HPut:=aA (show fO ps p=ps.take k++p :: ps.drop k from by unfold fO;rw[HLk.out])
    have HLen:=aA (pQ ps p);have BSA:Hid (Below wr.heap.size wr ((wr.alloc (.cells #[] 9)).drew)):=aA (aC wr _).drew;have BSB:Hid (Below wr.heap.size wr (((wr.alloc (.cells #[] 9)).alloc (.cells #[.string (str p)] 9)).drew)):=aA (aB (aC wr _) (aC _ _)).drew;have BSC:Hid (Below wr.heap.size wr (((wr.alloc (.cells #[.string (str p)] 9)).alloc (.cells #[] 9)).drew)):=aA (aB (aC wr _) (aC _ _)).drew;have OA:Hid (((wr.alloc (.cells #[] 9)).drew).ownsRow wr.heap.size 9 1 (.slice (some ⟨wr.heap.size,0,none⟩) 0 0) 0 (([]:List Bs).map vS)):=aA (eX wr)
    have OB:Hid ((((wr.alloc (.cells #[] 9)).alloc (.cells #[.string (str p)] 9)).drew).ownsRow wr.heap.size 9 1 (.slice (some ⟨wr.heap.size,0,none⟩) 0 0) 0 (([]:List Bs).map vS)):=aA (aJ (eX wr) (aC _ _).drew);have OC:Hid ((((wr.alloc (.cells #[.string (str p)] 9)).alloc (.cells #[] 9)).drew).ownsRow wr.heap.size 9 1 (.slice (some ⟨wr.heap.size+1,0,none⟩) 0 0) 0 (([]:List Bs).map vS)):=aA (by have:=eX (wr.alloc (.cells #[.string (str p)] 9));rw[show (wr.alloc (.cells #[.string (str p)] 9)).heap.size=wr.heap.size+1 by simp]at this;exact aW this (by omega))
    have RNB:Hid (aU (((wr.alloc (.cells #[] 9)).alloc (.cells #[.string (str p)] 9)).drew) (some ⟨wr.heap.size+1,0,none⟩) [p]):=aA (by have:=fD (wr.alloc (.cells #[] 9)) p;rw[show (wr.alloc (.cells #[] 9)).heap.size=wr.heap.size+1 by simp]at this;exact this)
    have RNC:Hid (aU (((wr.alloc (.cells #[.string (str p)] 9)).alloc (.cells #[] 9)).drew) (some ⟨wr.heap.size,0,none⟩) [p]):=aA ((fD wr p).below (aC _ _).drew);have HNB:Hid (wr.heap.size+1≠wr.heap.size):=aA (by omega)
    have HNC:Hid (wr.heap.size≠wr.heap.size+1):=aA (by omega)
    have HBA:Hid (wr.heap.size≤wr.heap.size):=aA (Nat.le_refl _);have HBB:Hid (wr.heap.size≤wr.heap.size):=aA (Nat.le_refl _);have HBC:Hid (wr.heap.size≤wr.heap.size+1):=aA (by omega)
    have htk:Hid ((ps.take k).length=k):=aA (by rw[List.length_take];omega)
    have hk00:Hid (0+k=k):=aA (by omega)
    have hdk:Hid ((ps.drop k).length=(ps.length - k)):=aA (by rw[List.length_drop])
    have hN3:Hid (k+1+(ps.length - k)=ps.length+1):=aA (by omega)
    have RTA:Hid (aU ((wr.alloc (.cells #[] 9)).drew) (some ⟨g,0,none⟩) (ps.take k)):=aA ((HR.out.below BSA.out).take k);have RTB:Hid (aU (((wr.alloc (.cells #[] 9)).alloc (.cells #[.string (str p)] 9)).drew) (some ⟨g,0,none⟩) (ps.take k)):=aA ((HR.out.below BSB.out).take k);have RTC:Hid (aU (((wr.alloc (.cells #[.string (str p)] 9)).alloc (.cells #[] 9)).drew) (some ⟨g,0,none⟩) (ps.take k)):=aA ((HR.out.below BSC.out).take k);have RD:Hid (∀ u:World,Below wr.heap.size wr u→aU u (some ⟨g,k,none⟩) (ps.drop k)):=aA (fun u hu=>(HR.out.below hu).drop k)
    have hm0:0+k≤maxLen:=by unfold maxLen;omega
    have hm0':(0+k) * 16≤140737488355328:=by omega
    have hm1:k+1≤maxLen:=by unfold maxLen;omega
    have hm1':(k+1) * 16≤140737488355328:=by omega
    have hm2:k+1+(ps.length - k)≤maxLen:=by unfold maxLen;omega
    have hm2':(k+1+(ps.length - k)) * 16≤140737488355328:=by omega
    go_wp2_with fail
    go_region_law
     ((
      first
      | (refine cF (by rfl) (.tmp 20) (.tmp 23) 25 (by rfl) wr.heap.size 9 i1 Tryz.underlying25 ki kz0 kz1 kz2 (some ⟨wr.heap.size+1,0,none⟩) 0 0 [] (by rfl) OC.out (some ⟨g,0,none⟩) k c (ps.take k) (by rfl) htk.out RTC.out k hk00.out hm0 hm0' BSC.out.size ?_;intro av3 cv3 w3 hown3 hk3;have RN3:=aA (jM hk3 HNC.out RNC.out);have BW3:=aA (gT BSC.out hk3 HBC.out);have O3:=aA hown3;clear hown3 hk3)
      | (refine cF (by rfl) (.tmp 20) (.tmp 23) 25 (by rfl) wr.heap.size 9 i1 Tryz.underlying25 ki kz0 kz1 kz2 (some ⟨wr.heap.size,0,none⟩) 0 0 [] (by rfl) OB.out (some ⟨g,0,none⟩) k c (ps.take k) (by rfl) htk.out RTB.out k hk00.out hm0 hm0' BSB.out.size ?_;intro av3 cv3 w3 hown3 hk3;have RN3:=aA (jM hk3 HNB.out RNB.out);have BW3:=aA (gT BSB.out hk3 HBB.out);have O3:=aA hown3;clear hown3 hk3)
      | (refine cF (by rfl) (.tmp 20) (.tmp 23) 25 (by rfl) wr.heap.size 9 i1 Tryz.underlying25 ki kz0 kz1 kz2 (some ⟨wr.heap.size,0,none⟩) 0 0 [] (by rfl) OA.out (some ⟨g,0,none⟩) k c (ps.take k) (by rfl) htk.out RTA.out k hk00.out hm0 hm0' BSA.out.size ?_;intro av3 cv3 w3 hown3 hk3;have BW3:=aA (gT BSA.out hk3 HBA.out);have O3:=aA hown3;clear hown3 hk3)
      | (refine cF (by rfl) (.tmp 24) (.tmp 26) 25 (by rfl) wr.heap.size 9 i1 Tryz.underlying25 ki kz0 kz1 kz2 av3 k cv3 (([]:List Bs)++ps.take k) (by rfl) O3.out (some ⟨wr.heap.size,0,none⟩) 1 1 [p] (by rfl) rfl RN3.out (k+1) rfl hm1 hm1' BW3.out.size ?_;intro av4 cv4 w4 hown4 hk4;have BW4:=aA (eI BW3.out hk4 O3.out);have O4:=aA hown4;clear hown4 hk4)
      | (refine cF (by rfl) (.tmp 24) (.tmp 26) 25 (by rfl) wr.heap.size 9 i1 Tryz.underlying25 ki kz0 kz1 kz2 av3 k cv3 (([]:List Bs)++ps.take k) (by rfl) O3.out (some ⟨wr.heap.size+1,0,none⟩) 1 1 [p] (by rfl) rfl RN3.out (k+1) rfl hm1 hm1' BW3.out.size ?_;intro av4 cv4 w4 hown4 hk4;have BW4:=aA (eI BW3.out hk4 O3.out);have O4:=aA hown4;clear hown4 hk4)
      | (refine cF (by rfl) (.tmp 24) (.tmp 26) 25 (by rfl) wr.heap.size 9 i1 Tryz.underlying25 ki kz0 kz1 kz2 av3 k cv3 (([]:List Bs)++ps.take k) (by rfl) (aJ O3.out (aC w3 (.cells #[.string (str p)] 9))) (some ⟨w3.heap.size,0,none⟩) 1 1 [p] (by rfl) rfl (fD w3 p) (k+1) rfl hm1 hm1' (aB BW3.out (aC w3 (.cells #[.string (str p)] 9))).size ?_;intro av4 cv4 w4 hown4 hk4;have BW4:=aA (eI (aB BW3.out (aC w3 (.cells #[.string (str p)] 9))) hk4 O3.out);have O4:=aA hown4;clear hown4 hk4)
      | (refine cF (by rfl) (.tmp 27) (.tmp 30) 25 (by rfl) wr.heap.size 9 i1 Tryz.underlying25 ki kz0 kz1 kz2 av4 (k+1) cv4 ((([]:List Bs)++ps.take k) ++ [p]) (by rfl) O4.out (some ⟨g,k,none⟩) (ps.length - k) (c - k) (ps.drop k) (by rfl) hdk.out (RD.out _ BW4.out) (ps.length+1) hN3.out hm2 hm2' BW4.out.size ?_;intro av5 cv5 w5 hown5 hk5;have BW5:=aA (eI BW4.out hk5 O4.out);have O5:=aA hown5;clear hown5 hk5)))
    all_goals
     go_wp2_with fail
     go_ret
     exact ⟨av5,cv5,by rw[HLen.out];rfl,by rw[HLen.out];exact vP O5.out HPut.out HLen.out,BW5.out⟩
   ·have HLk:=aA (show (ps.take (k+1)).all (fun x=>Op.bytesLess x p)=true from by
     rw[aM,aM]at hlo;rw[bQ HX.out];simp only[List.all_append,HL.out,List.all_cons,hlo,List.all_nil,Bool.and_self])
    go_wp2_with fail
    go_roundw
    case rel=>exact ⟨k+1,by omega,by go_num,(by first | rfl | trivial),HLk⟩
    case measure=>simp[intOf];omega
  ·have HLk:=aA (zg8 hk HL.out (fun y' hy'=>by have:=(List.getElem?_eq_some_iff.1 hy').1;omega))
   have hk1:¬ (k:Int)<(ps.length:Int):=by omega
   by_cases hck:c=k
   ·obtain rfl:k=c:=hck.symm
    have hkn:k=ps.length:=by omega
    have HPut:=aA (show fO ps p=ps.take k++p :: ps.drop k from by unfold fO;rw[HLk.out])
    have HLen:=aA (pQ ps p);have BSA:Hid (Below wr.heap.size wr ((wr.alloc (.cells #[] 9)).drew)):=aA (aC wr _).drew;have BSB:Hid (Below wr.heap.size wr (((wr.alloc (.cells #[] 9)).alloc (.cells #[.string (str p)] 9)).drew)):=aA (aB (aC wr _) (aC _ _)).drew;have BSC:Hid (Below wr.heap.size wr (((wr.alloc (.cells #[.string (str p)] 9)).alloc (.cells #[] 9)).drew)):=aA (aB (aC wr _) (aC _ _)).drew;have OA:Hid (((wr.alloc (.cells #[] 9)).drew).ownsRow wr.heap.size 9 1 (.slice (some ⟨wr.heap.size,0,none⟩) 0 0) 0 (([]:List Bs).map vS)):=aA (eX wr)
    have OB:Hid ((((wr.alloc (.cells #[] 9)).alloc (.cells #[.string (str p)] 9)).drew).ownsRow wr.heap.size 9 1 (.slice (some ⟨wr.heap.size,0,none⟩) 0 0) 0 (([]:List Bs).map vS)):=aA (aJ (eX wr) (aC _ _).drew);have OC:Hid ((((wr.alloc (.cells #[.string (str p)] 9)).alloc (.cells #[] 9)).drew).ownsRow wr.heap.size 9 1 (.slice (some ⟨wr.heap.size+1,0,none⟩) 0 0) 0 (([]:List Bs).map vS)):=aA (by have:=eX (wr.alloc (.cells #[.string (str p)] 9));rw[show (wr.alloc (.cells #[.string (str p)] 9)).heap.size=wr.heap.size+1 by simp]at this;exact aW this (by omega))
    have RNB:Hid (aU (((wr.alloc (.cells #[] 9)).alloc (.cells #[.string (str p)] 9)).drew) (some ⟨wr.heap.size+1,0,none⟩) [p]):=aA (by have:=fD (wr.alloc (.cells #[] 9)) p;rw[show (wr.alloc (.cells #[] 9)).heap.size=wr.heap.size+1 by simp]at this;exact this)
    have RNC:Hid (aU (((wr.alloc (.cells #[.string (str p)] 9)).alloc (.cells #[] 9)).drew) (some ⟨wr.heap.size,0,none⟩) [p]):=aA ((fD wr p).below (aC _ _).drew);have HNB:Hid (wr.heap.size+1≠wr.heap.size):=aA (by omega)
    have HNC:Hid (wr.heap.size≠wr.heap.size+1):=aA (by omega)
    have HBA:Hid (wr.heap.size≤wr.heap.size):=aA (Nat.le_refl _);have HBB:Hid (wr.heap.size≤wr.heap.size):=aA (Nat.le_refl _);have HBC:Hid (wr.heap.size≤wr.heap.size+1):=aA (by omega)
    have htk:Hid ((ps.take k).length=k):=aA (by rw[List.length_take];omega)
    have hk00:Hid (0+k=k):=aA (by omega)
    have hdk:Hid ((ps.drop k).length=0):=aA (by rw[List.length_drop];omega)
    have hN3:Hid (k+1+0=ps.length+1):=aA (by omega)
    have RTA:Hid (aU ((wr.alloc (.cells #[] 9)).drew) (some ⟨g,0,none⟩) (ps.take k)):=aA ((HR.out.below BSA.out).take k);have RTB:Hid (aU (((wr.alloc (.cells #[] 9)).alloc (.cells #[.string (str p)] 9)).drew) (some ⟨g,0,none⟩) (ps.take k)):=aA ((HR.out.below BSB.out).take k);have RTC:Hid (aU (((wr.alloc (.cells #[.string (str p)] 9)).alloc (.cells #[] 9)).drew) (some ⟨g,0,none⟩) (ps.take k)):=aA ((HR.out.below BSC.out).take k);have RD:Hid (∀ u:World,Below wr.heap.size wr u→aU u (some ⟨g,0,none⟩) (ps.drop k)):=aA (fun u hu=>by rw[List.drop_eq_nil_of_le (by omega)];exact aU.nil _ _)
    have hm0:0+k≤maxLen:=by unfold maxLen;omega
    have hm0':(0+k) * 16≤140737488355328:=by omega
    have hm1:k+1≤maxLen:=by unfold maxLen;omega
    have hm1':(k+1) * 16≤140737488355328:=by omega
    have hm2:k+1+0≤maxLen:=by unfold maxLen;omega
    have hm2':(k+1+0) * 16≤140737488355328:=by omega
    clear hkn;go_wp2_with fail
    go_region_law
     ((
      first
      | (refine cF (by rfl) (.tmp 20) (.tmp 23) 25 (by rfl) wr.heap.size 9 i1 Tryz.underlying25 ki kz0 kz1 kz2 (some ⟨wr.heap.size+1,0,none⟩) 0 0 [] (by rfl) OC.out (some ⟨g,0,none⟩) k k (ps.take k) (by rfl) htk.out RTC.out k hk00.out hm0 hm0' BSC.out.size ?_;intro av3 cv3 w3 hown3 hk3;have RN3:=aA (jM hk3 HNC.out RNC.out);have BW3:=aA (gT BSC.out hk3 HBC.out);have O3:=aA hown3;clear hown3 hk3)
      | (refine cF (by rfl) (.tmp 20) (.tmp 23) 25 (by rfl) wr.heap.size 9 i1 Tryz.underlying25 ki kz0 kz1 kz2 (some ⟨wr.heap.size,0,none⟩) 0 0 [] (by rfl) OB.out (some ⟨g,0,none⟩) k k (ps.take k) (by rfl) htk.out RTB.out k hk00.out hm0 hm0' BSB.out.size ?_;intro av3 cv3 w3 hown3 hk3;have RN3:=aA (jM hk3 HNB.out RNB.out);have BW3:=aA (gT BSB.out hk3 HBB.out);have O3:=aA hown3;clear hown3 hk3)
      | (refine cF (by rfl) (.tmp 20) (.tmp 23) 25 (by rfl) wr.heap.size 9 i1 Tryz.underlying25 ki kz0 kz1 kz2 (some ⟨wr.heap.size,0,none⟩) 0 0 [] (by rfl) OA.out (some ⟨g,0,none⟩) k k (ps.take k) (by rfl) htk.out RTA.out k hk00.out hm0 hm0' BSA.out.size ?_;intro av3 cv3 w3 hown3 hk3;have BW3:=aA (gT BSA.out hk3 HBA.out);have O3:=aA hown3;clear hown3 hk3)
      | (refine cF (by rfl) (.tmp 24) (.tmp 26) 25 (by rfl) wr.heap.size 9 i1 Tryz.underlying25 ki kz0 kz1 kz2 av3 k cv3 (([]:List Bs)++ps.take k) (by rfl) O3.out (some ⟨wr.heap.size,0,none⟩) 1 1 [p] (by rfl) rfl RN3.out (k+1) rfl hm1 hm1' BW3.out.size ?_;intro av4 cv4 w4 hown4 hk4;have BW4:=aA (eI BW3.out hk4 O3.out);have O4:=aA hown4;clear hown4 hk4)
      | (refine cF (by rfl) (.tmp 24) (.tmp 26) 25 (by rfl) wr.heap.size 9 i1 Tryz.underlying25 ki kz0 kz1 kz2 av3 k cv3 (([]:List Bs)++ps.take k) (by rfl) O3.out (some ⟨wr.heap.size+1,0,none⟩) 1 1 [p] (by rfl) rfl RN3.out (k+1) rfl hm1 hm1' BW3.out.size ?_;intro av4 cv4 w4 hown4 hk4;have BW4:=aA (eI BW3.out hk4 O3.out);have O4:=aA hown4;clear hown4 hk4)
      | (refine cF (by rfl) (.tmp 24) (.tmp 26) 25 (by rfl) wr.heap.size 9 i1 Tryz.underlying25 ki kz0 kz1 kz2 av3 k cv3 (([]:List Bs)++ps.take k) (by rfl) (aJ O3.out (aC w3 (.cells #[.string (str p)] 9))) (some ⟨w3.heap.size,0,none⟩) 1 1 [p] (by rfl) rfl (fD w3 p) (k+1) rfl hm1 hm1' (aB BW3.out (aC w3 (.cells #[.string (str p)] 9))).size ?_;intro av4 cv4 w4 hown4 hk4;have BW4:=aA (eI (aB BW3.out (aC w3 (.cells #[.string (str p)] 9))) hk4 O3.out);have O4:=aA hown4;clear hown4 hk4)
      | (refine cF (by rfl) (.tmp 27) (.tmp 30) 25 (by rfl) wr.heap.size 9 i1 Tryz.underlying25 ki kz0 kz1 kz2 av4 (k+1) cv4 ((([]:List Bs)++ps.take k) ++ [p]) (by rfl) O4.out (some ⟨g,0,none⟩) 0 0 (ps.drop k) (by rfl) hdk.out (RD.out _ BW4.out) (ps.length+1) hN3.out hm2 hm2' BW4.out.size ?_;intro av5 cv5 w5 hown5 hk5;have BW5:=aA (eI BW4.out hk5 O4.out);have O5:=aA hown5;clear hown5 hk5)))
    all_goals
     go_wp2_with fail
     go_ret
     exact ⟨av5,cv5,by rw[HLen.out];rfl,by rw[HLen.out];exact vP O5.out HPut.out HLen.out,BW5.out⟩
   ·have hck2:¬ c=k:=hck
    have HPut:=aA (show fO ps p=ps.take k++p :: ps.drop k from by unfold fO;rw[HLk.out])
    have HLen:=aA (pQ ps p);have BSA:Hid (Below wr.heap.size wr ((wr.alloc (.cells #[] 9)).drew)):=aA (aC wr _).drew;have BSB:Hid (Below wr.heap.size wr (((wr.alloc (.cells #[] 9)).alloc (.cells #[.string (str p)] 9)).drew)):=aA (aB (aC wr _) (aC _ _)).drew;have BSC:Hid (Below wr.heap.size wr (((wr.alloc (.cells #[.string (str p)] 9)).alloc (.cells #[] 9)).drew)):=aA (aB (aC wr _) (aC _ _)).drew;have OA:Hid (((wr.alloc (.cells #[] 9)).drew).ownsRow wr.heap.size 9 1 (.slice (some ⟨wr.heap.size,0,none⟩) 0 0) 0 (([]:List Bs).map vS)):=aA (eX wr)
    have OB:Hid ((((wr.alloc (.cells #[] 9)).alloc (.cells #[.string (str p)] 9)).drew).ownsRow wr.heap.size 9 1 (.slice (some ⟨wr.heap.size,0,none⟩) 0 0) 0 (([]:List Bs).map vS)):=aA (aJ (eX wr) (aC _ _).drew);have OC:Hid ((((wr.alloc (.cells #[.string (str p)] 9)).alloc (.cells #[] 9)).drew).ownsRow wr.heap.size 9 1 (.slice (some ⟨wr.heap.size+1,0,none⟩) 0 0) 0 (([]:List Bs).map vS)):=aA (by have:=eX (wr.alloc (.cells #[.string (str p)] 9));rw[show (wr.alloc (.cells #[.string (str p)] 9)).heap.size=wr.heap.size+1 by simp]at this;exact aW this (by omega))
    have RNB:Hid (aU (((wr.alloc (.cells #[] 9)).alloc (.cells #[.string (str p)] 9)).drew) (some ⟨wr.heap.size+1,0,none⟩) [p]):=aA (by have:=fD (wr.alloc (.cells #[] 9)) p;rw[show (wr.alloc (.cells #[] 9)).heap.size=wr.heap.size+1 by simp]at this;exact this)
    have RNC:Hid (aU (((wr.alloc (.cells #[.string (str p)] 9)).alloc (.cells #[] 9)).drew) (some ⟨wr.heap.size,0,none⟩) [p]):=aA ((fD wr p).below (aC _ _).drew);have HNB:Hid (wr.heap.size+1≠wr.heap.size):=aA (by omega)
    have HNC:Hid (wr.heap.size≠wr.heap.size+1):=aA (by omega)
    have HBA:Hid (wr.heap.size≤wr.heap.size):=aA (Nat.le_refl _);have HBB:Hid (wr.heap.size≤wr.heap.size):=aA (Nat.le_refl _);have HBC:Hid (wr.heap.size≤wr.heap.size+1):=aA (by omega)
    have htk:Hid ((ps.take k).length=k):=aA (by rw[List.length_take];omega)
    have hk00:Hid (0+k=k):=aA (by omega)
    have hdk:Hid ((ps.drop k).length=(ps.length - k)):=aA (by rw[List.length_drop])
    have hN3:Hid (k+1+(ps.length - k)=ps.length+1):=aA (by omega)
    have RTA:Hid (aU ((wr.alloc (.cells #[] 9)).drew) (some ⟨g,0,none⟩) (ps.take k)):=aA ((HR.out.below BSA.out).take k);have RTB:Hid (aU (((wr.alloc (.cells #[] 9)).alloc (.cells #[.string (str p)] 9)).drew) (some ⟨g,0,none⟩) (ps.take k)):=aA ((HR.out.below BSB.out).take k);have RTC:Hid (aU (((wr.alloc (.cells #[.string (str p)] 9)).alloc (.cells #[] 9)).drew) (some ⟨g,0,none⟩) (ps.take k)):=aA ((HR.out.below BSC.out).take k);have RD:Hid (∀ u:World,Below wr.heap.size wr u→aU u (some ⟨g,k,none⟩) (ps.drop k)):=aA (fun u hu=>(HR.out.below hu).drop k)
    have hm0:0+k≤maxLen:=by unfold maxLen;omega
    have hm0':(0+k) * 16≤140737488355328:=by omega
    have hm1:k+1≤maxLen:=by unfold maxLen;omega
    have hm1':(k+1) * 16≤140737488355328:=by omega
    have hm2:k+1+(ps.length - k)≤maxLen:=by unfold maxLen;omega
    have hm2':(k+1+(ps.length - k)) * 16≤140737488355328:=by omega
    go_wp2_with fail
    go_region_law
     ((
      first
      | (refine cF (by rfl) (.tmp 20) (.tmp 23) 25 (by rfl) wr.heap.size 9 i1 Tryz.underlying25 ki kz0 kz1 kz2 (some ⟨wr.heap.size+1,0,none⟩) 0 0 [] (by rfl) OC.out (some ⟨g,0,none⟩) k c (ps.take k) (by rfl) htk.out RTC.out k hk00.out hm0 hm0' BSC.out.size ?_;intro av3 cv3 w3 hown3 hk3;have RN3:=aA (jM hk3 HNC.out RNC.out);have BW3:=aA (gT BSC.out hk3 HBC.out);have O3:=aA hown3;clear hown3 hk3)
      | (refine cF (by rfl) (.tmp 20) (.tmp 23) 25 (by rfl) wr.heap.size 9 i1 Tryz.underlying25 ki kz0 kz1 kz2 (some ⟨wr.heap.size,0,none⟩) 0 0 [] (by rfl) OB.out (some ⟨g,0,none⟩) k c (ps.take k) (by rfl) htk.out RTB.out k hk00.out hm0 hm0' BSB.out.size ?_;intro av3 cv3 w3 hown3 hk3;have RN3:=aA (jM hk3 HNB.out RNB.out);have BW3:=aA (gT BSB.out hk3 HBB.out);have O3:=aA hown3;clear hown3 hk3)
      | (refine cF (by rfl) (.tmp 20) (.tmp 23) 25 (by rfl) wr.heap.size 9 i1 Tryz.underlying25 ki kz0 kz1 kz2 (some ⟨wr.heap.size,0,none⟩) 0 0 [] (by rfl) OA.out (some ⟨g,0,none⟩) k c (ps.take k) (by rfl) htk.out RTA.out k hk00.out hm0 hm0' BSA.out.size ?_;intro av3 cv3 w3 hown3 hk3;have BW3:=aA (gT BSA.out hk3 HBA.out);have O3:=aA hown3;clear hown3 hk3)
      | (refine cF (by rfl) (.tmp 24) (.tmp 26) 25 (by rfl) wr.heap.size 9 i1 Tryz.underlying25 ki kz0 kz1 kz2 av3 k cv3 (([]:List Bs)++ps.take k) (by rfl) O3.out (some ⟨wr.heap.size,0,none⟩) 1 1 [p] (by rfl) rfl RN3.out (k+1) rfl hm1 hm1' BW3.out.size ?_;intro av4 cv4 w4 hown4 hk4;have BW4:=aA (eI BW3.out hk4 O3.out);have O4:=aA hown4;clear hown4 hk4)
      | (refine cF (by rfl) (.tmp 24) (.tmp 26) 25 (by rfl) wr.heap.size 9 i1 Tryz.underlying25 ki kz0 kz1 kz2 av3 k cv3 (([]:List Bs)++ps.take k) (by rfl) O3.out (some ⟨wr.heap.size+1,0,none⟩) 1 1 [p] (by rfl) rfl RN3.out (k+1) rfl hm1 hm1' BW3.out.size ?_;intro av4 cv4 w4 hown4 hk4;have BW4:=aA (eI BW3.out hk4 O3.out);have O4:=aA hown4;clear hown4 hk4)
      | (refine cF (by rfl) (.tmp 24) (.tmp 26) 25 (by rfl) wr.heap.size 9 i1 Tryz.underlying25 ki kz0 kz1 kz2 av3 k cv3 (([]:List Bs)++ps.take k) (by rfl) (aJ O3.out (aC w3 (.cells #[.string (str p)] 9))) (some ⟨w3.heap.size,0,none⟩) 1 1 [p] (by rfl) rfl (fD w3 p) (k+1) rfl hm1 hm1' (aB BW3.out (aC w3 (.cells #[.string (str p)] 9))).size ?_;intro av4 cv4 w4 hown4 hk4;have BW4:=aA (eI (aB BW3.out (aC w3 (.cells #[.string (str p)] 9))) hk4 O3.out);have O4:=aA hown4;clear hown4 hk4)
      | (refine cF (by rfl) (.tmp 27) (.tmp 30) 25 (by rfl) wr.heap.size 9 i1 Tryz.underlying25 ki kz0 kz1 kz2 av4 (k+1) cv4 ((([]:List Bs)++ps.take k) ++ [p]) (by rfl) O4.out (some ⟨g,k,none⟩) (ps.length - k) (c - k) (ps.drop k) (by rfl) hdk.out (RD.out _ BW4.out) (ps.length+1) hN3.out hm2 hm2' BW4.out.size ?_;intro av5 cv5 w5 hown5 hk5;have BW5:=aA (eI BW4.out hk5 O4.out);have O5:=aA hown5;clear hown5 hk5)))
    all_goals
     go_wp2_with fail
     go_ret
     exact ⟨av5,cv5,by rw[HLen.out];rfl,by rw[HLen.out];exact vP O5.out HPut.out HLen.out,BW5.out⟩
theorem zyc (p:Bs) (w:World) :
  Calls Tryz.prog 278 #[.slice none 0 0,.string (str p)] w fun r w'=>∃ av cv,r=.returned (.slice av (fO [] p).length cv)∧bR w.heap.size w' (.slice av (fO [] p).length cv) (fO [] p)∧Below w.heap.size w w':=by
 obtain ⟨i1,ki,kz0,kz1,kz2⟩:=info_parts mI;obtain ⟨ps,hps⟩:∃ ps:List Bs,ps=[]:=⟨_,rfl⟩;obtain ⟨k,hk⟩:∃ k:Nat,k=0:=⟨_,rfl⟩;rw[←hps];have hpl:ps.length=0:=by rw[hps];rfl
 have HLk:=aA (show sH ps p=k from by rw[hps,hk];rfl)
 have HR:=aA (show aU w none ps from by rw[hps];exact aU.nil _ _)
 clear hps;have HPut:=aA (show fO ps p=ps.take k++p :: ps.drop k from by unfold fO;rw[HLk.out])
 have HLen:=aA (pQ ps p);have BSA:Hid (Below w.heap.size w ((w.alloc (.cells #[] 9)).drew)):=aA (aC w _).drew;have BSB:Hid (Below w.heap.size w (((w.alloc (.cells #[] 9)).alloc (.cells #[.string (str p)] 9)).drew)):=aA (aB (aC w _) (aC _ _)).drew;have BSC:Hid (Below w.heap.size w (((w.alloc (.cells #[.string (str p)] 9)).alloc (.cells #[] 9)).drew)):=aA (aB (aC w _) (aC _ _)).drew;have OA:Hid (((w.alloc (.cells #[] 9)).drew).ownsRow w.heap.size 9 1 (.slice (some ⟨w.heap.size,0,none⟩) 0 0) 0 (([]:List Bs).map vS)):=aA (eX w)
 have OB:Hid ((((w.alloc (.cells #[] 9)).alloc (.cells #[.string (str p)] 9)).drew).ownsRow w.heap.size 9 1 (.slice (some ⟨w.heap.size,0,none⟩) 0 0) 0 (([]:List Bs).map vS)):=aA (aJ (eX w) (aC _ _).drew);have OC:Hid ((((w.alloc (.cells #[.string (str p)] 9)).alloc (.cells #[] 9)).drew).ownsRow w.heap.size 9 1 (.slice (some ⟨w.heap.size+1,0,none⟩) 0 0) 0 (([]:List Bs).map vS)):=aA (by have:=eX (w.alloc (.cells #[.string (str p)] 9));rw[show (w.alloc (.cells #[.string (str p)] 9)).heap.size=w.heap.size+1 by simp]at this;exact aW this (by omega))
 have RNB:Hid (aU (((w.alloc (.cells #[] 9)).alloc (.cells #[.string (str p)] 9)).drew) (some ⟨w.heap.size+1,0,none⟩) [p]):=aA (by have:=fD (w.alloc (.cells #[] 9)) p;rw[show (w.alloc (.cells #[] 9)).heap.size=w.heap.size+1 by simp]at this;exact this)
 have RNC:Hid (aU (((w.alloc (.cells #[.string (str p)] 9)).alloc (.cells #[] 9)).drew) (some ⟨w.heap.size,0,none⟩) [p]):=aA ((fD w p).below (aC _ _).drew);have HNB:Hid (w.heap.size+1≠w.heap.size):=aA (by omega)
 have HNC:Hid (w.heap.size≠w.heap.size+1):=aA (by omega)
 have HBA:Hid (w.heap.size≤w.heap.size):=aA (Nat.le_refl _);have HBB:Hid (w.heap.size≤w.heap.size):=aA (Nat.le_refl _);have HBC:Hid (w.heap.size≤w.heap.size+1):=aA (by omega)
 have htk:Hid ((ps.take k).length=0):=aA (by rw[List.length_take];omega)
 have hk00:Hid (0+0=0):=aA (by omega)
 have hdk:Hid ((ps.drop k).length=0):=aA (by rw[List.length_drop];omega)
 have hN3:Hid (0+1+0=ps.length+1):=aA (by omega)
 have RTA:Hid (aU ((w.alloc (.cells #[] 9)).drew) none (ps.take k)):=aA ((HR.out.below BSA.out).take k);have RTB:Hid (aU (((w.alloc (.cells #[] 9)).alloc (.cells #[.string (str p)] 9)).drew) none (ps.take k)):=aA ((HR.out.below BSB.out).take k);have RTC:Hid (aU (((w.alloc (.cells #[.string (str p)] 9)).alloc (.cells #[] 9)).drew) none (ps.take k)):=aA ((HR.out.below BSC.out).take k);have RD:Hid (∀ u:World,Below w.heap.size w u→aU u none (ps.drop k)):=aA (fun u hu=>by rw[List.drop_eq_nil_of_le (by omega)];exact aU.nil _ _)
 have hm0:0+0≤maxLen:=by unfold maxLen;omega
 have hm0':(0+0) * 16≤140737488355328:=by omega
 have hm1:0+1≤maxLen:=by unfold maxLen;omega
 have hm1':(0+1) * 16≤140737488355328:=by omega
 have hm2:0+1+0≤maxLen:=by unfold maxLen;omega
 have hm2':(0+1+0) * 16≤140737488355328:=by omega
 rw[hk]at *;clear hk hpl;go_enter Tryz.func278,Tryz.ntmps278;go_wp2_with fail
 go_loopw [5] (fun i w9=>i=.int .i64 0∧w9=w) (fun _ _=>0)
 case atStart=>exact ⟨rfl,rfl⟩
 case round =>
  obtain ⟨rfl,hw9⟩:=hrel;subst hw9;go_wp2_with fail
  go_region_law
   ((
    first
    | (refine cF (by rfl) (.tmp 20) (.tmp 23) 25 (by rfl) wr.heap.size 9 i1 Tryz.underlying25 ki kz0 kz1 kz2 (some ⟨wr.heap.size+1,0,none⟩) 0 0 [] (by rfl) OC.out none 0 0 (ps.take 0) (by rfl) htk.out RTC.out 0 rfl hm0 hm0' BSC.out.size ?_;intro av3 cv3 w3 hown3 hk3;have RN3:=aA (jM hk3 HNC.out RNC.out);have BW3:=aA (gT BSC.out hk3 HBC.out);have O3:=aA hown3;clear hown3 hk3)
    | (refine cF (by rfl) (.tmp 20) (.tmp 23) 25 (by rfl) wr.heap.size 9 i1 Tryz.underlying25 ki kz0 kz1 kz2 (some ⟨wr.heap.size,0,none⟩) 0 0 [] (by rfl) OB.out none 0 0 (ps.take 0) (by rfl) htk.out RTB.out 0 rfl hm0 hm0' BSB.out.size ?_;intro av3 cv3 w3 hown3 hk3;have RN3:=aA (jM hk3 HNB.out RNB.out);have BW3:=aA (gT BSB.out hk3 HBB.out);have O3:=aA hown3;clear hown3 hk3)
    | (refine cF (by rfl) (.tmp 20) (.tmp 23) 25 (by rfl) wr.heap.size 9 i1 Tryz.underlying25 ki kz0 kz1 kz2 (some ⟨wr.heap.size,0,none⟩) 0 0 [] (by rfl) OA.out none 0 0 (ps.take 0) (by rfl) htk.out RTA.out 0 rfl hm0 hm0' BSA.out.size ?_;intro av3 cv3 w3 hown3 hk3;have BW3:=aA (gT BSA.out hk3 HBA.out);have O3:=aA hown3;clear hown3 hk3)
    | (refine cF (by rfl) (.tmp 24) (.tmp 26) 25 (by rfl) wr.heap.size 9 i1 Tryz.underlying25 ki kz0 kz1 kz2 av3 0 cv3 (([]:List Bs)++ps.take 0) (by rfl) O3.out (some ⟨wr.heap.size,0,none⟩) 1 1 [p] (by rfl) rfl RN3.out (0+1) rfl hm1 hm1' BW3.out.size ?_;intro av4 cv4 w4 hown4 hk4;have BW4:=aA (eI BW3.out hk4 O3.out);have O4:=aA hown4;clear hown4 hk4)
    | (refine cF (by rfl) (.tmp 24) (.tmp 26) 25 (by rfl) wr.heap.size 9 i1 Tryz.underlying25 ki kz0 kz1 kz2 av3 0 cv3 (([]:List Bs)++ps.take 0) (by rfl) O3.out (some ⟨wr.heap.size+1,0,none⟩) 1 1 [p] (by rfl) rfl RN3.out (0+1) rfl hm1 hm1' BW3.out.size ?_;intro av4 cv4 w4 hown4 hk4;have BW4:=aA (eI BW3.out hk4 O3.out);have O4:=aA hown4;clear hown4 hk4)
    | (refine cF (by rfl) (.tmp 24) (.tmp 26) 25 (by rfl) wr.heap.size 9 i1 Tryz.underlying25 ki kz0 kz1 kz2 av3 0 cv3 (([]:List Bs)++ps.take 0) (by rfl) (aJ O3.out (aC w3 (.cells #[.string (str p)] 9))) (some ⟨w3.heap.size,0,none⟩) 1 1 [p] (by rfl) rfl (fD w3 p) (0+1) rfl hm1 hm1' (aB BW3.out (aC w3 (.cells #[.string (str p)] 9))).size ?_;intro av4 cv4 w4 hown4 hk4;have BW4:=aA (eI (aB BW3.out (aC w3 (.cells #[.string (str p)] 9))) hk4 O3.out);have O4:=aA hown4;clear hown4 hk4)
    | (refine cF (by rfl) (.tmp 27) (.tmp 30) 25 (by rfl) wr.heap.size 9 i1 Tryz.underlying25 ki kz0 kz1 kz2 av4 (0+1) cv4 ((([]:List Bs)++ps.take 0) ++ [p]) (by rfl) O4.out none 0 0 (ps.drop 0) (by rfl) hdk.out (RD.out _ BW4.out) (ps.length+1) hN3.out hm2 hm2' BW4.out.size ?_;intro av5 cv5 w5 hown5 hk5;have BW5:=aA (eI BW4.out hk5 O4.out);have O5:=aA hown5;clear hown5 hk5)))
  all_goals
   go_wp2_with fail
   go_ret
   exact ⟨av5,cv5,by rw[HLen.out];rfl,by rw[HLen.out];exact vP O5.out HPut.out HLen.out,BW5.out⟩
theorem zxc (a:Option Addr) (c n:Nat) (ps:List Bs) (p:Bs) (w:World) {B:Nat} (h:bR B w (.slice a n c) ps) (hn:n=ps.length) (hl:ps.length≤1048576) :
  Calls Tryz.prog 278 #[.slice a n c,.string (str p)] w fun r w'=>∃ av cv,r=.returned (.slice av (fO ps p).length cv)∧bR w.heap.size w' (.slice av (fO ps p).length cv) (fO ps p)∧Below w.heap.size w w':=by
 subst hn;have hr:=h.reads;have hc:=h.cap rfl;rcases h.2 with ⟨h',hh⟩ | ⟨g,cap,cur,h',-⟩
 ·simp only[Value.slice.injEq]at h'
  obtain ⟨rfl,h0,rfl⟩:=h';obtain rfl:ps=[]:=List.eq_nil_of_length_eq_zero h0;exact zyc p w
 ·simp only[Value.slice.injEq,true_and]at h'
  obtain ⟨rfl,rfl⟩:=h';exact zga g c ps p w hr hc hl
end Go.Proofs.YtgaeikgoknoamaaGreat
namespace Go.Proofs.YtgaeikgoknoamaaGreat
open Go.RowKit Go.Maps
attribute [local go_sem ↓] Go.wp_at_zero Go.wp_at_succ
theorem zd4 (a:Option Addr) (c n:Nat) (es:List En) (p:Bs) (w:World) (h:RdE w a es) (hn:n=es.length) (hl:es.length≤1048576) (hp:aG p=0) (hpl:p.length≤1048576) (ha:atE es p=none) :
  Calls Tryz.prog 276 #[.slice a n c,.string (str p)] w fun r w'=>r=.returned (.int .i64 (eS es p))∧Below w.heap.size w w':=by
 subst hn;have HOV:=aA (sC a c es.length es p w h rfl hl hp hpl);have HAT:Hid (∀ w',Below w.heap.size w w'→Calls Tryz.prog 189 #[.slice a es.length c,.string (str p)] w' fun r w2=>r=.returned (.int .i64 (-1))∧w2=w'):=aA (fun w' hb=>by have h1:=gU a c es.length es p w' (h.below hb) rfl hl;rw[ha]at h1;exact h1)
 have h0:p≠[]:=by intro e;rw[e]at hp;simp[aG]at hp
 have hs0:((str p).toList == [])=false:=by rw[aM];simp[h0]
 have hrk:=qF (gJ ha);clear h ha h0;rcases oS es (bM p) with ho | ho | ho
 ·have HZ:=aA (show eS es p=0 by simp[eS,ho,hrk])
  rw[ho]at HOV;clear ho hrk hp;go_enter Tryz.func276,Tryz.ntmps276;go_wp2_with fail
  refine HOV.out.mono ?_;rintro r w1 ⟨rfl,hb1⟩;have B1:=aA hb1;clear hb1;go_wp2_with fail
  refine (HAT.out w1 B1.out).mono ?_;rintro r w2 ⟨rfl,rfl⟩;go_wp2_with fail
  go_ret
  exact ⟨by rw[HZ.out];rfl,B1.out⟩
 ·have HZ:=aA (show eS es p=1 by simp[eS,ho,hrk])
  rw[ho]at HOV;clear ho hrk hp;go_enter Tryz.func276,Tryz.ntmps276;go_wp2_with fail
  refine HOV.out.mono ?_;rintro r w1 ⟨rfl,hb1⟩;have B1:=aA hb1;clear hb1;go_wp2_with fail
  refine (HAT.out w1 B1.out).mono ?_;rintro r w2 ⟨rfl,rfl⟩;go_wp2_with fail
  go_ret
  exact ⟨by rw[HZ.out];rfl,B1.out⟩
 ·have HZ:=aA (show eS es p=2 by simp[eS,ho,hrk])
  rw[ho]at HOV;clear ho hrk hp;go_enter Tryz.func276,Tryz.ntmps276;go_wp2_with fail
  refine HOV.out.mono ?_;rintro r w1 ⟨rfl,hb1⟩;have B1:=aA hb1;clear hb1;go_wp2_with fail
  refine (HAT.out w1 B1.out).mono ?_;rintro r w2 ⟨rfl,rfl⟩;go_wp2_with fail
  go_ret
  exact ⟨by rw[HZ.out];rfl,B1.out⟩
theorem ze4 (a:Option Addr) (c n:Nat) (es:List En) (p:Bs) (m:Nat) (w:World) (h:RdE w a es) (hn:n=es.length) (hl:es.length≤1048576) (hRi:bD es) (hp:aG p=0) (hpl:p.length≤1048576) (ha:atE es p=some m) :
  Calls Tryz.prog 276 #[.slice a n c,.string (str p)] w fun r w'=>r=.returned (.int .i64 (eS es p))∧Below w.heap.size w w':=by
 subst hn;have HOV:=aA (sC a c es.length es p w h rfl hl hp hpl);have HAT:Hid (∀ w',Below w.heap.size w w'→Calls Tryz.prog 189 #[.slice a es.length c,.string (str p)] w' fun r w2=>r=.returned (.int .i64 m)∧w2=w'):=aA (fun w' hb=>by have h1:=gU a c es.length es p w' (h.below hb) rfl hl;rw[ha]at h1;exact h1)
 have h0:p≠[]:=by intro e;rw[e]at hp;simp[aG]at hp
 have hs0:((str p).toList == [])=false:=by rw[aM];simp[h0]
 obtain ⟨e,he,hf⟩:=kK ha;have hm:=nO ha;obtain ⟨bb,off2,e',x,cc,rfl,hb2,he',c0,c1,c2,c3,hr⟩:=h.at hm;have:e'=e:=Option.some.inj (he'.symm.trans he);subst this;have hkk:=kJ (hRi.ent e' (List.mem_of_getElem? he));have hk0:¬ (m:Int)<0:=by omega
 have hk2:(0:Int)≤(m:Int):=by omega
 have hk1:(m:Int)<(es.length:Int):=by omega
 clear h ha h0 he he' hr c0 c2 c3 hRi;rcases hkk with hk | hk | hk | hk <;> rcases oS es (bM p) with ho | ho | ho
 ·have HZ:=aA (show eS es p=2 by simp[eS,ho,cO,hf,hk])
  rw[ho]at HOV;rw[hk]at c1;clear ho hk hp hf;go_enter Tryz.func276,Tryz.ntmps276;go_wp2_with fail
  refine HOV.out.mono ?_;rintro r w1 ⟨rfl,hb1⟩;have B1:=aA hb1;have c1':=(hb1.cell (p:=⟨bb,off2+m * 4+1,none⟩) hb2).trans c1;clear hb1 c1;go_wp2_with fail
  refine (HAT.out w1 B1.out).mono ?_;rintro r w2 ⟨rfl,rfl⟩;go_wp2_with (go_at_call 190;refine (cR _ _ 1 _ c1').mono ?_;rintro r w3 ⟨rfl,rfl⟩;rw[show cG 1=false from rfl])
  go_ret
  exact ⟨by rw[HZ.out];rfl,B1.out⟩
 ·have HZ:=aA (show eS es p=2 by simp[eS,ho,cO,hf,hk])
  rw[ho]at HOV;rw[hk]at c1;clear ho hk hp hf;go_enter Tryz.func276,Tryz.ntmps276;go_wp2_with fail
  refine HOV.out.mono ?_;rintro r w1 ⟨rfl,hb1⟩;have B1:=aA hb1;have c1':=(hb1.cell (p:=⟨bb,off2+m * 4+1,none⟩) hb2).trans c1;clear hb1 c1;go_wp2_with fail
  refine (HAT.out w1 B1.out).mono ?_;rintro r w2 ⟨rfl,rfl⟩;go_wp2_with (go_at_call 190;refine (cR _ _ 1 _ c1').mono ?_;rintro r w3 ⟨rfl,rfl⟩;rw[show cG 1=false from rfl])
  go_ret
  exact ⟨by rw[HZ.out];rfl,B1.out⟩
 ·have HZ:=aA (show eS es p=2 by simp[eS,ho,cO,hf,hk])
  rw[ho]at HOV;rw[hk]at c1;clear ho hk hp hf;go_enter Tryz.func276,Tryz.ntmps276;go_wp2_with fail
  refine HOV.out.mono ?_;rintro r w1 ⟨rfl,hb1⟩;have B1:=aA hb1;have c1':=(hb1.cell (p:=⟨bb,off2+m * 4+1,none⟩) hb2).trans c1;clear hb1 c1;go_wp2_with fail
  refine (HAT.out w1 B1.out).mono ?_;rintro r w2 ⟨rfl,rfl⟩;go_wp2_with (go_at_call 190;refine (cR _ _ 1 _ c1').mono ?_;rintro r w3 ⟨rfl,rfl⟩;rw[show cG 1=false from rfl])
  go_ret
  exact ⟨by rw[HZ.out];rfl,B1.out⟩
 ·have HZ:=aA (show eS es p=0 by simp[eS,ho,cO,hf,hk])
  rw[ho]at HOV;rw[hk]at c1;clear ho hk hp hf;go_enter Tryz.func276,Tryz.ntmps276;go_wp2_with fail
  refine HOV.out.mono ?_;rintro r w1 ⟨rfl,hb1⟩;have B1:=aA hb1;have c1':=(hb1.cell (p:=⟨bb,off2+m * 4+1,none⟩) hb2).trans c1;clear hb1 c1;go_wp2_with fail
  refine (HAT.out w1 B1.out).mono ?_;rintro r w2 ⟨rfl,rfl⟩;go_wp2_with (go_at_call 190;refine (cR _ _ 2 _ c1').mono ?_;rintro r w3 ⟨rfl,rfl⟩;rw[show cG 2=true from rfl])
  go_ret
  exact ⟨by rw[HZ.out];rfl,B1.out⟩
 ·have HZ:=aA (show eS es p=1 by simp[eS,ho,cO,hf,hk])
  rw[ho]at HOV;rw[hk]at c1;clear ho hk hp hf;go_enter Tryz.func276,Tryz.ntmps276;go_wp2_with fail
  refine HOV.out.mono ?_;rintro r w1 ⟨rfl,hb1⟩;have B1:=aA hb1;have c1':=(hb1.cell (p:=⟨bb,off2+m * 4+1,none⟩) hb2).trans c1;clear hb1 c1;go_wp2_with fail
  refine (HAT.out w1 B1.out).mono ?_;rintro r w2 ⟨rfl,rfl⟩;go_wp2_with (go_at_call 190;refine (cR _ _ 2 _ c1').mono ?_;rintro r w3 ⟨rfl,rfl⟩;rw[show cG 2=true from rfl])
  go_ret
  exact ⟨by rw[HZ.out];rfl,B1.out⟩
 ·have HZ:=aA (show eS es p=2 by simp[eS,ho,cO,hf,hk])
  rw[ho]at HOV;rw[hk]at c1;clear ho hk hp hf;go_enter Tryz.func276,Tryz.ntmps276;go_wp2_with fail
  refine HOV.out.mono ?_;rintro r w1 ⟨rfl,hb1⟩;have B1:=aA hb1;have c1':=(hb1.cell (p:=⟨bb,off2+m * 4+1,none⟩) hb2).trans c1;clear hb1 c1;go_wp2_with fail
  refine (HAT.out w1 B1.out).mono ?_;rintro r w2 ⟨rfl,rfl⟩;go_wp2_with (go_at_call 190;refine (cR _ _ 2 _ c1').mono ?_;rintro r w3 ⟨rfl,rfl⟩;rw[show cG 2=true from rfl])
  go_ret
  exact ⟨by rw[HZ.out];rfl,B1.out⟩
 ·have HZ:=aA (show eS es p=2 by simp[eS,ho,cO,hf,hk])
  rw[ho]at HOV;rw[hk]at c1;clear ho hk hp hf;go_enter Tryz.func276,Tryz.ntmps276;go_wp2_with fail
  refine HOV.out.mono ?_;rintro r w1 ⟨rfl,hb1⟩;have B1:=aA hb1;have c1':=(hb1.cell (p:=⟨bb,off2+m * 4+1,none⟩) hb2).trans c1;clear hb1 c1;go_wp2_with fail
  refine (HAT.out w1 B1.out).mono ?_;rintro r w2 ⟨rfl,rfl⟩;go_wp2_with (go_at_call 190;refine (cR _ _ 3 _ c1').mono ?_;rintro r w3 ⟨rfl,rfl⟩;rw[show cG 3=false from rfl])
  go_ret
  exact ⟨by rw[HZ.out];rfl,B1.out⟩
 ·have HZ:=aA (show eS es p=2 by simp[eS,ho,cO,hf,hk])
  rw[ho]at HOV;rw[hk]at c1;clear ho hk hp hf;go_enter Tryz.func276,Tryz.ntmps276;go_wp2_with fail
  refine HOV.out.mono ?_;rintro r w1 ⟨rfl,hb1⟩;have B1:=aA hb1;have c1':=(hb1.cell (p:=⟨bb,off2+m * 4+1,none⟩) hb2).trans c1;clear hb1 c1;go_wp2_with fail
  refine (HAT.out w1 B1.out).mono ?_;rintro r w2 ⟨rfl,rfl⟩;go_wp2_with (go_at_call 190;refine (cR _ _ 3 _ c1').mono ?_;rintro r w3 ⟨rfl,rfl⟩;rw[show cG 3=false from rfl])
  go_ret
  exact ⟨by rw[HZ.out];rfl,B1.out⟩
 ·have HZ:=aA (show eS es p=2 by simp[eS,ho,cO,hf,hk])
  rw[ho]at HOV;rw[hk]at c1;clear ho hk hp hf;go_enter Tryz.func276,Tryz.ntmps276;go_wp2_with fail
  refine HOV.out.mono ?_;rintro r w1 ⟨rfl,hb1⟩;have B1:=aA hb1;have c1':=(hb1.cell (p:=⟨bb,off2+m * 4+1,none⟩) hb2).trans c1;clear hb1 c1;go_wp2_with fail
  refine (HAT.out w1 B1.out).mono ?_;rintro r w2 ⟨rfl,rfl⟩;go_wp2_with (go_at_call 190;refine (cR _ _ 3 _ c1').mono ?_;rintro r w3 ⟨rfl,rfl⟩;rw[show cG 3=false from rfl])
  go_ret
  exact ⟨by rw[HZ.out];rfl,B1.out⟩
 ·have HZ:=aA (show eS es p=1 by simp[eS,ho,cO,hf,hk])
  rw[ho]at HOV;rw[hk]at c1;clear ho hk hp hf;go_enter Tryz.func276,Tryz.ntmps276;go_wp2_with fail
  refine HOV.out.mono ?_;rintro r w1 ⟨rfl,hb1⟩;have B1:=aA hb1;have c1':=(hb1.cell (p:=⟨bb,off2+m * 4+1,none⟩) hb2).trans c1;clear hb1 c1;go_wp2_with fail
  refine (HAT.out w1 B1.out).mono ?_;rintro r w2 ⟨rfl,rfl⟩;go_wp2_with (go_at_call 190;refine (cR _ _ 4 _ c1').mono ?_;rintro r w3 ⟨rfl,rfl⟩;rw[show cG 4=true from rfl])
  go_ret
  exact ⟨by rw[HZ.out];rfl,B1.out⟩
 ·have HZ:=aA (show eS es p=1 by simp[eS,ho,cO,hf,hk])
  rw[ho]at HOV;rw[hk]at c1;clear ho hk hp hf;go_enter Tryz.func276,Tryz.ntmps276;go_wp2_with fail
  refine HOV.out.mono ?_;rintro r w1 ⟨rfl,hb1⟩;have B1:=aA hb1;have c1':=(hb1.cell (p:=⟨bb,off2+m * 4+1,none⟩) hb2).trans c1;clear hb1 c1;go_wp2_with fail
  refine (HAT.out w1 B1.out).mono ?_;rintro r w2 ⟨rfl,rfl⟩;go_wp2_with (go_at_call 190;refine (cR _ _ 4 _ c1').mono ?_;rintro r w3 ⟨rfl,rfl⟩;rw[show cG 4=true from rfl])
  go_ret
  exact ⟨by rw[HZ.out];rfl,B1.out⟩
 ·have HZ:=aA (show eS es p=2 by simp[eS,ho,cO,hf,hk])
  rw[ho]at HOV;rw[hk]at c1;clear ho hk hp hf;go_enter Tryz.func276,Tryz.ntmps276;go_wp2_with fail
  refine HOV.out.mono ?_;rintro r w1 ⟨rfl,hb1⟩;have B1:=aA hb1;have c1':=(hb1.cell (p:=⟨bb,off2+m * 4+1,none⟩) hb2).trans c1;clear hb1 c1;go_wp2_with fail
  refine (HAT.out w1 B1.out).mono ?_;rintro r w2 ⟨rfl,rfl⟩;go_wp2_with (go_at_call 190;refine (cR _ _ 4 _ c1').mono ?_;rintro r w3 ⟨rfl,rfl⟩;rw[show cG 4=true from rfl])
  go_ret
  exact ⟨by rw[HZ.out];rfl,B1.out⟩
theorem zv6 (a:Option Addr) (c n:Nat) (es:List En) (p:Bs) (w:World) (h:RdE w a es) (hn:n=es.length) (hl:es.length≤1048576) (hRi:bD es) (hp:aG p=0) (hpl:p.length≤1048576) :
  Calls Tryz.prog 276 #[.slice a n c,.string (str p)] w fun r w'=>r=.returned (.int .i64 (eS es p))∧Below w.heap.size w w':=by
 cases ha:atE es p with
 | none=>exact zd4 a c n es p w h hn hl hp hpl ha
 | some m=>exact ze4 a c n es p m w h hn hl hRi hp hpl ha
end Go.Proofs.YtgaeikgoknoamaaGreat
