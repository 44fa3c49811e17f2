/-
  Texts put together: DrawCh KepE ColL Asked Join.
-/
import Derived.Test.YtgaeikgoknoamaaGreatKKeeps26
import Derived.Test.YtgaeikgoknoamaaGreatKKeeps11
import Derived.Test.YtgaeikgoknoamaaGreatKKeeps24
import Derived.Test.YtgaeikgoknoamaaGreatKKeeps6
import Derived.Deep.CutBlock
import Derived.Test.YtgaeikgoknoamaaGreatKKeeps8
import Derived.Test.YtgaeikgoknoamaaGreatKKeeps10
import Derived.Test.YtgaeikgoknoamaaGreatKKeeps25
set_option linter.unusedVariables false
set_option maxHeartbeats 12800000
set_option maxRecDepth 100000
namespace Go.Proofs.YtgaeikgoknoamaaGreat
open Go.RowKit Go.Maps
def GA (B:Nat) (w:World) (v:Value) (D:Nat→Int) (P:Nat→List Int) (n:Nat):Prop :=
 ∃ (A:Nat→Option Addr) (C:Nat→Nat),w.ownsRow B 65 2 v n (bZ n (aJ D P A C))∧∀ i,i<n→w.ownsRow B 5 1 (.slice (A i) (P i).length (C i)) (P i).length ((P i).map (Value.int .u8))
theorem GC.ga {B T:Nat} {w:World} {v:Value} {D:Nat→Int} {P:Nat→List Int} {n:Nat} (h:GC B T w v D P n):GA B w v D P n:=by
 obtain ⟨A,C,h1,h2,_⟩:=h;exact ⟨A,C,h1,h2⟩
theorem GA.kept {S:Nat→Prop} {B:Nat} {w w':World} {v:Value} {D:Nat→Int} {P:Nat→List Int} {n:Nat} (h:GA B w v D P n) (hk:aD S w w') (hS:∀ b,B≤b→¬ S b):GA B w' v D P n:=by
 obtain ⟨A,C,h1,h2⟩:=h;exact ⟨A,C,aH h1 hk (fun b hb=>hS b (h1.lt b hb).1),fun i hi=>aH (h2 i hi) hk (fun b hb=>hS b ((h2 i hi).lt b hb).1)⟩
theorem GA.below {B:Nat} {w w':World} {v:Value} {D:Nat→Int} {P:Nat→List Int} {n:Nat} (h:GA B w v D P n) (hk:Below w.heap.size w w'):GA B w' v D P n :=
 h.kept (S:=fun _=>False) (aD.of_below hk) (fun _ _=>id)
theorem GA.mono {B B':Nat} {w:World} {v:Value} {D:Nat→Int} {P:Nat→List Int} {n:Nat} (h:GA B w v D P n) (hB:B'≤B):GA B' w v D P n:=by
 obtain ⟨A,C,h1,h2⟩:=h;exact ⟨A,C,aS h1 hB,fun i hi=>aS (h2 i hi) hB⟩
theorem GA.rd {B:Nat} {w:World} {a:Option Addr} {c:Nat} {D:Nat→Int} {P:Nat→List Int} {n:Nat} (h:GA B w (.slice a n c) D P n):RdC w a D P n:=by
 obtain ⟨A,C,h1,h2⟩:=h;exact RdC.of_rows h1 (fun i hi=>yP (h2 i hi) rfl)
theorem GA.digest {B g c n j:Nat} {w:World} {D:Nat→Int} {P:Nat→List Int} (h:GA B w (.slice (some ⟨g,0,none⟩) n c) D P n) (hj:j<n) (d:Int):GA B (w.setCell ⟨g,j * 2,none⟩ (.int .i64 d)) (.slice (some ⟨g,0,none⟩) n c) (upd D j d) P n:=by
 obtain ⟨A,C,h1,h2⟩:=h;have s1:=(h1.stored (j * 2) (.int .i64 d)).1;have e:=zn5 (n:=n) (k:=2) (F:=aJ D P A C) (fun i _=>rfl) j 0 hj (by decide) (.int .i64 d)
 rw[Nat.add_zero]at e;rw[e]at s1;have hk1:aD (fun b=>b=g) w (w.setCell ⟨g,j * 2,none⟩ (.int .i64 d)):=aD.setCell (S:=fun b=>b=g) (p:=⟨g,j * 2,none⟩) (aD.refl _ _) (fun _=>rfl) _
 refine ⟨A,C,?_,fun i hi=>aH (h2 i hi) hk1 (fun b hb e=>aX h1 (h2 i hi) (by decide) (by subst e;rfl) hb)⟩
 rw[kE (G:=fun t=>if t=j then (aJ D P A C t).set 0 (.int .i64 d) else aJ D P A C t) (fun i hi=>?_)]
 ·exact s1
 ·by_cases e:i=j
  ·subst e;simp[aJ,eO]
  ·simp[aJ,dO _ _ _ e,e]
theorem GA.bytes {B g c n j:Nat} {w:World} {D:Nat→Int} {P:Nat→List Int} {x:Option Addr} {y:Nat} {zs:List Int} (h:GA B w (.slice (some ⟨g,0,none⟩) n c) D P n) (hj:j<n) (hr:w.ownsRow B 5 1 (.slice x zs.length y) zs.length (zs.map (Value.int .u8))):GA B (w.setCell ⟨g,j * 2+1,none⟩ (.slice x zs.length y)) (.slice (some ⟨g,0,none⟩) n c) D (upd P j zs) n:=by
 obtain ⟨A,C,h1,h2⟩:=h;have s1:=(h1.stored (j * 2+1) (.slice x zs.length y)).1;have e:=zn5 (n:=n) (k:=2) (F:=aJ D P A C) (fun i _=>rfl) j 1 hj (by decide) (.slice x zs.length y)
 rw[e]at s1;have hk1:aD (fun b=>b=g) w (w.setCell ⟨g,j * 2+1,none⟩ (.slice x zs.length y)):=aD.setCell (S:=fun b=>b=g) (p:=⟨g,j * 2+1,none⟩) (aD.refl _ _) (fun _=>rfl) _
 refine ⟨upd A j x,upd C j y,?_,fun i hi=>?_⟩
 ·rw[kE (G:=fun t=>if t=j then (aJ D P A C t).set 1 (.slice x zs.length y) else aJ D P A C t) (fun i hi=>?_)]
  ·exact s1
  ·by_cases e:i=j
   ·subst e;simp[aJ,eO]
   ·simp[aJ,dO _ _ _ e,e]
 ·by_cases e:i=j
  ·subst e
   simp only[eO];exact aH hr hk1 (fun b hb e=>aX h1 hr (by decide) (by subst e;rfl) hb)
  ·simp only[dO _ _ _ e]
   exact aH (h2 i hi) hk1 (fun b hb e=>aX h1 (h2 i hi) (by decide) (by subst e;rfl) hb)
theorem zx3 {s:St} {Z:Nat→List Int}:∀ k,s.2.2+k≤40→∃ t,kU s Z k=some t∧t.2.2≤s.2.2+k
 | 0,_=>⟨s,rfl,by omega⟩
 | k+1,hk=>by
  obtain ⟨t,ht,hn⟩:=zx3 (s:=s) (Z:=Z) k (by omega)
  rw[wN ht];unfold uN;by_cases h1:tH t (cV (Z k))=true
  ·exact ⟨t,by rw[if_pos h1],by omega⟩
  ·exact ⟨nS t (Z k),by rw[if_neg h1,if_neg (by omega)],by simp only[nS];omega⟩
theorem zd2 {s:St} {Z:Nat→List Int} (h:∀ i,i<s.2.2→U8 (s.2.1 i)) (hz:∀ j,U8 (Z j)):∀ k t,kU s Z k=some t→∀ i,i<t.2.2→U8 (t.2.1 i)
 | 0,t,ht=>by simp only[kU,Option.some.injEq]at ht;subst ht;exact h
 | k+1,t,ht=>by
  cases hr:kU s Z k with
  | none=>simp[kU,hr]at ht
  | some u =>
   have hu:=zd2 h hz k u hr;rw[wN hr]at ht;unfold uN at ht;cases hh:tH u (cV (Z k)) with
   | true=>rw[hh,if_pos rfl]at ht;simp only[Option.some.injEq]at ht;subst ht;exact hu
   | false =>
    rw[hh,if_neg (by simp)]at ht
    by_cases hf:40≤u.2.2
    ·rw[if_pos hf]at ht;cases ht
    ·rw[if_neg hf]at ht
     simp only[Option.some.injEq]at ht;subst ht;intro i hi;simp only[nS,ins]at hi ⊢;split
     ·exact hu i (by have:=(zf1 u.1 (cV (Z k)) u.2.2).1;omega)
     ·split
      ·exact hz k
      ·exact hu (i - 1) (by omega)
theorem lG (p:Nat) (zs:List Int) (t n:Int) (w:World) (h:Src w p zs t) (hu:U8 zs) (ht0:0≤t) (ht1:t≤1099511627776) (hn0:1≤n) (hn1:n≤2147483648) (hl:zs.length≤1048576) :
  Calls Tryz.prog 57 #[.pointer (some ⟨p,0,none⟩),.int .i64 n] w fun e w'=>∃ r,e=.returned (.bool r)∧Src w' p zs (t+1)∧aD (fun b=>b=p) w w':=by
 have HC:=aA (pX p zs t n w h hu ht0 ht1 hn0 hn1 hl);clear h hu;go_enter Tryz.func57,Tryz.ntmps57;go_wp2_with fail
 refine HC.out.mono ?_;rintro e w1 ⟨r,rfl,r0,r1,s1,k1⟩;have S1:=aA s1;have K1:=aA k1;clear s1 k1;go_wp2_with fail
 go_ret
 exact ⟨_,rfl,S1.out,K1.out⟩
theorem zu8 (p:Nat) (zs:List Int) (t:Int) (w:World) (h:Src w p zs t) (hu:U8 zs) (ht0:0≤t) (ht1:t≤100000) (hl:zs.length≤1048576) :
  Calls Tryz.prog 99 #[.pointer (some ⟨p,0,none⟩)] w fun e w'=>∃ (g cv:Nat) (s:St) (t':Int),e=.returned (.slice (some ⟨g,0,none⟩) s.2.2 cv)∧s.2.2≤cv∧s.2.2≤14∧cF s.1 s.2.1 s.2.2∧(∀ i,i<s.2.2→U8 (s.2.1 i))∧GC w.heap.size w'.heap.size w' (.slice (some ⟨g,0,none⟩) s.2.2 cv) s.1 s.2.1 s.2.2∧Src w' p zs t'∧0≤t'∧t'≤t+200∧aD (fun b=>b=p) w w':=by
 have hp:=h.lt;have HS:=aA h;have HU:=aA hu;clear h hu;go_enter Tryz.func99,Tryz.ntmps99;go_wp2_with fail
 refine (pX p zs t 8 _ (HS.out.below (aC _ _)) HU.out ht0 (by omega) (by decide) (by decide) hl).mono ?_
 rintro e w1 ⟨r,rfl,r0,r1,s1,k1⟩;obtain ⟨kk,rfl⟩:=Int.eq_ofNat_of_zero_le r0;have S1:=aA s1;have K1:=aA (((aD.refl (fun b=>b=p) w).alloc (.cells #[] 65)).trans k1)
 have O1:=aA (aH (World.ownsRow_made (e:=65) (size:=2) w #[] 0 (Nat.le_refl _) (Nat.zero_le _) rfl) k1 (fun b hb e=>by simp[Value.ownBlock]at hb;omega))
 have hs1:=K1.out.size;clear s1 k1 HS;go_wp2_with fail
 go_loopw [3,4] (fun v k wr=>∃ (m:Nat) (s:St) (g cv:Nat) (t':Int),m≤7∧k=.int .i64 m∧v=.slice (some ⟨g,0,none⟩) s.2.2 cv∧s.2.2≤cv∧s.2.2≤2 * (7 - m)∧cF s.1 s.2.1 s.2.2∧(∀ i,i<s.2.2→U8 (s.2.1 i))∧GC w.heap.size wr.heap.size wr (.slice (some ⟨g,0,none⟩) s.2.2 cv) s.1 s.2.1 s.2.2∧Src wr p zs t'∧0≤t'∧t'≤t+1+14 * (7 - m)∧aD (fun b=>b=p) w wr) (fun _ k _=>(intOf k).toNat)
 case atStart=>exact ⟨kk,(fun _=>0,fun _=>[],0),w.heap.size,0,t+1,by omega,rfl,rfl,Nat.le_refl _,Nat.zero_le _,⟨by simp,fun i hi=>absurd hi (by simp),fun i hi=>absurd hi (by simp),fun i hi=>absurd hi (by simp),fun i hi=>absurd hi (by simp)⟩,fun i hi=>absurd hi (by simp),⟨fun _=>none,fun _=>0,O1.out,fun i hi=>absurd hi (by simp),fun i i' g hi=>absurd hi (by simp),fun i g hi=>absurd hi (by simp),fun x hx=>(O1.out.lt x hx).2⟩,S1.out,by omega,by omega,K1.out⟩
 case round =>
  obtain ⟨m,⟨D1,P1,n1⟩,g,cv,t',hm,rfl,rfl,hcv,hn1,hR,hU8,hG,hS,ht'0,ht'1,hK⟩:=hrel;simp only at hcv hn1 hR hU8 hG;have HRt:=aA hR;have HU8:=aA hU8;have HG:=aA hG;have HSr:=aA hS;have HK:=aA hK;have hsz:=hK.size;clear S1 K1 O1 hR hU8 hG hS hK;by_cases hlt:0<m
  ·have hm0:(0:Int)<(m:Int):=by omega
   go_wp2_with fail
   refine (pX p zs t' 12 wr HSr.out HU.out ht'0 (by omega) (by decide) (by decide) hl).mono ?_
   rintro e w2 ⟨r,rfl,r0,r1,s2,k2⟩;obtain ⟨rr,rfl⟩:=Int.eq_ofNat_of_zero_le r0;have S2:=aA s2;have hs2:=k2.size;have G2:=aA ((HG.out.kept k2 (fun b h1 _ e=>by omega)).wide hs2)
   have K2:=aA (HK.out.trans k2);clear s2 k2 HG HSr HK;go_wp2_with fail
   have hq:(1:Int)+(rr:Int)=((1+rr:Nat):Int):=by omega
   rw[hq];refine (zw0 p (1+rr) zs _ w2 S2.out HU.out (by omega) (by omega) hl (by omega) S2.out.lt).mono ?_
   rintro e w3 ⟨av,ac,ds,rfl,hds,hU,hown,s3,k3⟩;have S3:=aA s3;have hs3:=k3.size;have G3:=aA ((G2.out.kept k3 (fun b h1 _ e=>by omega)).wide hs3)
   have K3:=aA (K2.out.trans k3);have R3:=aA (mC hown hds.symm).reads;have hac:=kM hown;have UD:=aA hU;clear s3 k3 hown hU G2 S2 K2;rw[←hds]at hac ⊢;have HN1:Hid ((cut ds).length≤2):=aA (by rw[gP];omega)
   obtain ⟨s4,hrun,hsn⟩:=zx3 (s:=(D1,P1,n1)) (Z:=dM ds) (cut ds).length (by have:=HN1.out;simp only;omega)
   have hb:=yI (some ⟨g,0,none⟩) cv n1 D1 P1 av ac ds w3 G3.out.rd HRt.out R3.out UD.out hac (by omega)
   rw[hrun]at hb;have HB:=aA hb;have HU4:=aA (zd2 (s:=(D1,P1,n1)) HU8.out (fun j=>UD.out.piece j) _ s4 hrun)
   have hn4:s4.2.2≤2 * (7 - (m - 1)):=by have:=HN1.out;simp only at hsn;omega
   have hdl:ds.length≤12:=by omega
   clear hb hrun hsn hds hq;go_wp2_with fail
   refine HB.out.mono ?_;rintro e w4 ⟨⟨g4,cv4,rfl,hcv4,hR4,hG4⟩,b4⟩;have C4:=aA (hG4.mono (B':=w.heap.size) (by omega))
   have HR4:=aA hR4;have S4:=aA (S3.out.below b4);have K4:=aA (K3.out.trans (aD.of_below (S:=fun b=>b=p) b4))
   clear hG4 hR4 b4 S3 K3 HB G3;go_wp2_with fail
   go_roundw
   case rel=>exact ⟨m - 1,s4,g4,cv4,t'+1+((1+rr:Nat):Int),by omega,by go_num,rfl,hcv4,hn4,HR4.out,HU4.out,C4.out,S4.out,by omega,by omega,K4.out⟩
   case measure=>simp[intOf];omega
  ·have hm0:m=0:=by omega
   subst hm0;go_wp2
   go_ret
   exact ⟨g,cv,(D1,P1,n1),t',rfl,hcv,by simp only;omega,HRt.out,HU8.out,HG.out,HSr.out,ht'0,by omega,HK.out⟩
theorem lF {w w':World} (h:w.grownBy w' none):aD (fun _=>False) w w':=⟨h.os,h.tape,h.output,h.size,fun k hk _=>h.block k hk (by simp)⟩
theorem gJ {w w':World} (h:aD (fun _=>False) w w'):Below w.heap.size w w':=h.below (Nat.le_refl _) (fun _ _=>id)
theorem zsd (w:World) (a b c:Int) (t:TypeId):∀ i,i<3→(w.alloc (.cells #[.int .i64 a,.int .i64 b,.int .i64 c] t)).cell? ⟨w.heap.size,i,none⟩=some (.int .i64 ([a,b,c].getD i 0)):=by
 intro i hi
 match i,hi with
 | 0,_ | 1,_ | 2,_=>simp
theorem zok:(madeCells (Value.agg #[.int .i64 0,.slice none 0 0]).cells (41 * 2)).toList=bZ 41 (aJ (fun _=>0) (fun _=>[]) (fun _=>none) (fun _=>0)):=by
 show (madeCells #[Value.int .i64 0,.slice none 0 0] (41 * 2)).toList=_
 have hl:=fI (n:=41) (k:=2) (F:=aJ (fun _=>0) (fun _=>[]) (fun _=>none) (fun _=>0)) (fun i _=>rfl)
 apply List.ext_getElem?
 intro p;by_cases hp:p<41 * 2
 ·have e:p=p / 2 * 2+p % 2:=by omega
  have h1:p / 2<41:=by omega
  have h2:p % 2<2:=by omega
  rw[e,fE (k:=2) (fun i _=>rfl) _ _ h1 h2]
  rw[←e];have hm:p % 2=0∨p % 2=1:=by omega
  rcases hm with hm | hm <;> simp[madeCells,hp,hm,aJ]
 ·rw[List.getElem?_eq_none (by simp[madeCells];omega),List.getElem?_eq_none (by omega)]
theorem GA.zeros {B:Nat} {w:World} {v:Value} (h:w.ownsRow B 65 2 v 41 (madeCells (Value.agg #[.int .i64 0,.slice none 0 0]).cells (41 * 2)).toList):GA B w v (fun _=>0) (fun _=>[]) 41 :=
 ⟨fun _=>none,fun _=>0,by rw[←zok];exact h,fun i _=>World.ownsRow_nil _ _ _ _⟩
theorem GA.again {B n:Nat} {w1 w2:World} {v v':Value} {D:Nat→Int} {P:Nat→List Int} {A:Nat→Option Addr} {C:Nat→Nat} (h1:w1.ownsRow B 65 2 v n (bZ n (aJ D P A C))) (hn:0<n)
  (h2:∀ i,i<n→w1.ownsRow B 5 1 (.slice (A i) (P i).length (C i)) (P i).length ((P i).map (Value.int .u8)))
  (hv':w2.ownsRow B 65 2 v' (n+1) (bZ n (aJ D P A C) ++ [.int .i64 (D 0),.slice (A 0) (P 0).length (C 0)])) (hk:aD (fun b=>v.ownBlock=some b) w1 w2):GA B w2 v' (upd D n (D 0)) (upd P n (P 0)) (n+1):=by
 refine ⟨upd A n (A 0),upd C n (C 0),?_,fun i hi=>?_⟩
 ·rw[oY]
  have e:bZ n (aJ (upd D n (D 0)) (upd P n (P 0)) (upd A n (A 0)) (upd C n (C 0)))=bZ n (aJ D P A C):=kE (fun i hi=>by
   have:i≠n:=by omega
   simp[aJ,dO _ _ _ this])
  rw[e];simpa [aJ,eO] using hv'
 ·have hkeep:∀ j,j<n→w2.ownsRow B 5 1 (.slice (A j) (P j).length (C j)) (P j).length ((P j).map (Value.int .u8)):=fun j hj=>aH (h2 j hj) hk (fun b hb hS=>aX h1 (h2 j hj) (by decide) hS hb)
  by_cases e:i=n
  ·subst e;simp only[eO];exact hkeep 0 hn
  ·simp only[dO _ _ _ e];exact hkeep i (by omega)
theorem zic (p:Nat) (zs:List Int) (t:Int) (w:World) (h:Src w p zs t) (hu:U8 zs) (ht0:0≤t) (ht1:t≤100000) (hl:zs.length≤1048576) :
  Calls Tryz.prog 53 #[.pointer (some ⟨p,0,none⟩)] w fun e w'=>∃ (g cv n:Nat) (D:Nat→Int) (P:Nat→List Int) (t':Int),e=.returned (.slice (some ⟨g,0,none⟩) n cv)∧n≤cv∧n≤41∧(∀ i,i<n→U8 (P i)∧(P i).length≤9)∧GA w.heap.size w' (.slice (some ⟨g,0,none⟩) n cv) D P n∧Src w' p zs t'∧0≤t'∧t'≤t+400∧aD (fun b=>b=p) w w':=by
 obtain ⟨i1,ki,kz0,kz1,kz2⟩:=info_parts Tryz.infoCh;have hby41:i1.bytes * 41≤281474976710656:=by rw[kz2];decide
 have hml41:41≤maxLen:=by decide
 have hp:=h.lt;have HU:=aA hu;have HC:=aA (zu8 p zs t w h hu ht0 ht1 hl);clear h hu;go_enter Tryz.func53,Tryz.ntmps53;go_wp2_with fail
 refine HC.out.mono ?_;rintro e w1 ⟨g,cv,⟨D,P,n⟩,t1,rfl,hcv8,hn14,hR,hU8,hG,hS,ht10,ht11,hK⟩;simp only at hcv8 hn14 hR hU8 hG;have L8:Hid (∀ i,i<n→U8 (P i)∧(P i).length≤9):=fun i hi=>⟨hU8 i hi,by have:=(hR.len i hi).2;omega⟩
 have K8:=aA hK;have hs1:=hK.size;by_cases hn0:0<n
 ·have hn0':(0:Int)<(n:Int):=by omega
  obtain ⟨hg1,hg2⟩:w.heap.size≤g∧g<w1.heap.size:=by obtain ⟨A,C,h1,_⟩:=hG;exact h1.lt g rfl
  have G1:=aA hG.ga;have S1:=aA hS;clear hS hG hR hU8 hK HC;go_wp2_with fail
  refine (pX p zs t1 14 w1 S1.out HU.out ht10 (by omega) (by decide) (by decide) hl).mono ?_
  rintro e w2 ⟨r,rfl,r0,r1,s2,k2⟩;have hs2:=k2.size;have G2:=aA (G1.out.kept k2 (fun b h1 e=>by omega))
  have S2:=aA s2;have K2:=aA (K8.out.trans k2);clear s2 k2 G1 S1 K8;by_cases h0:r=0
  ·subst h0
   go_wp2_with fail
   refine (zu0 p w2.heap.size 3 3 [-1,5,4294967296] zs _ _ (S2.out.below (aC _ _)) HU.out (by omega) (by omega) hl (by decide) (by decide) rfl (by omega) (by simp) (zsd _ _ _ _ _)).mono ?_
   rintro e w3 ⟨v,hv,rfl,s3,k3⟩;have hs3:=k3.size;have G3:=aA ((G2.out.below (aC _ (.cells #[.int .i64 (-1),.int .i64 5,.int .i64 4294967296] 2))).kept k3 (fun b h1 e=>by omega))
   have S3:=aA s3;have K3:=aA ((K2.out.alloc (.cells #[.int .i64 (-1),.int .i64 5,.int .i64 4294967296] 2)).trans k3);clear s3 k3 G2 S2 K2 hv;obtain ⟨A,C,h1,h2⟩:=G3.out;have c0:w3.cell? ⟨g,0,none⟩=some (.int .i64 (D 0)):=by rw[h1.cellAt 0 (by omega)];have:=fE (n:=n) (k:=2) (F:=aJ D P A C) (fun i _=>rfl) 0 0 hn0 (by decide);simpa [aJ] using this
   have f0:w3.frozen? ⟨g,0,none⟩=false:=h1.frozenAt 0;clear h1 h2;generalize D 0=dd at c0;have kk:aD (fun b=>b=g) w3 (w3.setCell ⟨g,0,none⟩ (.int .i64 v)):=aD.setCell (S:=fun b=>b=g) (p:=⟨g,0,none⟩) (aD.refl _ _) (fun _=>rfl) _
   have G8:Hid (GA w.heap.size (w3.setCell ⟨g,0,none⟩ (.int .i64 v)) (.slice (some ⟨g,0,none⟩) n cv) (upd D 0 v) P n):=by have:=G3.out.digest hn0 v;exact aA (by simpa using this)
   have S9:Hid (Src (w3.setCell ⟨g,0,none⟩ (.int .i64 v)) p zs (t1+1+1)):=S3.out.kept kk (fun b hb e=>by omega)
   have K8:Hid (aD (fun b=>b=p) w (w3.setCell ⟨g,0,none⟩ (.int .i64 v))):=K3.out.trans_own kk (fun b hb e=>by omega)
   clear kk G3 S3 K3;go_wp2_with fail
   refine (lG p zs _ 40 _ S9.out HU.out (by omega) (by omega) (by decide) (by decide) hl).mono ?_
   rintro e w9 ⟨r9,rfl,s9,k9⟩;have G9:=aA (G8.out.kept k9 (fun b h1 e=>by omega))
   have S10:=aA s9;have K9:=aA (K8.out.trans k9);clear s9 k9 S9 G8 K8;cases r9 with
   | false =>
    go_wp2_with fail
    go_ret
    exact ⟨_,_,_,_,_,_,rfl,hcv8,by omega,L8.out,G9.out,S10.out,by omega,by omega,K9.out⟩
   | true =>
    go_wp2_with (first | (at_make;refine wpList_make_full _ rfl _ _ 52 rfl w.heap.size 65 i1 (.agg #[.int .i64 0,.slice none 0 0]) 2 Tryz.underlying52 ki kz0 kz1 .i64 .i64 _ _ 41 rfl rfl rfl rfl hby41 hml41 (by have:=K9.out.size;omega) ?_;intro w10 ho10 hg10;have O10:=aA ho10;have K10:=aA (lF hg10);clear ho10 hg10) | fail)
    go_ret
    exact ⟨_,_,41,fun _=>0,fun _=>[],_,rfl,by decide,by decide,fun i hi=>⟨fun z hz=>by simp at hz,by simp⟩,GA.zeros O10.out,S10.out.below (gJ K10.out),by omega,by omega,K9.out.trans (K10.out.mono (fun b _ e=>e.elim))⟩
  ·by_cases h1:r=1
   ·subst h1
    go_wp2_with fail
    refine (zu0 p w2.heap.size 3 3 [0,9,3] zs _ _ (S2.out.below (aC _ _)) HU.out (by omega) (by omega) hl (by decide) (by decide) rfl (by omega) (by simp) (zsd _ _ _ _ _)).mono ?_
    rintro e w3 ⟨v,hv,rfl,s3,k3⟩;have hv2:0≤v∧v≤9:=by simp at hv;omega
    obtain ⟨vn,rfl⟩:=Int.eq_ofNat_of_zero_le hv2.1;have hs3:=k3.size;have G3:=aA ((G2.out.below (aC _ (.cells #[.int .i64 0,.int .i64 9,.int .i64 3] 2))).kept k3 (fun b h1 e=>by omega))
    have S3:=aA s3;have K3:=aA ((K2.out.alloc (.cells #[.int .i64 0,.int .i64 9,.int .i64 3] 2)).trans k3);have hs3':w2.heap.size<w3.heap.size:=by simp at hs3;omega
    clear s3 k3 G2 S2 K2 hv hs3;go_wp2_with fail
    refine (zw0 p vn zs _ w3 S3.out HU.out (by omega) (by omega) hl (by omega) S3.out.lt).mono ?_
    rintro e w4 ⟨av,ac,ds,rfl,hds,hU,hown,s4,k4⟩;have hs4:=k4.size;have G4:=aA (G3.out.kept k4 (fun b h1 e=>by omega))
    have S4:=aA s4;have K4:=aA (K3.out.trans k4);have hds2:vn=ds.length:=hds.symm;subst hds2;have O4:=aA (aS (base':=w.heap.size) hown (by omega))
    have UD:=aA hU;clear s4 k4 G3 S3 K3 hown hU hds;obtain ⟨A,C,h1,h2⟩:=G4.out;have c0:w4.cell? ⟨g,1,none⟩=some (.slice (A 0) (P 0).length (C 0)):=by rw[h1.cellAt 1 (by omega)];have:=fE (n:=n) (k:=2) (F:=aJ D P A C) (fun i _=>rfl) 0 1 hn0 (by decide);simpa [aJ] using this
    have f0:w4.frozen? ⟨g,1,none⟩=false:=h1.frozenAt 1;clear h1 h2;generalize Value.slice (A 0) (P 0).length (C 0)=oldv at c0;have kk:aD (fun b=>b=g) w4 (w4.setCell ⟨g,1,none⟩ (.slice av ds.length ac)):=aD.setCell (S:=fun b=>b=g) (p:=⟨g,1,none⟩) (aD.refl _ _) (fun _=>rfl) _
    have G8:Hid (GA w.heap.size (w4.setCell ⟨g,1,none⟩ (.slice av ds.length ac)) (.slice (some ⟨g,0,none⟩) n cv) D (upd P 0 ds) n):=by have:=G4.out.bytes hn0 O4.out;exact aA (by simpa using this)
    have S9:Hid (Src (w4.setCell ⟨g,1,none⟩ (.slice av ds.length ac)) p zs (t1+1+1+ds.length)):=S4.out.kept kk (fun b hb e=>by omega)
    have K8:Hid (aD (fun b=>b=p) w (w4.setCell ⟨g,1,none⟩ (.slice av ds.length ac))):=K4.out.trans_own kk (fun b hb e=>by omega)
    have L0:=aA L8.out;clear L8;have L8:Hid (∀ i,i<n→U8 (upd P 0 ds i)∧(upd P 0 ds i).length≤9):=fun i hi=>by
     by_cases e:i=0
     ·subst e;rw[eO];exact ⟨UD.out,by omega⟩
     ·rw[dO _ _ _ e];exact L0.out i hi
    clear kk G4 S4 K4 L0;go_wp2_with fail
    refine (lG p zs _ 40 _ S9.out HU.out (by omega) (by omega) (by decide) (by decide) hl).mono ?_
    rintro e w9 ⟨r9,rfl,s9,k9⟩;have G9:=aA (G8.out.kept k9 (fun b h1 e=>by omega))
    have S10:=aA s9;have K9:=aA (K8.out.trans k9);clear s9 k9 S9 G8 K8;cases r9 with
    | false =>
     go_wp2_with fail
     go_ret
     exact ⟨_,_,_,_,_,_,rfl,hcv8,by omega,L8.out,G9.out,S10.out,by omega,by omega,K9.out⟩
    | true =>
     go_wp2_with (first | (at_make;refine wpList_make_full _ rfl _ _ 52 rfl w.heap.size 65 i1 (.agg #[.int .i64 0,.slice none 0 0]) 2 Tryz.underlying52 ki kz0 kz1 .i64 .i64 _ _ 41 rfl rfl rfl rfl hby41 hml41 (by have:=K9.out.size;omega) ?_;intro w10 ho10 hg10;have O10:=aA ho10;have K10:=aA (lF hg10);clear ho10 hg10) | fail)
     go_ret
     exact ⟨_,_,41,fun _=>0,fun _=>[],_,rfl,by decide,by decide,fun i hi=>⟨fun z hz=>by simp at hz,by simp⟩,GA.zeros O10.out,S10.out.below (gJ K10.out),by omega,by omega,K9.out.trans (K10.out.mono (fun b _ e=>e.elim))⟩
   ·by_cases h2:r=2
    ·subst h2
     obtain ⟨A,C,h1',h2'⟩:=G2.out;have c0:w2.cell? ⟨g,0,none⟩=some (.int .i64 (D 0)):=by rw[h1'.cellAt 0 (by omega)];have:=fE (n:=n) (k:=2) (F:=aJ D P A C) (fun i _=>rfl) 0 0 hn0 (by decide);simpa [aJ] using this
     have c1:w2.cell? ⟨g,1,none⟩=some (.slice (A 0) (P 0).length (C 0)):=by rw[h1'.cellAt 1 (by omega)];have:=fE (n:=n) (k:=2) (F:=aJ D P A C) (fun i _=>rfl) 0 1 hn0 (by decide);simpa [aJ] using this
     have A1:=aA h1';have AG:=aA (fun (w2':World) (v':Value) (hv:w2'.ownsRow w.heap.size 65 2 v' (n+1) (bZ n (aJ D P A C) ++ [.int .i64 (D 0),.slice (A 0) (P 0).length (C 0)])) (hk:aD (fun b=>(Value.slice (some ⟨g,0,none⟩) n cv).ownBlock=some b) w2 w2')=>GA.again h1' hn0 h2' hv hk)
     have L0:Hid (∀ i,i<n+1→U8 (upd P n (P 0) i)∧(upd P n (P 0) i).length≤9):=fun i hi=>by
      by_cases e:i=n
      ·subst e;rw[eO];exact L8.out 0 hn0
      ·rw[dO _ _ _ e];exact L8.out i (by omega)
     have hm1:n+1≤maxLen:=by unfold maxLen;omega
     have hm2:(n+1) * 32≤140737488355328:=by omega
     clear h1' h2' G2 L8;generalize upd P n (P 0)=PN at *;generalize upd D n (D 0)=DN at *;generalize D 0=dd at *;generalize (P 0).length=pl at *;generalize A 0=aa at *;generalize C 0=cc at *;generalize bZ n (aJ D P A C)=FL at *;go_wp2_with (first | (at_builtin;refine bS rfl (.tmp 31) (.tmp 35) 52 rfl w.heap.size 65 i1 (.agg #[.int .i64 0,.slice none 0 0]) 2 32 Tryz.underlying52 ki kz0 kz1 kz2 rfl (by decide) (.slice (some ⟨g,0,none⟩) n cv) _ _ rfl A1.out rfl rfl (by intro u hu;simp at hu;rcases hu with rfl | rfl <;> rfl) hm1 hm2 (by omega) ?_;intro v' w5 hown5 hk5;obtain ⟨av,ac,rfl⟩:=aQ hown5;obtain ⟨g5,h5,hcv5⟩:=qY hown5 (.inl (by omega));subst h5;have hs5:=hk5.size;have G8:=aA (AG.out w5 _ hown5 hk5);have S9:=aA (S2.out.kept hk5 (fun b hb e=>by simp[Value.ownBlock]at e;omega));have K8:=aA (K2.out.trans_own hk5 (fun b hb e=>by simp[Value.ownBlock]at e;omega));clear hown5 hk5 AG A1 S2 K2 c0 c1) | fail)
     have hcv0:=hcv8;clear hcv8;have hcv8:=hcv5;have L8:=L0;refine (lG p zs _ 40 _ S9.out HU.out (by omega) (by omega) (by decide) (by decide) hl).mono ?_
     rintro e w9 ⟨r9,rfl,s9,k9⟩;have G9:=aA (G8.out.kept k9 (fun b h1 e=>by omega))
     have S10:=aA s9;have K9:=aA (K8.out.trans k9);clear s9 k9 S9 G8 K8;cases r9 with
     | false =>
      go_wp2_with fail
      go_ret
      exact ⟨_,_,_,_,_,_,rfl,hcv8,by omega,L8.out,G9.out,S10.out,by omega,by omega,K9.out⟩
     | true =>
      go_wp2_with (first | (at_make;refine wpList_make_full _ rfl _ _ 52 rfl w.heap.size 65 i1 (.agg #[.int .i64 0,.slice none 0 0]) 2 Tryz.underlying52 ki kz0 kz1 .i64 .i64 _ _ 41 rfl rfl rfl rfl hby41 hml41 (by have:=K9.out.size;omega) ?_;intro w10 ho10 hg10;have O10:=aA ho10;have K10:=aA (lF hg10);clear ho10 hg10) | fail)
      go_ret
      exact ⟨_,_,41,fun _=>0,fun _=>[],_,rfl,by decide,by decide,fun i hi=>⟨fun z hz=>by simp at hz,by simp⟩,GA.zeros O10.out,S10.out.below (gJ K10.out),by omega,by omega,K9.out.trans (K10.out.mono (fun b _ e=>e.elim))⟩
    ·have h0':(r==0)=false:=by simpa using h0
     have h1':(r==1)=false:=by simpa using h1
     have h2':(r==2)=false:=by simpa using h2
     have G8:=G2;have S9:=S2;have K8:=K2;clear G2 S2 K2;go_wp2_with fail
     refine (lG p zs _ 40 _ S9.out HU.out (by omega) (by omega) (by decide) (by decide) hl).mono ?_
     rintro e w9 ⟨r9,rfl,s9,k9⟩;have G9:=aA (G8.out.kept k9 (fun b h1 e=>by omega))
     have S10:=aA s9;have K9:=aA (K8.out.trans k9);clear s9 k9 S9 G8 K8;cases r9 with
     | false =>
      go_wp2_with fail
      go_ret
      exact ⟨_,_,_,_,_,_,rfl,hcv8,by omega,L8.out,G9.out,S10.out,by omega,by omega,K9.out⟩
     | true =>
      go_wp2_with (first | (at_make;refine wpList_make_full _ rfl _ _ 52 rfl w.heap.size 65 i1 (.agg #[.int .i64 0,.slice none 0 0]) 2 Tryz.underlying52 ki kz0 kz1 .i64 .i64 _ _ 41 rfl rfl rfl rfl hby41 hml41 (by have:=K9.out.size;omega) ?_;intro w10 ho10 hg10;have O10:=aA ho10;have K10:=aA (lF hg10);clear ho10 hg10) | fail)
      go_ret
      exact ⟨_,_,41,fun _=>0,fun _=>[],_,rfl,by decide,by decide,fun i hi=>⟨fun z hz=>by simp at hz,by simp⟩,GA.zeros O10.out,S10.out.below (gJ K10.out),by omega,by omega,K9.out.trans (K10.out.mono (fun b _ e=>e.elim))⟩
 ·have hn0':¬ (0:Int)<(n:Int):=by omega
  have G8:=aA hG.ga;have S9:=aA hS;clear hS hG hR hU8 hK HC;go_wp2_with fail
  refine (lG p zs _ 40 _ S9.out HU.out (by omega) (by omega) (by decide) (by decide) hl).mono ?_
  rintro e w9 ⟨r9,rfl,s9,k9⟩;have G9:=aA (G8.out.kept k9 (fun b h1 e=>by omega))
  have S10:=aA s9;have K9:=aA (K8.out.trans k9);clear s9 k9 S9 G8 K8;cases r9 with
  | false =>
   go_wp2_with fail
   go_ret
   exact ⟨_,_,_,_,_,_,rfl,hcv8,by omega,L8.out,G9.out,S10.out,by omega,by omega,K9.out⟩
  | true =>
   go_wp2_with (first | (at_make;refine wpList_make_full _ rfl _ _ 52 rfl w.heap.size 65 i1 (.agg #[.int .i64 0,.slice none 0 0]) 2 Tryz.underlying52 ki kz0 kz1 .i64 .i64 _ _ 41 rfl rfl rfl rfl hby41 hml41 (by have:=K9.out.size;omega) ?_;intro w10 ho10 hg10;have O10:=aA ho10;have K10:=aA (lF hg10);clear ho10 hg10) | fail)
   go_ret
   exact ⟨_,_,41,fun _=>0,fun _=>[],_,rfl,by decide,by decide,fun i hi=>⟨fun z hz=>by simp at hz,by simp⟩,GA.zeros O10.out,S10.out.below (gJ K10.out),by omega,by omega,K9.out.trans (K10.out.mono (fun b _ e=>e.elim))⟩
end Go.Proofs.YtgaeikgoknoamaaGreat
namespace Go.Proofs.YtgaeikgoknoamaaGreat
open Go.RowKit Go.Maps
attribute [local go_sem ↓] Go.wp_at_zero Go.wp_at_succ
structure kY (lo:Nat) (u:World) (va:Option Addr) (N vc:Nat) (rs:List Rs) (ca:Option Addr) (n cc:Nat) (D:Nat→Int) (P:Nat→List Int):Prop where
 lays:LyN (rs.map Rs.s)
 small:dF (rs.map Rs.s)
 len:rs.length=N
 st:GR lo u (.slice va N vc) rs
 ch:GA lo u (.slice ca n cc) D P n
 right:cF D P n
 u8:∀ i,i<n→U8 (P i)
theorem kY.kept {S:Nat→Prop} {lo:Nat} {u u':World} {va:Option Addr} {N vc:Nat} {rs:List Rs} {ca:Option Addr} {n cc:Nat} {D:Nat→Int} {P:Nat→List Int} (h:kY lo u va N vc rs ca n cc D P) (hk:aD S u u') (hS:∀ b,S b→b<lo):kY lo u' va N vc rs ca n cc D P :=
 ⟨h.lays,h.small,h.len,h.st.kept hk (fun b hb e=>by have:=hS b e;omega),h.ch.kept hk (fun b hb e=>by have:=hS b e;omega),h.right,h.u8⟩
theorem kY.below {lo:Nat} {u u':World} {va:Option Addr} {N vc:Nat} {rs:List Rs} {ca:Option Addr} {n cc:Nat} {D:Nat→Int} {P:Nat→List Int} (h:kY lo u va N vc rs ca n cc D P) (hk:Below u.heap.size u u'):kY lo u' va N vc rs ca n cc D P :=
 h.kept (S:=fun _=>False) (aD.of_below hk) (fun _ e=>e.elim)
theorem kY.hP {lo:Nat} {u:World} {va:Option Addr} {N vc:Nat} {rs:List Rs} {ca:Option Addr} {n cc:Nat} {D:Nat→Int} {P:Nat→List Int} (h:kY lo u va N vc rs ca n cc D P):∀ i,i<n→U8 (P i)∧(P i).length≤9:=fun i hi=>⟨h.u8 i hi,by have:=(h.right.len i hi).2;omega⟩
theorem kY.store {lo:Nat} {w:World} {va:Option Addr} {N vc:Nat} {rs:List Rs} {ca:Option Addr} {n cc:Nat} {D:Nat→Int} {P:Nat→List Int} {i k G:Nat} {r:Rs} {e0:En} {zs:List Int} {a:Option Addr} {ac:Nat} (h:kY lo w va N vc rs ca n cc D P) (hx:rs[i]?=some r) (hG:r.a=some ⟨G,0,none⟩) (he:r.s.layer[k]?=some e0) (h1:e0.kind=1) (hz:zs.length≤24)
  (hown:w.ownsRow lo 2 1 (.slice a (cut zs).length ac) (cut zs).length ((kP zs (cut zs).length).map (Value.int .i64))) :
  kY lo ((((w.setCell ⟨G,k * 4,none⟩ (.string (str e0.path))).setCell ⟨G,k * 4+1,none⟩ (.int .i64 1)).setCell ⟨G,k * 4+2,none⟩ (.int .i64 zs.length)).setCell ⟨G,k * 4+3,none⟩ (.slice a (cut zs).length ac)) va N vc (rs.map (gA G k (bV e0.path zs))) ca n cc D P:=by
 have hle:(bV e0.path zs).chunks.length=(cut zs).length:=yA _ _;have hs:=GR.store (k:=k) (bV e0.path zs) h.st hx hG (show w.ownsRow lo 2 1 (.slice a (bV e0.path zs).chunks.length ac) (bV e0.path zs).chunks.length ((bV e0.path zs).chunks.map (Value.int .i64)) by rw[hle];exact hown)
 rw[hle]at hs;have hkp:=nK w G (k * 4) (.string (str e0.path)) (.int .i64 1) (.int .i64 zs.length) (.slice a (cut zs).length ac);have hGr:=h.st.2 r (List.mem_of_getElem? hx);rw[hG]at hGr;obtain ⟨qs,q1,q2,q3⟩:=hGr;have hl:=GR.lays (k:=k) (zs:=zs) h.st hx hG he h1 hz h.lays;refine ⟨hl,GR.small h.small hl,by rw[List.length_map];exact h.len,hs,?_,h.right,h.u8⟩
 obtain ⟨A,C,c1,c2⟩:=h.ch;exact ⟨A,C,aH c1 hkp (fun b hb hS=>by subst hS;exact aX q2 c1 (by decide) rfl hb),fun i hi=>aH (c2 i hi) hkp (fun b hb hS=>by subst hS;exact aX q2 (c2 i hi) (by decide) rfl hb)⟩
theorem zzj {G k i:Nat} {e:En} {rs:List Rs} {r:Rs} (h:rs[i]?=some r):∃ r',(rs.map (gA G k e))[i]?=some r'∧r'.s.layer.length=r.s.layer.length:=by
 refine ⟨gA G k e r,by rw[List.getElem?_map,h];rfl,?_⟩
 unfold gA;split <;> simp
theorem zsb {w:World} {G o:Nat} {u u0 u1 u2 u3:Value} (h:w.cell? ⟨G,o,none⟩=some u):((((w.setCell ⟨G,o,none⟩ u0).setCell ⟨G,o+1,none⟩ u1).setCell ⟨G,o+2,none⟩ u2).setCell ⟨G,o+3,none⟩ u3).cell? ⟨G,o,none⟩=some u0:=by
 have ne:∀ j:Nat,0<j→(⟨G,o+j,none⟩:Addr)≠⟨G,o,none⟩:=fun j hj e=>by injection e;omega
 rw[aR (ne 3 (by decide)),aR (ne 2 (by decide)),aR (ne 1 (by decide))]
 exact dS h
def zua (w:World) (e:Ending) (w':World):Prop :=
 ∃ (l:List Sn) (av:Option Addr) (cv:Nat) (ca:Option Addr) (cc n:Nat) (D:Nat→Int) (P:Nat→List Int),e=.returned (.tuple #[.slice av l.length cv,.slice ca n cc])∧zX l∧dF l∧l.length≤10∧RdS w' av l∧RdC w' ca D P n∧n≤41∧(∀ i,i<n→U8 (P i)∧(P i).length≤9)∧Below w.heap.size w w'
theorem zua.of {lo N vc n cc:Nat} {w u:World} {va ca:Option Addr} {rs:List Rs} {D:Nat→Int} {P:Nat→List Int} (h:kY lo u va N vc rs ca n cc D P) (hN:N≤10) (hb:Below w.heap.size w u):zua w (.returned (.tuple #[.slice va N vc,.slice ca n cc])) u:=by
 have hl:(rs.map Rs.s).length=N:=by rw[List.length_map];exact h.len
 refine ⟨rs.map Rs.s,va,vc,ca,cc,n,D,P,by rw[hl],h.lays.good,h.small,by omega,?_,h.ch.rd,by have:=h.right.many;omega,h.hP,hb⟩
 exact h.st.gs.rd
theorem uY (a:Option Addr) (cap:Nat) (zs:List Int) (w:World) (h:aO .u8 w a zs) (hu:U8 zs) (hl:zs.length≤1048576) :
  Calls Tryz.prog 20 #[.slice a zs.length cap] w (zua w):=by
 have HR:=aA h;have HU:=aA hu;have hl2:zs.length≤2097152:=by omega
 clear h hu;go_enter Tryz.func20,Tryz.ntmps20;go_wp2_with fail
 refine (za6 a cap zs _ HR.out).mono ?_;rintro r w1 ⟨rfl,s1,z1,b1⟩;have S1:=aA (show dL w1 w.heap.size zs 0 from ⟨0,by decide,by decide,s1⟩)
 have B1:=aA b1;have hp1:w.heap.size<w1.heap.size:=S1.out.lt;clear s1 b1 z1;obtain ⟨p,hp⟩:∃ p,p=w.heap.size:=⟨_,rfl⟩;rw[←hp]at S1 hp1 ⊢;have HPw:=aA hp;clear hp;have BEL:=aA (fun (u:World) (hk:aD (fun b=>b=p) w1 u)=>show Below w.heap.size w u from B1.out.trans (hk.below (B:=w.heap.size) B1.out.size (fun b hb e=>by have:=HPw.out;omega)))
 go_wp2_with fail
 refine (zze p zs 0 w1 S1.out HU.out (by decide) hl2).mono ?_
 rintro r w2 ⟨l,va,vc,rfl,hB⟩;have HB2:=aA hB;have hten:=hB.ten;clear hB S1;obtain ⟨t,ht0,ht1,hsr⟩:=HB2.out.src;have HB:=aA (zic p zs t w2 hsr HU.out ht0 (by omega) hl)
 clear hsr;go_wp2_with fail
 refine HB.out.mono ?_;rintro r w3 ⟨g3,cv3,n3,D3,P3,t3,rfl,hcv3,hn3,hL3,hG3,s3,ht3,ht4,k3⟩;have S3:=aA (show dL w3 p zs 30400 from ⟨t3,ht3,by omega,s3⟩)
 have K3:=aA (HB2.out.kept.trans k3);have HC3:=aA (hG3.mono (B':=w1.heap.size) HB2.out.kept.size);have HL3:=aA hL3;have hs2:=HB2.out.kept.size;have HG2:=aA (HB2.out.own.kept k3 (fun b hb e=>by omega))
 have HLy:=aA HB2.out.good;have HSm:=aA HB2.out.small;clear hcv3 hG3 s3 ht3 ht4 k3 hL3 HB HB2;obtain ⟨rs,hrs,hGR⟩:=GR.of HG2.out;have HGR:=aA hGR;have hrl:rs.length=l.length:=by rw[←hrs,List.length_map]
 have HRS:=aA hrs;clear hGR HG2 hrs;have HFT:=aA (pN (some ⟨g3,0,none⟩) cv3 n3 D3 P3 w3 HC3.out.rd (by omega) (fun i hi=>⟨(HL3.out i hi).1,by have:=(HL3.out i hi).2;omega⟩))
 obtain ⟨N,hN⟩:∃ N,N=l.length:=⟨_,rfl⟩;rw[←hN]at HGR hten ⊢;by_cases hf:fC D3 P3 n3=0
 ·have hR3:=pU hf
  rw[hf]at HFT;have W3:=aA (show kY w1.heap.size w3 va N vc rs (some ⟨g3,0,none⟩) n3 cv3 D3 P3 from ⟨by rw[HRS.out];exact HLy.out,by rw[HRS.out];exact HSm.out,by omega,HGR.out,HC3.out,hR3,fun i hi=>(HL3.out i hi).1⟩)
  clear hf hR3 HGR HC3 HL3 hn3 HLy HSm HRS hrl hN;go_wp2_with fail
  refine HFT.out.mono ?_;rintro r w4 ⟨rfl,hb4⟩;have W4:=aA (W3.out.below hb4);have S4:=aA (S3.out.below hb4);have K4:=aA (K3.out.trans (aD.of_below hb4));clear hb4 W3 S3 K3 HFT;go_wp2_with fail
  go_loopw [6,7,8,9,10,11] (fun v6 v7 _ _ _ _ wx=>∃ (i:Nat) (rs:List Rs) (ca:Option Addr) (n cc:Nat) (D:Nat→Int) (P:Nat→List Int),i≤N∧v6=.slice ca n cc∧v7=.int .i64 i∧Hid (kY w1.heap.size wx va N vc rs ca n cc D P)∧Hid (dL wx p zs (30400+400 * i))∧Hid (aD (fun b=>b=p) w1 wx)) (fun _ v7 _ _ _ _ _=>N - (intOf v7).toNat)
  case atStart=>exact ⟨0,rs,_,n3,cv3,D3,P3,Nat.zero_le _,rfl,rfl,W4,aA (by simpa using S4.out),K4⟩
  case round =>
   clear W4 S4 K4;obtain ⟨i,rs,ca,n,cc,D,P,hi,rfl,rfl,WW,SS,KK⟩:=hrel;by_cases hiN:i<N
   ·have hiN':(i:Int)<(N:Int):=by omega
    have hi0:(0:Int)≤(i:Int):=by omega
    obtain ⟨r0,hr0⟩:∃ r0,rs[i]?=some r0:=⟨rs[i]'(by rw[WW.out.len];exact hiN),List.getElem?_eq_getElem _⟩
    have h13:=(WW.out.lays r0.s (List.mem_map.2 ⟨r0,List.mem_of_getElem? hr0,rfl⟩)).2.1;obtain ⟨M,hM⟩:∃ M,M=r0.s.layer.length:=⟨_,rfl⟩;rw[←hM]at h13;have HX:=aA (show ∃ r,rs[i]?=some r∧r.s.layer.length=M from ⟨r0,hr0,hM.symm⟩)
    clear hr0 hM;go_wp2_with fail
    go_loopw [6,8,9,10,11] (fun v6 v8 _ _ _ wx=>∃ (k:Nat) (rs:List Rs) (ca:Option Addr) (n cc:Nat) (D:Nat→Int) (P:Nat→List Int),k≤M∧v6=.slice ca n cc∧v8=.int .i64 k∧Hid (∃ r,rs[i]?=some r∧r.s.layer.length=M)∧Hid (kY w1.heap.size wx va N vc rs ca n cc D P)∧Hid (dL wx p zs (30400+400 * i+20 * k))∧Hid (aD (fun b=>b=p) w1 wx)) (fun _ v8 _ _ _ _=>M - (intOf v8).toNat)
    case atStart=>exact ⟨0,rs,ca,n,cc,D,P,Nat.zero_le _,rfl,rfl,HX,WW,aA (by simpa using SS.out),KK⟩
    case round =>
     clear WW SS KK HX;obtain ⟨k,rs,ca,n,cc,D,P,hk,rfl,rfl,HX,WW,SS,KK⟩:=hrel;obtain ⟨r,hr,hrM⟩:=HX.out;obtain ⟨g,hva,hgB,hgl,c0⟩:=WW.out.st.rowAt hr;subst hva;rw[hrM]at c0;by_cases hkM:k<M
     ·have hkM':(k:Int)<(M:Int):=by omega
      have hk0:(0:Int)≤(k:Int):=by omega
      obtain ⟨e,he⟩:∃ e,r.s.layer[k]?=some e:=⟨_,List.getElem?_eq_getElem (by omega)⟩
      obtain ⟨G,y,yc,hG,hGB,hGl,z0,z1,z2,z3,hfr⟩:=(WW.out.st.2 r (List.mem_of_getElem? hr)).entAt he;rw[hG]at c0;have HGa:=aA hG;have HRr:=aA hr;have HEe:=aA he;have HRM:=aA hrM;generalize r.c=rc at *;have hgp:g≠p:=fun e9=>by omega
      have hGp:G≠p:=fun e9=>by omega
      have KB:=aA (fun (u:World) (hu:aD (fun b=>b=p) wr u)=>show u.cell? ⟨g,i * 5+4,none⟩=some (.slice (some ⟨G,0,none⟩) M rc)∧u.cell? ⟨G,k * 4,none⟩=some (.string (str e.path))∧u.cell? ⟨G,k * 4+1,none⟩=some (.int .i64 e.kind) from ⟨(hu.cell (p:=⟨g,i * 5+4,none⟩) hgl hgp).trans c0,(hu.cell (p:=⟨G,k * 4,none⟩) hGl hGp).trans z0,(hu.cell (p:=⟨G,k * 4+1,none⟩) hGl hGp).trans z1⟩)
      have hGg:G≠g:=fun e9=>by
       subst e9;have h9:=WW.out.st.2 r (List.mem_of_getElem? HRr.out);rw[HGa.out]at h9;obtain ⟨qs,-,q2,-⟩:=h9;exact aX WW.out.st.1 q2 (by decide) rfl rfl
      clear hG hr he hrM z0 z1 z2 z3 hfr;go_wp2_with fail
      refine (fK p zs _ 3 _ SS.out HU.out (by omega) (by decide) (by decide) hl2).mono ?_
      rintro e9 w5 ⟨nv,rfl,hnv,s5,k5⟩;have S5:=aA s5;have K5:=aA k5;obtain ⟨m,hm1,hm2⟩:∃ m:Nat,(m:Int)=1+(nv:Int)∧m≤3:=⟨1+nv,by omega,by omega⟩
      have hwn:IntKind.i64.wrap (1+(nv:Int))=(m:Int):=by rw[←hm1];simp[IntKind.wrap,IntKind.signed,IntKind.bits];omega
      clear s5 k5 hnv hm1 c0;go_wp2_with fail
      refine (zn7 p m zs _ _ S5.out HU.out (by omega) hl2 (by omega)).mono ?_
      rintro e9 w6 ⟨a6,c6,ds,rfl,hdl,hud,ho6,s6,k6⟩;subst hdl;have S6:=aA s6;have K6:=aA (K5.out.trans k6);have O6:=aA ho6;have hcap:=kM ho6;have UD:=aA hud;have W6:=aA (WW.out.kept K6.out (fun b e=>by omega))
      have hs6:=K6.out.size;have hwl:=KK.out.size;have hs56:=k6.size;have hs5w:=K5.out.size;clear s6 k6 ho6 hud S5 WW;obtain ⟨c0,z0,z1⟩:=KB.out w6 K6.out;by_cases hk1:e.kind=1
      ·have hkb:(e.kind==1)=true:=by simpa using hk1
       have HK1:=aA hk1;go_wp2_with fail
       clear c0 z0 z1 hk1;refine (tB p zs _ 2 _ S6.out HU.out (by omega) (by decide) (by decide) hl2).mono ?_
       rintro e9 w7 ⟨bb,rfl,s7,k7⟩;have S7:=aA s7;have K7:=aA (K6.out.trans k7);have W7:=aA (W6.out.kept k7 (fun b e=>by omega))
       have O7:=aA (aH O6.out k7 (fun b hb e=>by have:=(O6.out.lt b hb).1;omega))
       have hs7:=k7.size;clear s7 k7 S6 W6 O6;cases bb with
       | false =>
        go_wp2_with fail
        go_roundw
        case rel=>exact ⟨k+1,rs,ca,n,cc,D,P,by omega,rfl,by go_num,HX,W7,aA (S7.out.mono (by omega)),KK.out.trans K7.out⟩
        case measure=>simp[intOf];omega
       | true =>
        have KD:=aA (K7.out.trans (aD.of_below (Below.refl w7.heap.size w7).drew));obtain ⟨c0,z0,z1⟩:=KB.out w7 K7.out;go_upto_region 13 with fail
        clear c0 z0 z1;go_region_held3 (fun u=>u.cell? ⟨g,i * 5+4,none⟩=some (.slice (some ⟨G,0,none⟩) M rc)∧u.cell? ⟨G,k * 4,none⟩=some (.string (str e.path))) (first | exact ⟨(KB.out _ KD.out).1,(KB.out _ KD.out).2.1⟩ | exact ⟨(KB.out _ K14.out).1,(KB.out _ K14.out).2.1⟩ | exact KS.out | go_keep)
         ((go_at_call 58;refine (qA e.path a6 c6 ds _ (cM (aG O7.out (Below.refl w7.heap.size w7).drew) rfl) UD.out hcap (by omega)).mono ?_;rintro r9 w14 ⟨av,cv2,rfl,ho5,hb5⟩;have O14:=aA ho5;have K14:=aA (KD.out.trans (aD.of_below hb5));have B14:=aA ((Below.refl w7.heap.size w7).drew.trans hb5);have W14:=aA (W7.out.below B14.out);obtain ⟨G5,y5,yc5,hG5,-,hGl5,m0,m1,m2,m3,mf⟩:=(W14.out.st.2 r (List.mem_of_getElem? HRr.out)).entAt HEe.out;have e5:G=G5:=(by have h9:=HGa.out.symm.trans hG5;simpa using h9);subst e5;have mf0:=mf (k * 4);have mf1:=mf (k * 4+1);have mf2:=mf (k * 4+2);have mf3:=mf (k * 4+3);have hg5:g<w14.heap.size:=World.block_lt_of_cell? w14 ⟨g,i * 5+4,none⟩ (KB.out _ K14.out).1;have KS:=aA (And.intro (((nK w14 G (k * 4) (.string (str e.path)) (.int .i64 1) (.int .i64 ds.length) (.slice av (cut ds).length cv2)).cell (p:=⟨g,i * 5+4,none⟩) hg5 (fun e9=>hGg e9.symm)).trans (KB.out _ K14.out).1) (zsb (u0:=.string (str e.path)) (u1:=.int .i64 1) (u2:=.int .i64 ds.length) (u3:=.slice av (cut ds).length cv2) m0));clear ho5 hb5 mf hG5))
        have KW:=aA (nK w14 G (k * 4) (.string (str e.path)) (.int .i64 1) (.int .i64 ds.length) (.slice av (cut ds).length cv2));have STR:=aA (kY.store W14.out HRr.out HGa.out HEe.out HK1.out (by omega) (aS O14.out (by show w1.heap.size≤w7.heap.size;omega)))
        have h14:=W14.out.st.2 r (List.mem_of_getElem? HRr.out);rw[HGa.out]at h14;obtain ⟨qs,q1,qq2,q3⟩:=h14;have OD:=aA (aH (aG O7.out B14.out) KW.out (fun b hb hS=>by subst hS;exact aX qq2 (aG O7.out B14.out) (by decide) rfl hb))
        have S14:=aA ((S7.out.below B14.out).kept KW.out (fun b hb e9=>by omega))
        have K15:=aA (((KK.out.trans K14.out).trans_own KW.out (fun b hb e9=>by omega)))
        have HX2:=aA (show ∃ r',(rs.map (gA G k (bV e.path ds)))[i]?=some r'∧r'.s.layer.length=M from by obtain ⟨r',h1,h2⟩:=zzj (G:=G) (k:=k) (e:=bV e.path ds) HRr.out;exact ⟨r',h1,h2.trans HRM.out⟩)
        clear m0 m1 m2 m3 mf0 mf1 mf2 mf3 KS qs q1 qq2 q3 KB KD K14 W7 W14 B14 S7 O7 O14 hg5 SS KK KW HX hGl5;generalize ((((w14.setCell ⟨G,k * 4,none⟩ (.string (str e.path))).setCell ⟨G,k * 4+1,none⟩ (.int .i64 1)).setCell ⟨G,k * 4+2,none⟩ (.int .i64 ds.length)).setCell ⟨G,k * 4+3,none⟩ (.slice av (cut ds).length cv2))=W15 at *;generalize rs.map (gA G k (bV e.path ds))=rs2 at *;have RD:=aA (cM OD.out rfl);have HLB:=aA (yI ca cc n D P a6 c6 ds W15 STR.out.ch.rd STR.out.right RD.out UD.out hcap (by omega))
        have HU8:=aA (zd2 (s:=(D,P,n)) (Z:=dM ds) (fun i hi=>STR.out.u8 i hi) (fun j=>UD.out.piece j) (cut ds).length)
        generalize kU (D,P,n) (dM ds) (cut ds).length=RS at *;go_wp2_with fail
        refine HLB.out.mono ?_;rintro r9 w16 ⟨hpost,hb16⟩;have S16:=aA (S14.out.below hb16);have K16:=aA (K15.out.trans (aD.of_below hb16));have W16:=aA (STR.out.below hb16);cases RS with
        | none =>
         simp only at hpost;subst hpost;clear hb16;go_wp2_with fail
         go_roundw
         case rel=>exact ⟨k+1,rs2,ca,n,cc,D,P,by omega,rfl,by go_num,HX2,W16,aA (S16.out.mono (by omega)),K16⟩
         case measure=>simp[intOf];omega
        | some tt =>
         obtain ⟨D4,P4,n4⟩:=tt;simp only at hpost;obtain ⟨g4,cv4,rfl,hcv4,hR4,hG4⟩:=hpost;have hw15:=K15.out.size;have C4:=aA (show kY w1.heap.size w16 (some ⟨g,0,none⟩) N vc rs2 (some ⟨g4,0,none⟩) n4 cv4 D4 P4 from ⟨W16.out.lays,W16.out.small,W16.out.len,W16.out.st,hG4.ga.mono hw15,hR4,fun i hi=>HU8.out _ rfl i hi⟩)
         clear hb16 hR4 hG4;go_wp2_with fail
         go_roundw
         case rel=>exact ⟨k+1,rs2,some ⟨g4,0,none⟩,n4,cv4,D4,P4,by omega,rfl,by go_num,HX2,C4,aA (S16.out.mono (by omega)),K16⟩
         case measure=>simp[intOf];omega
      ·have hkb:(e.kind==1)=false:=by simpa using hk1
       clear hk1;go_wp2_with fail
       go_roundw
       case rel=>exact ⟨k+1,rs,ca,n,cc,D,P,by omega,rfl,by go_num,HX,W6,aA (S6.out.mono (by omega)),KK.out.trans K6.out⟩
       case measure=>simp[intOf];omega
     ·have hkM':¬ (k:Int)<(M:Int):=by omega
      go_wp2_with fail
      go_roundw
      case rel=>exact ⟨i+1,rs,ca,n,cc,D,P,by omega,rfl,by go_num,WW,aA (SS.out.mono (by omega)),KK⟩
      case measure=>simp[intOf];omega
   ·have hiN':¬ (i:Int)<(N:Int):=by omega
    go_wp2_with fail
    exact bodyPost_ret (v:=.tuple #[.slice va N vc,.slice ca n cc]) (by simp[results,Tryz.results20,go_sem]) rfl (zua.of WW.out hten (BEL.out _ KK.out))
 ·have hne:(fC D3 P3 n3==0)=false:=by simpa using hf
  generalize fC D3 P3 n3=F at *;go_wp2_with fail
  refine HFT.out.mono ?_;rintro r w4 ⟨rfl,hb4⟩;have K4:=aA (K3.out.trans (aD.of_below hb4));have G4:=aA (HGR.out.below hb4);have C4:=aA (HC3.out.below hb4);clear hb4;go_wp2_with fail
  go_ret2
  exact ⟨l,va,vc,_,cv3,n3,D3,P3,rfl,HLy.out.good,HSm.out,by omega,by rw[←HRS.out];exact G4.out.gs.rd,C4.out.rd,hn3,HL3.out,BEL.out _ K4.out⟩
end Go.Proofs.YtgaeikgoknoamaaGreat
namespace Go.Proofs.YtgaeikgoknoamaaGreat
theorem zwj {l:List Sn} {x p:Sn} (hp:atS l x.parent=some p):∀ (f:Nat) (o:Option Sn),(aL l f o).length<f→x∈aL l f o→p∈aL l f o
 | 0,o,h,hx=>by simp at h
 | f+1,none,h,hx=>by simp[aL]at hx
 | f+1,some s,h,hx=>by
  simp only[aL,List.length_cons,List.mem_cons]at h hx ⊢;rcases hx with rfl | hx
  ·rw[hp]at h ⊢
   cases f with
   | zero=>omega
   | succ f=>exact .inr (by simp[aL])
  ·exact .inr (zwj hp f _ (by omega) hx)
def aU (l:List Sn):List Int:=l.foldl (fun acc s=>(cZ (dE s.layer)).foldl dR acc) []
theorem vF (l:List Sn) (s:Sn):aU (l ++ [s])=(cZ (dE s.layer)).foldl dR (aU l):=by simp[aU]
theorem zth {zs:List Int} {z c:Int}:c∈dR zs z↔c∈zs∨c=z:=by
 unfold dR;split
 ·rename_i h
  constructor
  ·exact .inl
  ·rintro (h1 | rfl)
   ·exact h1
   ·simpa using h
 ·simp
theorem zJ {zs acc:List Int} {c:Int}:c∈zs.foldl dR acc↔c∈acc∨c∈zs:=by
 induction zs generalizing acc with
 | nil=>simp
 | cons z zs ih =>
  rw[List.foldl_cons,ih,zth];simp only[List.mem_cons];exact ⟨fun h=>by rcases h with (h | h) | h <;> simp[h],fun h=>by rcases h with h | h | h <;> simp[h]⟩
theorem yN {l:List Sn} {c:Int}:c∈aU l↔∃ s∈l,c∈dE s.layer:=by
 have key:∀ (l:List Sn) (acc:List Int),c∈l.foldl (fun acc s=>(cZ (dE s.layer)).foldl dR acc) acc↔c∈acc∨∃ s∈l,c∈dE s.layer:=by
  intro l
  induction l with
  | nil=>simp
  | cons s l ih =>
   intro acc;rw[List.foldl_cons,ih,zJ];have:c∈cZ (dE s.layer)↔c∈dE s.layer:=by
    unfold cZ;rw[zJ];simp
   rw[this];simp only[List.mem_cons,exists_eq_or_imp];exact or_assoc
 unfold aU;rw[key];simp
end Go.Proofs.YtgaeikgoknoamaaGreat
namespace Go.Proofs.YtgaeikgoknoamaaGreat
open Go.RowKit Go.Maps
def ztg (zs:List Int) (i:Nat):Option Int:=if 0≤zs.getD i 0∧zs.getD i 0≤4294967295 then none else some 3
def zql (zs:List Int):Int:=if 3<zs.length then 2 else eX (ztg zs) 0 zs.length
def zbm (F:Int) (zs:List Int):Int:=if F=0 then zql zs else F
theorem wY {P:Program} {wr:World} {ops:Array Oper} {rest:List Oper} {o:Oper} {a:Act} {Q:Exit→Act→World→Prop} (hgd:o.guard=none) (s x:Operand) (t:TypeId)
  (ho:o.op=.call { callee:=.builtin .append,args:=#[s,x],argTypes:=#[t,t] })
  (base:Nat) (e:TypeId) (i:TypeInfo) (k:IntKind) (bytes:Nat) (ht:P.underlying t=some (.slice e)) (hi:P.info? e=some i) (hz:i.zero=some (.int k 0))
  (hsize:i.size=1) (hby:i.bytes=bytes) (v:Value) (n:Nat) (ys:List Int) (hs:a.eval s=v) (hown:wr.ownsRow base e 1 v n (ys.map (Value.int k)))
  (b off m cap:Nat) (zs:List Int) (hx:a.eval x=.slice (some ⟨b,off,none⟩) m cap) (hm:m=zs.length) (hc:∀ i,i<zs.length→wr.cell? ⟨b,off+i,none⟩=some (.int k (zs.getD i 0)))
  (h63:n+m≤maxLen) (hbytes:(n+m) * bytes≤140737488355328) (hbase:base≤wr.heap.size)
  (h:∀ v' w',w'.ownsRow base e 1 v' (n+m) ((ys++zs).map (Value.int k))→aD (fun b=>v.ownBlock=some b) wr w'→wpList P ops Q rest (a.put o.dst v') w') :
  wpList P ops Q (o :: rest) a wr:=by
 refine wpList_append_own _ hgd s x t ho base e i (.int k 0) 1 bytes ht hi hz hsize hby rfl (by decide) v n _ hs hown ⟨b,off,none⟩ m cap (zs.map (Value.int k)) hx (by simp[hm]) (fun j u hj=>lS hc j u hj) (oC _ _) h63 hbytes hbase ?_
 intro v' w' ho' hg _;refine h v' w' (by rw[List.map_append];exact ho') ⟨hg.os,hg.tape,hg.output,hg.size,fun q hq hn=>hg.block q hq (fun e=>hn e.symm)⟩
def lZ (js:Nat→List Int) (k:Nat):List Int:=(List.range k).flatMap js
end Go.Proofs.YtgaeikgoknoamaaGreat
