/-
  Texts put together: IteA EntL LayQ PathQ.
-/
import Derived.Test.YtgaeikgoknoamaaGreatKKeeps2
set_option linter.unusedVariables false
set_option maxHeartbeats 2000000
set_option maxRecDepth 100000
namespace Go.Proofs.YtgaeikgoknoamaaGreat
open Go.RowKit
theorem yH (n:Int) (w:World):Calls Tryz.prog 127 #[.int .i64 n] w fun e w'=>e=.returned (.bool (fO n))∧w'=w:=by
 by_cases h0:0≤n
 ·by_cases h1:n≤4294967295
  ·have e:fO n=true:=decide_eq_true ⟨h0,h1⟩
   rw[e];go_enter Tryz.func127,Tryz.ntmps127;go_wp2
   go_ret
   exact ⟨rfl,rfl⟩
  ·have e:fO n=false:=decide_eq_false (fun h=>h1 h.2)
   rw[e];go_enter Tryz.func127,Tryz.ntmps127;go_wp2
   go_ret
   exact ⟨rfl,rfl⟩
 ·have e:fO n=false:=decide_eq_false (fun h=>h0 h.1)
  rw[e];go_enter Tryz.func127,Tryz.ntmps127;go_wp2
  go_ret
  exact ⟨rfl,rfl⟩
theorem lO (p:ByteArray) (k z:Int) (a:Option Addr) (n c:Nat) (w:World) :
  Calls Tryz.prog 45 #[.agg #[.string p,.int .i64 k,.int .i64 z,.slice a n c]] w fun r w'=>r=.returned (.agg #[.int .i64 z,.slice a n c,.string p,.int .i64 k])∧Below w.heap.size w w':=by
 go_enter Tryz.func45,Tryz.ntmps45;go_wp2
 refine bodyPost_ret (v:=.agg #[.int .i64 z,.slice a n c,.string p,.int .i64 k]) (by simp[results,Tryz.results45,go_sem]) rfl ⟨rfl,?_⟩
 exact aB (aC _ _) (aC _ _)
theorem zcc (p:ByteArray) (k z:Int) (a:Option Addr) (n c:Nat) (w:World) :
  Calls Tryz.prog 174 #[.agg #[.int .i64 z,.slice a n c,.string p,.int .i64 k]] w fun r w'=>r=.returned (.bool (decide (1≤k∧k≤4)))∧Below w.heap.size w w':=by
 by_cases h0:1≤k
 ·by_cases h1:k≤4
  ·have e:decide (1≤k∧k≤4)=true:=decide_eq_true ⟨h0,h1⟩
   rw[e];go_enter Tryz.func174,Tryz.ntmps174;go_wp2
   go_ret
   exact ⟨rfl,aC _ _⟩
  ·have e:decide (1≤k∧k≤4)=false:=decide_eq_false (fun h=>h1 h.2)
   rw[e];go_enter Tryz.func174,Tryz.ntmps174;go_wp2
   go_ret
   exact ⟨rfl,aC _ _⟩
 ·have e:decide (1≤k∧k≤4)=false:=decide_eq_false (fun h=>h0 h.1)
  rw[e];go_enter Tryz.func174,Tryz.ntmps174;go_wp2
  go_ret
  exact ⟨rfl,aC _ _⟩
theorem pB (p:ByteArray) (k z:Int) (a:Option Addr) (n c:Nat) (w:World) :
  Calls Tryz.prog 125 #[.agg #[.int .i64 z,.slice a n c,.string p,.int .i64 k]] w fun r w'=>r=.returned (.bool (bX k))∧Below w.heap.size w w':=by
 by_cases h0:k=2
 ·have e:bX k=true:=decide_eq_true (.inl h0)
  have hb:(k==2)=true:=by simp[h0]
  rw[e];clear e h0;go_enter Tryz.func125,Tryz.ntmps125;go_wp2
  go_ret
  exact ⟨rfl,aC _ _⟩
 ·have hb:(k==2)=false:=by simp[h0]
  by_cases h1:k=4
  ·have e:bX k=true:=decide_eq_true (.inr h1)
   have hb1:(k==4)=true:=by simp[h1]
   rw[e];clear e h0 h1;go_enter Tryz.func125,Tryz.ntmps125;go_wp2
   go_ret
   exact ⟨rfl,aC _ _⟩
  ·have e:bX k=false:=decide_eq_false (fun h=>h.elim h0 h1)
   have hb1:(k==4)=false:=by simp[h1]
   rw[e];clear e h0 h1;go_enter Tryz.func125,Tryz.ntmps125;go_wp2
   go_ret
   exact ⟨rfl,aC _ _⟩
theorem zp5 (z:Int) (a:Option Addr) (n c:Nat) (w:World) :
  Calls Tryz.prog 175 #[.agg #[.int .i64 z,.slice a n c]] w fun r w'=>r=.returned (.bool (decide (z≠0∨n≠0)))∧Below w.heap.size w w':=by
 by_cases h0:z=0
 ·have hb:(z != 0)=false:=by simp[h0]
  by_cases h1:n=0
  ·have e:decide (z≠0∨n≠0)=false:=decide_eq_false (fun h=>h.elim (fun h=>h h0) (fun h=>h h1))
   have hb1:((n:Int) != 0)=false:=by simp[h1]
   rw[e];clear e h0 h1;go_enter Tryz.func175,Tryz.ntmps175;go_wp2
   go_ret
   exact ⟨rfl,aC _ _⟩
  ·have e:decide (z≠0∨n≠0)=true:=decide_eq_true (.inr h1)
   have hb1:((n:Int) != 0)=true:=by simp;omega
   rw[e];clear e h0 h1;go_enter Tryz.func175,Tryz.ntmps175;go_wp2
   go_ret
   exact ⟨rfl,aC _ _⟩
 ·have e:decide (z≠0∨n≠0)=true:=decide_eq_true (.inl h0)
  have hb:(z != 0)=true:=by simp[h0]
  rw[e];clear e h0;go_enter Tryz.func175,Tryz.ntmps175;go_wp2
  go_ret
  exact ⟨rfl,aC _ _⟩
def lB (z:Int) (zs:List Int):Int:=if 0≤z∧z≤24 then (if (zs.length:Int)=(z+7) / 8 then (if zs.all fO then 0 else 3) else 1) else 3
theorem sQ {e:En} (h:aF e.path=0) (h1:gR e=true):aI e=lB e.size e.chunks:=by
 simp[aI,h,h1,lB,kW,lQ]
theorem sP (z:Int) (x:Option Addr) (c:Nat) (zs:List Int) (w:World) (h:aO .i64 w x zs) (hc:zs.length≤1048576) :
  Calls Tryz.prog 176 #[.agg #[.int .i64 z,.slice x zs.length c]] w fun r w'=>r=.returned (.int .i64 (lB z zs))∧Below w.heap.size w w':=by
 have HR:=aA h;clear h;by_cases h0:0≤z
 ·have h0':¬ z<0:=by omega
  by_cases h1:z≤24
  ·have h1':¬ 24<z:=by omega
   have ed:(z+7) / 8=(z+8 - 1) / 8:=by congr 1;omega
   by_cases hm:(zs.length:Int)=(z+7) / 8
   ·have HE:=aA (show lB z zs=if zs.all fO then 0 else 3 from by simp[lB,h0,h1,hm])
    have hmn:((zs.length:Int) != (z+8 - 1) / 8)=false:=by rw[←ed];simp;exact hm
    clear hm ed;have HR1:=aA (HR.out.below (aC w (.cells #[.int .i64 z,.slice x zs.length c] 89)));go_enter Tryz.func176,Tryz.ntmps176;go_wp2_with fail
    have HB:=aA (aC w (.cells #[.int .i64 z,.slice x zs.length c] 89));generalize w.alloc (.cells #[.int .i64 z,.slice x zs.length c] 89)=W at *;go_loop [25] (fun i=>∃ k:Nat,k≤zs.length∧i=.int .i64 k∧Hid ((zs.take k).all fO=true)) (fun i=>zs.length - (intOf i).toNat)
    case atStart=>exact ⟨0,Nat.zero_le _,rfl,aA (by simp)⟩
    case round =>
     obtain ⟨k,hk,rfl,HA⟩:=hrel;by_cases hlt:k<zs.length
     ·obtain ⟨b,off,rfl,hb1,hcc⟩:=HR1.out (by intro e;simp[e]at hlt)
      have hc1:=hcc k hlt;have hzk:zs[k]?=some (zs.getD k 0):=by rw[List.getD_eq_getElem?_getD,List.getElem?_eq_getElem hlt];rfl
      generalize zs.getD k 0=y at hc1 hzk;have HZ:=aA hzk;clear hcc hzk;cases hd:fO y
      ·have HX:=aA (show zs.all fO=false from by rw[List.all_eq_false];exact ⟨y,List.mem_of_getElem? HZ.out,by simp[hd]⟩)
       have HD:=aA hd;clear hd;go_wp2_with fail
       refine (yH _ _).mono ?_;rintro r w'' ⟨rfl,rfl⟩;rw[HD.out];go_wp2_with fail
       go_ret
       exact ⟨aM (by rw[HE.out,HX.out];rfl),HB.out⟩
      ·have HX:=aA (show (zs.take (k+1)).all fO=true from by rw[cT HZ.out];simp[HA.out,hd])
       have HD:=aA hd;clear hd;go_wp2_with fail
       refine (yH _ _).mono ?_;rintro r w'' ⟨rfl,rfl⟩;rw[HD.out];go_wp2_with fail
       go_round
       case rel=>exact ⟨k+1,by omega,by go_num,HX⟩
       case measure=>simp[intOf];omega
     ·have HX:=aA (show zs.all fO=true from by have:=HA.out;rwa [List.take_of_length_le (by omega)]at this)
      go_wp2_with fail
      go_ret
      exact ⟨aM (by rw[HE.out,HX.out];rfl),HB.out⟩
   ·have HE:=aA (show lB z zs=1 from by simp[lB,h0,h1,hm])
    have hmn:((zs.length:Int) != (z+8 - 1) / 8)=true:=by rw[←ed];simp;exact hm
    clear hm ed;go_enter Tryz.func176,Tryz.ntmps176;go_wp2_with fail
    go_ret
    exact ⟨aM HE.out.symm,aC _ _⟩
  ·have h1':24<z:=by omega
   have HE:=aA (show lB z zs=3 from by simp[lB,h1])
   clear h1;go_enter Tryz.func176,Tryz.ntmps176;go_wp2_with fail
   go_ret
   exact ⟨aM HE.out.symm,aC _ _⟩
 ·have h0':z<0:=by omega
  have HE:=aA (show lB z zs=3 from by simp[lB,h0])
  clear h0;go_enter Tryz.func176,Tryz.ntmps176;go_wp2_with fail
  go_ret
  exact ⟨aM HE.out.symm,aC _ _⟩
theorem vN (e:En) (x:Option Addr) (c n:Nat) (w:World) (h:aO .i64 w x e.chunks) (hn:n=e.chunks.length) (hp:e.path.length≤1048576) (hc:e.chunks.length≤1048576) :
  Calls Tryz.prog 133 #[.agg #[.string (str e.path),.int .i64 e.kind,.int .i64 e.size,.slice x n c]] w fun r w'=>r=.returned (.int .i64 (aI e))∧Below w.heap.size w w':=by
 subst hn;have HR:=aA h;clear h;have HN:=aA (aC w (.cells #[.string (str e.path),.int .i64 e.kind,.int .i64 e.size,.slice x e.chunks.length c] 87));have HB:=aA (dI.new w (.string (str e.path)) (.int .i64 e.kind) (.int .i64 e.size) (.slice x e.chunks.length c) 87);by_cases hf:aF e.path=0
 ·go_enter Tryz.func133,Tryz.ntmps133
  go_wp2_with fail
  refine (jQ _ _ (by rw[aP];omega)).mono ?_
  rintro r w1 ⟨rfl,hb1⟩;rw[bD,hf];have HB1:=aA (aB HN.out hb1);have hB:=HB.out.below hb1;clear HB HN hb1;obtain ⟨c0,c1,c2,c3⟩:=hB;generalize w.heap.size=bk at c0 c1 c2 c3 ⊢;go_wp2_with fail
  refine (lO _ _ _ _ _ _ _).mono ?_;rintro r w2 ⟨rfl,hb2⟩;have HB2:=aA (aB HB1.out hb2);clear HB1 hb2 c0 c1 c2 c3;go_wp2_with fail
  have F2:=aA (dI.new w2 (.int .i64 e.size) (.slice x e.chunks.length c) (.string (str e.path)) (.int .i64 e.kind) 91);have HB3:=aA (aB HB2.out (aC w2 (.cells #[.int .i64 e.size,.slice x e.chunks.length c,.string (str e.path),.int .i64 e.kind] 91)));generalize w2.alloc (.cells #[.int .i64 e.size,.slice x e.chunks.length c,.string (str e.path),.int .i64 e.kind] 91)=W3 at *;generalize w2.heap.size=b2 at *;refine (zcc _ _ _ _ _ _ _).mono ?_;rintro r w4 ⟨rfl,hb4⟩;have F4:=F2.out.below hb4;have HB4:=aA (aB HB3.out hb4);clear hb4 HB3 HB2 F2;obtain ⟨f0,f1,f2,f3⟩:=F4
  by_cases hk:1≤e.kind∧e.kind≤4
  ·rw[decide_eq_true hk]
   by_cases hk1:e.kind=1
   ·have HE:=aA (sQ hf (decide_eq_true ⟨hk,Or.inl hk1⟩))
    have hkn:(e.kind != 1)=false:=by simp[hk1]
    clear hk hk1 hf;have HR4:=aA (HR.out.below HB4.out);go_wp2_with fail
    refine (sP _ _ _ _ _ HR4.out hc).mono ?_;rintro r w5 ⟨rfl,hb5⟩;have HB5:=aA (aB HB4.out hb5);clear hb5;go_wp2_with fail
    go_ret
    exact ⟨aM HE.out.symm,HB5.out⟩
   ·have hkn:(e.kind != 1)=true:=by simp[hk1]
    have HK1:=aA hk1;have HK:=aA hk;clear hk1 hk;go_wp2_with fail
    refine (zp5 _ _ _ _ _).mono ?_;rintro r w5 ⟨rfl,hb5⟩;have HB5:=aA (aB HB4.out hb5);have g0:=(hb5.cell (p:=⟨b2,0,none⟩) (World.block_lt_of_cell? _ _ f0)).trans f0;have g1:=(hb5.cell (p:=⟨b2,1,none⟩) (World.block_lt_of_cell? _ _ f1)).trans f1;clear hb5 f0 f1 f2 f3;by_cases hz:e.size≠0∨e.chunks.length≠0
    ·rw[decide_eq_true hz]
     have HE:=aA (gG hf (decide_eq_false (fun h=>h.2.elim HK1.out (fun h=>hz.elim (fun q=>q h.1) (fun q=>q h.2)))))
     clear hz hf;go_wp2_with fail
     go_ret
     exact ⟨aM HE.out.symm,HB5.out⟩
    ·rw[decide_eq_false hz]
     have HE:=aA (sQ hf (decide_eq_true ⟨HK.out,Or.inr (by omega)⟩))
     clear hz hf;have HR5:=aA (HR.out.below HB5.out);go_wp2_with fail
     refine (sP _ _ _ _ _ HR5.out hc).mono ?_;rintro r w6 ⟨rfl,hb6⟩;have HB6:=aA (aB HB5.out hb6);clear hb6;go_wp2_with fail
     go_ret
     exact ⟨aM HE.out.symm,HB6.out⟩
  ·rw[decide_eq_false hk]
   have HE:=aA (gG hf (decide_eq_false (fun h=>hk h.1)))
   clear hk hf;go_wp2_with fail
   go_ret
   exact ⟨aM HE.out.symm,HB4.out⟩
 ·rw[pH hf]
  go_enter Tryz.func133,Tryz.ntmps133;go_wp2_with fail
  refine (jQ _ _ (by rw[aP];omega)).mono ?_
  rintro r w1 ⟨rfl,hb1⟩;rw[bD];have HB1:=aA (aB HN.out hb1);clear hb1 HN HB HR;go_wp2_with fail
  go_ret
  exact ⟨rfl,HB1.out⟩
def atE (es:List En) (p:Bs):Option Nat:=es.findIdx? fun e=>decide (e.path=p)
theorem aN (a:Bs):(str a).toList=a:=by rw[ByteArray.toList_eq,bD]
theorem kN {a b:Bs} (h:a=b):((str a).toList==(str b).toList)=true:=by rw[h];simp
theorem mE {a b:Bs} (h:a≠b):((str a).toList==(str b).toList)=false:=by rw[aN,aN,beq_eq_false_iff_ne];exact h
theorem zra (a b:Bs):((str a).toList==(str b).toList)=decide (a=b):=by
 by_cases h:a=b
 ·rw[kN h,decide_eq_true h]
 ·rw[mE h,decide_eq_false h]
def cR (o:Option Nat):Int:=match o with | some i=>(i:Int) | none=>-1
theorem eS {α:Type} {es:List α} {k:Nat} {e:α} (h:es[k]?=some e):es.drop k=e :: es.drop (k+1):=by
 obtain ⟨hk,he⟩:=List.getElem?_eq_some_iff.1 h;rw[List.drop_eq_getElem_cons hk,he]
theorem zej {es:List En} {p:Bs} {k:Nat} {e:En} (h:es[k]?=some e) (hi:atE es p=(atE (es.drop k) p).map (· + k)) (hp:e.path=p):atE es p=some k:=by
 rw[hi,eS h];simp[atE,List.findIdx?_cons,hp]
theorem zpg {es:List En} {p:Bs} {k:Nat} {e:En} (h:es[k]?=some e) (hi:atE es p=(atE (es.drop k) p).map (· + k)) (hp:e.path≠p):atE es p=(atE (es.drop (k+1)) p).map (· + (k+1)):=by
 rw[hi,eS h];simp only[atE,List.findIdx?_cons,hp,decide_false,Bool.false_eq_true,if_false,Option.map_map]
 congr 1
 funext x
 simp only[Function.comp];omega
theorem zdj {es:List En} {p:Bs} {k:Nat} (hk:es.length≤k) (hi:atE es p=(atE (es.drop k) p).map (· + k)):atE es p=none:=by
 rw[hi,List.drop_eq_nil_of_le hk];rfl
theorem nY (es:List En) (p:Bs):aK es p=(atE es p).bind (fun i=>es[i]?):=by
 unfold aK atE
 induction es with
 | nil=>rfl
 | cons e r ih =>
  by_cases h:e.path=p
  ·simp[List.findIdx?_cons,h]
  ·simp only[List.findIdx?_cons,List.find?_cons,h,decide_false,Bool.false_eq_true,if_false,ih]
   cases List.findIdx? (fun e=>decide (e.path=p)) r <;> simp
theorem oT {es:List En} {p:Bs} {k:Nat} (h:atE es p=some k):k<es.length:=by
 unfold atE at h;exact (List.findIdx?_eq_some_iff_getElem.1 h).1
theorem iI (a:Option Addr) (c n:Nat) (es:List En) (p:Bs) (w:World) (h:RdE w a es) (hn:n=es.length) (hl:es.length≤1048576) :
  Calls Tryz.prog 189 #[.slice a n c,.string (str p)] w fun r w'=>r=.returned (.int .i64 (cR (atE es p)))∧w'=w:=by
 subst hn;have HR:=aA h;clear h;go_enter Tryz.func189,Tryz.ntmps189;go_wp2_with fail
 go_loop [5] (fun i=>∃ k:Nat,k≤es.length∧i=.int .i64 k∧Hid (atE es p=(atE (es.drop k) p).map (· + k))) (fun i=>es.length - (intOf i).toNat)
 case atStart=>exact ⟨0,Nat.zero_le _,rfl,aA (by simp)⟩
 case round =>
  obtain ⟨k,hk,rfl,HA⟩:=hrel;by_cases hlt:k<es.length
  ·obtain ⟨b,off,e,x,cc,rfl,hb,he,c0,c1,c2,c3,hr⟩:=HR.out.at hlt
   have HX:=aA he;clear he hr;by_cases hp:e.path=p
   ·have HE:=aA (zej HX.out HA.out hp)
    have hs:=kN hp;clear hp;go_wp2_with fail
    go_ret
    exact ⟨aM (by rw[HE.out];rfl),rfl⟩
   ·have HE:=aA (zpg HX.out HA.out hp)
    have hs:=mE hp;clear hp;go_wp2_with fail
    go_round
    case rel=>exact ⟨k+1,by omega,by go_num,HE⟩
    case measure=>simp[intOf];omega
  ·have HE:=aA (zdj (by omega) HA.out)
   go_wp2_with fail
   go_ret
   exact ⟨aM (by rw[HE.out];rfl),rfl⟩
theorem cX (b o:Nat) (k:Int) (w:World) (h:w.cell? ⟨b,o+1,none⟩=some (.int .i64 k)) :
  Calls Tryz.prog 190 #[.pointer (some ⟨b,o,none⟩)] w fun r w'=>r=.returned (.bool (bX k))∧w'=w:=by
 by_cases h2:k=2
 ·have hk:bX k=true:=by simp[bX,h2]
  rw[hk];subst h2;go_enter Tryz.func190,Tryz.ntmps190;go_wp2_with fail
  go_ret
  exact ⟨rfl,rfl⟩
 ·have hk:bX k=(k==4):=by simp[bX,h2];rfl
  have hf:(k==2)=false:=by simp;exact h2
  rw[hk];go_enter Tryz.func190,Tryz.ntmps190;go_wp2_with fail
  go_ret
  exact ⟨rfl,rfl⟩
theorem zre {es:List En} {p:Bs} (h:aE p=[]):eI es p=true:=by simp[eI,h]
theorem zwb {es:List En} {p:Bs} (h:aE p≠[]) (ha:atE es (aE p)=none):eI es p=false:=by simp[eI,h,nY,ha]
theorem zxb {es:List En} {p:Bs} {k:Nat} {e:En} (h:aE p≠[]) (ha:atE es (aE p)=some k) (he:es[k]?=some e):eI es p=bX e.kind:=by simp[eI,h,nY,ha,he]
theorem rY (a:Bs):(str a).toList.isEmpty=decide (a=[]):=by rw[aN];cases a <;> rfl
theorem tO (a:Option Addr) (c n:Nat) (es:List En) (p:Bs) (w:World) (h:RdE w a es) (hn:n=es.length) (hl:es.length≤1048576) (h1:1≤p.length) (hp:p.length≤1048576) :
  Calls Tryz.prog 161 #[.slice a n c,.string (str p)] w fun r w'=>r=.returned (.bool (eI es p))∧Below w.heap.size w w':=by
 subst hn;have HR:=aA h;clear h;have HP:=aA (show (bJ (bF (str p).data.toList.tail)).getLastD []=aE p from by rw[bD];rfl)
 by_cases hq:aE p=[]
 ·have HE:=aA (zre (es:=es) hq)
  have hs:=(rY (aE p)).trans (decide_eq_true hq);clear hq;go_enter Tryz.func161,Tryz.ntmps161;go_wp2_with fail
  refine (iU _ _ (by rw[aP];omega) (by rw[aP];omega)).mono ?_
  rintro r w1 ⟨rfl,hb⟩;rw[HP.out];have HB:=aA hb;clear hb;go_wp2_with fail
  go_ret
  exact ⟨by rw[HE.out];rfl,HB.out⟩
 ·have hs:=(rY (aE p)).trans (decide_eq_false hq)
  cases ha:atE es (aE p) with
  | none =>
   have HE:=aA (zwb hq ha);have HA:=aA ha;clear hq ha;go_enter Tryz.func161,Tryz.ntmps161;go_wp2_with fail
   refine (iU _ _ (by rw[aP];omega) (by rw[aP];omega)).mono ?_
   rintro r w1 ⟨rfl,hb⟩;rw[HP.out];have HB:=aA hb;have HR1:=aA (HR.out.below hb);clear hb;go_wp2_with fail
   refine (iI _ _ _ es _ _ HR1.out rfl hl).mono ?_;rintro r w2 ⟨rfl,rfl⟩;rw[HA.out];simp only[cR];go_wp2_with fail
   go_ret
   exact ⟨by rw[HE.out];rfl,HB.out⟩
  | some k =>
   have hk:=oT ha;obtain ⟨e,he⟩:∃ e,es[k]?=some e:=⟨es[k],List.getElem?_eq_getElem hk⟩;have HE:=aA (zxb hq ha he);have HA:=aA ha;have HX:=aA he;clear hq ha he;go_enter Tryz.func161,Tryz.ntmps161;go_wp2_with fail
   refine (iU _ _ (by rw[aP];omega) (by rw[aP];omega)).mono ?_
   rintro r w1 ⟨rfl,hb⟩;rw[HP.out];have HB:=aA hb;have HR1:=aA (HR.out.below hb);clear hb;go_wp2_with fail
   refine (iI _ _ _ es _ _ HR1.out rfl hl).mono ?_;rintro r w2 ⟨rfl,rfl⟩;rw[HA.out];simp only[cR];obtain ⟨b,off,e',x,cc,rfl,hbl,he',c0,c1,c2,c3,hr⟩:=HR1.out.at hk;have:e'=e:=Option.some.inj (he'.symm.trans HX.out);subst this;clear he' hr;go_wp2_with fail
   refine (cX _ _ _ _ c1).mono ?_;rintro r w3 ⟨rfl,rfl⟩;go_wp2_with fail
   go_ret
   exact ⟨by rw[HE.out];rfl,HB.out⟩
theorem bQ {e:En} (h:aI e=0):aF e.path=0:=by
 by_cases hf:aF e.path=0
 ·exact hf
 ·rw[pH hf]at h;exact absurd h hf
theorem zib:aF []≠0:=by decide
theorem tZ {p:Bs} (h:aF p=0):1≤p.length:=by
 cases p with
 | nil=>exact absurd h zib
 | cons c r=>simp
theorem uV {es:List En} (h:12<es.length):cD es=2:=by simp[cD,h]
theorem zh6 {es:List En} (h:¬ 12<es.length):cD es=iB es (bW es 0) (es.drop 0):=by simp[cD,h,bW]
theorem za9 {es:List En} {k:Nat} {e:En} {F:Int} (hF:F=iB es (bW es k) (es.drop k)) (he:es[k]?=some e) (h:aI e≠0):F=aI e:=by
 have hb:jR es (bW es k) e=aI e:=by simp[jR,h]
 rw[hF,nO he,hb,if_neg h]
theorem zc9 {es:List En} {k:Nat} {e:En} {F:Int} (hF:F=iB es (bW es k) (es.drop k)) (he:es[k]?=some e) (h:aI e=0) (hl:gY (bW es k) e=true):F=1:=by
 have hb:jR es (bW es k) e=1:=by simp[jR,h,hl]
 rw[hF,nO he,hb];rfl
theorem vY {es:List En} {k:Nat} {e:En} {F:Int} (hF:F=iB es (bW es k) (es.drop k)) (he:es[k]?=some e) (h:aI e=0) (hl:gY (bW es k) e=false) (hh:eI es e.path=false):F=9:=by
 have hb:jR es (bW es k) e=9:=by simp[jR,h,hl,hh]
 rw[hF,nO he,hb];rfl
theorem vZ {es:List En} {k:Nat} {e:En} {F:Int} (hF:F=iB es (bW es k) (es.drop k)) (he:es[k]?=some e) (h:aI e=0) (hl:gY (bW es k) e=false) (hh:eI es e.path=true):F=iB es (bW es (k+1)) (es.drop (k+1)):=by
 have hb:jR es (bW es k) e=0:=by simp[jR,h,hl,hh]
 rw[hF,nO he,hb];rfl
theorem zb9 {es:List En} {k:Nat} {F:Int} (hF:F=iB es (bW es k) (es.drop k)) (hk:es.length≤k):F=0:=by
 rw[hF,List.drop_eq_nil_of_le hk];cases bW es k <;> rfl
theorem mB (a:Option Addr) (c n:Nat) (es:List En) (w:World) (h:RdE w a es) (hn:n=es.length) (hl:es.length≤1048576) (hs:cG es) :
  Calls Tryz.prog 112 #[.slice a n c] w fun r w'=>r=.returned (.int .i64 (cD es))∧Below w.heap.size w w':=by
 subst hn;by_cases hm:12<es.length
 ·have HE:=aA (uV hm)
  have hm2:(12:Int)<(es.length:Int):=by omega
  go_enter Tryz.func112,Tryz.ntmps112;go_wp2_with fail
  go_ret
  exact ⟨aM HE.out.symm,Below.refl _ _⟩
 ·have HE:=aA (zh6 hm)
  have hm2:¬ (12:Int)<(es.length:Int):=by omega
  generalize cD es=F at HE ⊢;have HR:=aA h;have HS:=aA hs;clear h hs;go_enter Tryz.func112,Tryz.ntmps112;go_wp2_with fail
  go_loopw [3] (fun i wr=>∃ k:Nat,k≤es.length∧i=.int .i64 k∧Hid (F=iB es (bW es k) (es.drop k))∧Hid (Below w.heap.size w wr)) (fun i _=>es.length - (intOf i).toNat)
  case atStart=>exact ⟨0,Nat.zero_le _,rfl,HE,aA (Below.refl _ _)⟩
  case round =>
   obtain ⟨k,hk,rfl,HF,HW⟩:=hrel;have HR1:=aA (HR.out.below HW.out);by_cases hlt:k<es.length
   ·obtain ⟨b,off,e,x,cc,rfl,hb,he,c0,c1,c2,c3,hr⟩:=HR1.out.at hlt
    have HX:=aA he;have HRc:=aA hr;have hsm:=HS.out e (List.mem_of_getElem? he);clear he hr;by_cases hz:aI e=0
    ·have hpos:=tZ (bQ hz)
     have HZ:=aA hz;clear hz;go_wp2_with fail
     refine (lK e _ _ _ _ HRc.out rfl hsm.1 hsm.2).mono ?_;rintro r w1 ⟨rfl,hb1⟩;rw[HZ.out];have HW1:=aA (aB HW.out hb1);have HR2:=aA (HR1.out.below hb1);clear hb1 c0 c1 c2 c3 HW HRc;obtain ⟨b',off',e',x',cc',hbb,hb',he',c0,c1,c2,c3,hr'⟩:=HR2.out.at hlt;simp only[Option.some.injEq,Addr.mk.injEq,and_true]at hbb;obtain ⟨rfl,rfl⟩:=hbb;have:e'=e:=Option.some.inj (he'.symm.trans HX.out);subst this;clear he' hr' c1 c2 c3 HR1;cases k with
     | zero =>
      have HL:=aA (show gY (bW es 0) e'=false from rfl)
      simp only[Nat.zero_mul,Nat.add_zero]at c0;go_wp2_with fail
      go_quiet (fail)
      go_wp2_with fail
      have HW2:=aA (below_drewN HW1.out nq);have HR3:=aA (HR2.out.below (below_drewN (Below.refl w1.heap.size w1) nq));clear HW1 HR2;have hw3:∀ o,(w1.drewN nq).cell? ⟨b,o,none⟩=w1.cell? ⟨b,o,none⟩:=fun _=>rfl
      generalize w1.drewN nq=W at *;have HH:=aA (tO _ c es.length es e'.path W HR3.out rfl (by omega) hpos hsm.1)
      cases hh:eI es e'.path
      ·have HO:=aA (vY HF.out HX.out HZ.out HL.out hh)
       refine HH.out.mono ?_;rintro r w4 ⟨rfl,hb4⟩;rw[hh];clear hh;have HW3:=aA (aB HW2.out hb4);clear hb4;go_wp2_with fail
       go_ret
       exact ⟨aM HO.out.symm,HW3.out⟩
      ·have HO:=aA (vZ HF.out HX.out HZ.out HL.out hh)
       refine HH.out.mono ?_;rintro r w4 ⟨rfl,hb4⟩;rw[hh];clear hh;have HW3:=aA (aB HW2.out hb4);clear hb4;go_wp2_with fail
       go_roundw
       case rel=>exact ⟨1,by omega,by go_num,HO,HW3⟩
       case measure=>simp[intOf];omega
     | succ j =>
      have hg:(0:Int)<((j+1:Nat):Int):=by omega
      obtain ⟨b2,off2,e2,x2,cc2,hbb,hb2,he2,d0,d1,d2,d3,hr2⟩:=HR2.out.at (show j<es.length by omega)
      simp only[Option.some.injEq,Addr.mk.injEq,and_true]at hbb;obtain ⟨rfl,rfl⟩:=hbb;have HL:=aA (show gY (bW es (j+1)) e'=(Op.bytesLess e'.path e2.path||(e'.path==e2.path)) from by simp[bW,gY,he2])
      clear he2 d1 d2 d3 hr2;cases hlow:(Op.bytesLess (str e'.path).toList (str e2.path).toList||((str e'.path).toList==(str e2.path).toList))
      ·have HL2:=aA (show gY (bW es (j+1)) e'=false from by rw[HL.out];rw[aN,aN]at hlow;exact hlow)
       go_wp2_with fail
       go_quiet (fail)
       go_wp2_with fail
       have HW2:=aA (below_drewN HW1.out nq);have HR3:=aA (HR2.out.below (below_drewN (Below.refl w1.heap.size w1) nq));clear HW1 HR2;have hw3:∀ o,(w1.drewN nq).cell? ⟨b,o,none⟩=w1.cell? ⟨b,o,none⟩:=fun _=>rfl
       generalize w1.drewN nq=W at *;have HH:=aA (tO _ c es.length es e'.path W HR3.out rfl (by omega) hpos hsm.1)
       cases hh:eI es e'.path
       ·have HO:=aA (vY HF.out HX.out HZ.out HL2.out hh)
        refine HH.out.mono ?_;rintro r w4 ⟨rfl,hb4⟩;rw[hh];clear hh;have HW3:=aA (aB HW2.out hb4);clear hb4;go_wp2_with fail
        go_ret
        exact ⟨aM HO.out.symm,HW3.out⟩
       ·have HO:=aA (vZ HF.out HX.out HZ.out HL2.out hh)
        refine HH.out.mono ?_;rintro r w4 ⟨rfl,hb4⟩;rw[hh];clear hh;have HW3:=aA (aB HW2.out hb4);clear hb4;go_wp2_with fail
        go_roundw
        case rel=>exact ⟨j+1+1,by omega,by go_num,HO,HW3⟩
        case measure=>simp[intOf];omega
      ·have HL2:=aA (show gY (bW es (j+1)) e'=true from by rw[HL.out];rw[aN,aN]at hlow;exact hlow)
       have HO:=aA (zc9 HF.out HX.out HZ.out HL2.out);go_wp2_with fail
       go_quiet (fail)
       go_wp2_with fail
       go_ret
       exact ⟨aM HO.out.symm,below_drewN HW1.out _⟩
    ·have HZ:=aA (za9 HF.out HX.out hz)
     have hz2:(aI e != 0)=true:=by simp;exact hz
     clear hz;go_wp2_with fail
     refine (lK e _ _ _ _ HRc.out rfl hsm.1 hsm.2).mono ?_;rintro r w1 ⟨rfl,hb1⟩;have HW1:=aA (aB HW.out hb1);clear hb1;go_wp2_with fail
     go_ret
     exact ⟨aM HZ.out.symm,HW1.out⟩
   ·have HZ:=aA (zb9 HF.out (by omega))
    go_wp2_with fail
    go_ret
    exact ⟨aM HZ.out.symm,HW.out⟩
end Go.Proofs.YtgaeikgoknoamaaGreat
namespace Go.Proofs.YtgaeikgoknoamaaGreat
def dG (es:List En) (q:Bs):Bool:=es.any fun x=>decide (x.path=q)&&bX x.kind
def cQ (es:List En) (p:Bs):Bool:=if aE p=[] then true else dG es (aE p)
def dJ (home:Bs→Bool) (prev:Option En) (e:En):Int:=if aI e=0 then (if gY prev e then 1 else if home e.path then 0 else 9) else aI e
def cL (home:Bs→Bool):Option En→List En→Int
 | _,[]=>0
 | prev,e :: r=>if dJ home prev e=0 then cL home (some e) r else dJ home prev e
def bE (es:List En):Int:=if 12<es.length then 2 else cL (cQ es) none es
theorem vX (es:List En):∀ (l:List En) (prev:Option En),iB es prev l=cL (eI es) prev l
 | [],_=>rfl
 | e :: r,prev=>by
  simp only[iB,cL];have:jR es prev e=dJ (eI es) prev e:=rfl;rw[this,vX es r (some e)]
theorem sS {es:List En} (h:12<es.length):bE es=2:=by simp[bE,h]
theorem mI {es:List En} {H:Bs→Bool} {i:Nat} {e:En} (h:es[i]?=some e):cL H (bW es i) (es.drop i)=if dJ H (bW es i) e=0 then cL H (bW es (i+1)) (es.drop (i+1)) else dJ H (bW es i) e:=by
 obtain ⟨hi,he⟩:=List.getElem?_eq_some_iff.1 h;have e1:bW es (i+1)=some e:=by simp[bW,h]
 rw[e1,List.drop_eq_getElem_cons hi,he];rfl
theorem zmh {es:List En} {H:Bs→Bool} {k:Nat} {e:En} {F:Int} (hF:F=cL H (bW es k) (es.drop k)) (he:es[k]?=some e) (h:aI e≠0):F=aI e:=by
 have hb:dJ H (bW es k) e=aI e:=by simp[dJ,h]
 rw[hF,mI he,hb,if_neg h]
theorem zoh {es:List En} {H:Bs→Bool} {k:Nat} {e:En} {F:Int} (hF:F=cL H (bW es k) (es.drop k)) (he:es[k]?=some e) (h:aI e=0) (hl:gY (bW es k) e=true):F=1:=by
 have hb:dJ H (bW es k) e=1:=by simp[dJ,h,hl]
 rw[hF,mI he,hb];rfl
theorem za3 {es:List En} {H:Bs→Bool} {k:Nat} {e:En} {F:Int} (hF:F=cL H (bW es k) (es.drop k)) (he:es[k]?=some e) (h:aI e=0) (hl:gY (bW es k) e=false) (hh:H e.path=false):F=9:=by
 have hb:dJ H (bW es k) e=9:=by simp[dJ,h,hl,hh]
 rw[hF,mI he,hb];rfl
theorem zb3 {es:List En} {H:Bs→Bool} {k:Nat} {e:En} {F:Int} (hF:F=cL H (bW es k) (es.drop k)) (he:es[k]?=some e) (h:aI e=0) (hl:gY (bW es k) e=false) (hh:H e.path=true):F=cL H (bW es (k+1)) (es.drop (k+1)):=by
 have hb:dJ H (bW es k) e=0:=by simp[dJ,h,hl,hh]
 rw[hF,mI he,hb];rfl
theorem znh {es:List En} {H:Bs→Bool} {k:Nat} {F:Int} (hF:F=cL H (bW es k) (es.drop k)) (hk:es.length≤k):F=0:=by
 rw[hF,List.drop_eq_nil_of_le hk];cases bW es k <;> rfl
theorem zfh {ns:List Bs} (h:ns≠[]):bR ns≠[]:=by
 cases ns with
 | nil=>exact absurd rfl h
 | cons a l=>simp[bR]
theorem mD {p:Bs}:aE p=[]↔bJ (bF p.tail)=[]:=by
 constructor
 ·intro h
  cases hc:bJ (bF p.tail) with
  | nil=>rfl
  | cons a l =>
   exfalso
   have hm:aE p∈bJ (bF p.tail):=by
    unfold aE;rw[List.getLastD_eq_getLast?,List.getLast?_eq_some_getLast (by rw[hc];simp)]
    exact List.getLast_mem _
   rw[h]at hm;obtain ⟨k,h0,hk,e⟩:=qC.1 hm;exact zfh (by intro e;have:=congrArg List.length e;rw[List.length_take,List.length_nil]at this;omega) e.symm
 ·intro h
  simp[aE,h]
end Go.Proofs.YtgaeikgoknoamaaGreat
namespace Go.Proofs.YtgaeikgoknoamaaGreat
open Go.RowKit Go.Shelf
attribute [local go_sem] Oper.semAt_some
theorem tL:∀ (ns:List Bs) (m:Nat),(∀ n∈ns,n.length≤m)→(bR ns).length≤(m+1) * ns.length
 | [],_,_=>by simp[bR]
 | n :: ns,m,h=>by
  have:=tL ns m (fun x hx=>h x (by simp[hx]))
  have:=h n (by simp)
  simp only[bR,List.length_cons,List.length_append,Nat.mul_add,Nat.mul_one];omega
theorem uZ {F:Fence} {m:Nat} {P:Program} {wr:World} {news:Array Value} {ops:Array Oper} {rest:List Oper} {o:Oper} {a:Act} {Q:Exit→Act→World→Prop} (hgd:o.guard=none) (s x:Operand) (t:TypeId)
  (ho:o.op=.call { callee:=.builtin .append,args:=#[s,x],argTypes:=#[t,t] })
  (base:Nat) (e:TypeId) (i:TypeInfo) (z:Value) (size bytes:Nat) (ht:P.underlying t=some (.slice e)) (hi:P.info? e=some i) (hz:i.zero=some z)
  (hsize:i.size=size) (hby:i.bytes=bytes) (hzs:z.cells.size=size) (hsz:0<size)
  (v:Value) (n:Nat) (xs:List Value) (hs:a.eval s=v) (hown:wr.ownsRow base e size v n xs)
  (hx:a.eval x=.slice (some ⟨wr.heap.size,0,none⟩) 1 1) (hl:news.size=size) (h1:∀ u∈news.toList,u.oneCell'=true)
  (h63:n+1≤maxLen) (hbytes:(n+1) * bytes≤140737488355328) (hbase:base≤wr.heap.size)
  (h:∀ v' w',w'.ownsRow base e size v' (n+1) (xs++news.toList)→aD (fun b=>v.ownBlock=some b) wr w'→KeepsOthers wr w'→wpListIn F m P ops Q rest (a.put o.dst v') w') :
  wpListIn F m P ops Q (o :: rest) a (wr.alloc (.cells news e)):=by
 refine wpListIn_append_own _ hgd s x t ho base e i z size bytes ht hi hz hsize hby hzs hsz v n xs hs (hown.alloc _) ⟨wr.heap.size,0,none⟩ 1 1 news.toList hx (by simp[hl]) ?_ h1 h63 hbytes (by simp;omega) ?_
 ·intro j u hj
  have hadd:(⟨wr.heap.size,0,none⟩:Addr).add j=⟨wr.heap.size,j,none⟩:=by unfold Addr.add;split <;> simp_all
  rw[hadd,cell_of_row _ wr.heap.size j news e (0,0) (heap_alloc_new wr _)];simpa using hj
 ·intro v' w' ho' hg _
  refine h v' w' ho' ⟨hg.os,hg.tape,hg.output,Nat.le_trans (by simp) hg.size,fun k hk hn=>?_⟩ ?_
  ·rw[hg.block k (by simp;omega) (fun e=>hn e.symm)]
   exact Below.heap_alloc _ _ _ hk
  ·refine (KeepsOthers.alloc wr _).trans (KeepsOthers.of_grownBy hg fun j o ej hj=>?_)
   rcases (hown.alloc (.cells news e)).2 with ⟨rfl,_⟩ | ⟨g,cap,cur,rfl,_,hgb,_⟩
   ·simp[Value.ownBlock]at ej
   ·obtain rfl:g=j:=by simpa [Value.ownBlock] using ej
    rw[hgb]at hj;cases hj;rfl
theorem tA {S:Nat→Prop} {W W':World} {B:Nat} {t:TypeId} {v:Value} (h:Boxed W B t v) (hk:aD S W W') (hn:¬ S B):Boxed W' B t v:=(hk.block B h.lt hn).trans h
theorem zxh {β:Type} (R:Nat) (B:Nat) (t:TypeId) (f:β→List Bs):Go.Own (fun s W=>∃ v,Boxed W B t v∧cJ R W v (f s)):=by
 have:=holdsRow_own (β:=β) R B t 9 1 (fun s=>(f s).length) (fun s=>(f s).map vS) (fun _ _=>True)
 intro s W W' row hs hg hr;obtain ⟨v,hv,hrow⟩:=hs;obtain ⟨v',hv',hrow',_⟩:=this s W W' row ⟨v,hv,hrow,trivial⟩ hg hr;exact ⟨v',hv',hrow'⟩
theorem zv7 (ps:List Bs) (x:Bs) (h:ps≠[]):bJ (ps ++ [x])=bJ ps ++ [bR ps]:=by
 have hp:=List.length_pos_iff.2 h;obtain ⟨k,hk⟩:∃ k,ps.length=k+1:=⟨ps.length - 1,by omega⟩
 unfold bJ;have e1:(ps ++ [x]).length - 1=k+1:=by simp;omega
 have e2:ps.length - 1=k:=by omega
 rw[e1,e2,List.range_succ,List.map_append]
 congr 1
 ·apply List.map_congr_left
  intro j hj;have:j<k:=by simpa using hj
  rw[List.take_append_of_le_length (by omega)]
 ·simp[List.take_append_of_le_length (show k+1≤ps.length by omega),List.take_of_length_le (show ps.length≤k+1 by omega)]
theorem zve (ps:List Bs) (x:Bs):str (bR ps)++((⟨#[47]⟩:ByteArray)++str x)=str (bR (ps ++ [x])):=by
 have e:(⟨#[47]⟩:ByteArray)=str [47]:=rfl;rw[e,qI,qI,kL];simp[bR]
theorem zw5 (ps:List Pc):(bR (pcs ps)).length≤2097153 * ps.length:=by
 have:=tL (pcs ps) 2097152 (fun n hn=>by obtain ⟨x,_,rfl⟩:=List.mem_map.1 hn;exact x.2)
 rwa [qH]at this
theorem rI (s:ByteArray) (w:World) (hs:s.size≤2097152) :
  Calls Tryz.prog 206 #[.string s] w fun e w'=>∃ a c,e=.returned (.agg #[.int .i64 (aF s.data.toList),.slice a (bL s.data.toList).length c])∧cJ w.heap.size w' (.slice a (bL s.data.toList).length c) (bL s.data.toList)∧Below w.heap.size w w':=by
 obtain ⟨i1,ki,kz0,kz1,kz2⟩:=info_parts rK;refine (callsIn_wide (n:=4)).1 ?_;refine callsIn_of_wp_marks Tryz.func206 rfl trivial ?_ rfl;simp only[Tryz.ntmps206,List.size_toArray,List.length_cons,List.length_nil,Nat.reduceAdd,Nat.reduceSub,Array.replicate_succ,Array.replicate_zero,List.push_toArray,List.append_toArray,List.nil_append,List.cons_append];gi_wp2_with fail
 refine ⟨trivial,?_⟩;refine (callsIn_wide.2 (jQ s _ hs)).mono ?_;rintro e w1 ⟨rfl,hb1⟩;have X0:=aA ((Box.new w (.int .i64 0) (.slice none 0 0) 58).below hb1);have n1:w.heap.size<w1.heap.size:=by have:=hb1.size;simp at this;omega
 have HB:=aA (aB (aC w _) hb1);clear hb1;by_cases hf:aF s.data.toList=0
 ·have h1:=pT hf
  have HA:=aA (eP hf);have HF:=aA hf;have h1':(1:Int)≤(s.size:Int):=by omega
  have HT:=aA (rZ s);have hel:=pS s 1 s.size;rw[hf];clear hf;gi_wp2_with fail
  refine ⟨trivial,?_⟩;refine (callsIn_wide.2 (yO _ _)).mono ?_;rintro e w2 ⟨rfl,rfl⟩;gi_wp2_with fail
  have HXE:=aA (show s.extract 1 s.size=str s.data.toList.tail by rw[←HT.out,zhl])
  have hrl:s.data.toList.tail.length≤2097152:=by rw[List.length_tail,←Lib.size_eq];omega
  have hcl:=kK s.data.toList.tail;have bA:=Boxed.new w1 25 (.slice none 0 0);have bP:=Boxed.new (w1.alloc (.cells #[.slice none 0 0] 25)) 9 (.string ⟨#[]⟩);have bT:=Boxed.new ((w1.alloc (.cells #[.slice none 0 0] 25)).alloc (.cells #[.string ⟨#[]⟩] 9)) 9 (.string (s.extract 1 s.size));simp only[World.size_alloc]at bP bT;have hB0:Below w.heap.size w (((w1.alloc (.cells #[.slice none 0 0] 25)).alloc (.cells #[.string ⟨#[]⟩] 9)).alloc (.cells #[.string (s.extract 1 s.size)] 9)):=((HB.out.alloc (by omega) _).alloc (by simp;omega) _).alloc (by simp;omega) _
  have hX0:=((X0.out.below (aC w1 (.cells #[.slice none 0 0] 25))).below (aC _ (.cells #[.string ⟨#[]⟩] 9))).below (aC _ (.cells #[.string (s.extract 1 s.size)] 9));refine wpIn_rangeFunc_ownF rfl (by decide) (gf:=246) (lb:=#[.pointer (some ⟨w1.heap.size+1+1,0,none⟩)]) rfl trivial (enters_of Tryz.func246 (by kernel_rfl) rfl)
   (wF _ (w1.heap.size+1+1) w.heap.size s.data.toList.tail hrl _ (by simp) (by rw[←HXE.out];exact bT.cell)) belowK_t (belowK_b (by simp;omega)) (Below.refl _ _) (fun _=>rfl)
   (fun (pre:List Pc) W=>((∃ v,Boxed W w1.heap.size 25 v∧cJ (w1.heap.size+3) W v (bJ (pcs pre)))∧Boxed W (w1.heap.size+1) 9 (.string (str (bR (pcs pre))))∧Box W w.heap.size (.int .i64 0) (.slice none 0 0)∧w1.heap.size+3≤W.heap.size)∧Below w.heap.size w W)
   (fun c (pre:List Pc) W=>False)
   (OwnFrom.and (OwnFrom.and (Own.from (zxh _ _ _ (fun pre=>bJ (pcs pre))) _) (OwnFrom.and (Own.from (boxed_own _ _ (fun pre=>.string (str (bR (pcs pre))))) _) (OwnFrom.and (Own.from (zz9 _ _ _) _) (fun _ _ _ _ hs hg _=>Nat.le_trans hs hg.size)))) (ownFrom_below (Nat.le_refl _) (by simp;omega)))
   (fun c=>ownFrom_pure _ _)
   ⟨⟨⟨_,(bA.alloc _).alloc _,cJ.nil _ _⟩,bP.alloc _,hX0,by simp⟩,hB0⟩
   (fun x=>{ tmps:=#[.string s,undef,.pointer (some ⟨w.heap.size,0,none⟩),.int .i64 0,.pointer (some ⟨w1.heap.size,0,none⟩),.pointer (some ⟨w1.heap.size+1,0,none⟩),.string (str x.1),.string s,.int .i64 0,.int .i64 0,.bool false,undef,undef,.string s,.string (s.extract 1 s.size),.func (.func 246) #[] #[.pointer (some ⟨w1.heap.size+1+1,0,none⟩)],.string (str x.1),undef,undef,undef,undef,undef,undef,undef,undef,undef,undef,undef,undef],defers:=[] }) ?assign ?body ?done ?stop
  case assign =>
   intro l x W K hK;gi_wp2_with fail
   exact hK
  case body =>
   rintro l pre ⟨x,hx⟩ W ⟨⟨⟨v,hv,hO⟩,hP,hX,hsz⟩,hB⟩ hlt;obtain ⟨va,vc,rfl⟩:=hO.shape;have hjl:=zw5 pre;have hpl:pre.length≤2097152:=by omega
   have HJS:=aA (zve (pcs pre) x);generalize hj:bR (pcs pre)=j at *;have HJ:=aA hj;clear hj;have hz1:¬ 9223372036854775807<1+(str x).size:=by rw[aP];omega
   have hz2:¬ 9223372036854775807<(str j).size+(1+(str x).size):=by rw[aP,aP];omega
   have hv0:=hv.cell;have hv1:=hv.frozen;have hP0:=hP.cell;have hP1:=hP.frozen;have HX:=aA hX;have HB':=aA hB;have HO:=aA hO;have HV:=aA hv;have HP:=aA hP;clear hX hB hO hv hP;by_cases h0:pre=[]
   ·subst h0
    have he:(str j).toList.isEmpty=true:=by rw[←HJ.out,ByteArray.toList_eq,bD];rfl
    gi_wp2_with fail
    have KS:=aA (aD.setCell (S:=fun b=>b=w1.heap.size+1) (p:=⟨w1.heap.size+1,0,none⟩) (aD.refl _ W) (fun _=>rfl) (.string (str j++((⟨#[47]⟩:ByteArray)++str x))))
    exact ⟨KeepsOthers.setCell _ _ _,(Below.refl w.heap.size W).setCell (p:=⟨w1.heap.size+1,0,none⟩) (by simp;omega) _,⟨⟨_,HV.out.other (by omega) _,HO.out.kept KS.out (fun b hb e=>by have:=(HO.out.lt b hb).1;omega)⟩,by rw[iJ,←HJS.out];exact HP.out.set _,HX.out.kept KS.out (by omega),by have:=KS.out.size;omega⟩,HB'.out.setCell (p:=⟨w1.heap.size+1,0,none⟩) (by simp;omega) _⟩
   ·have he:(str j).toList.isEmpty=false:=by
     rw[←HJ.out,ByteArray.toList_eq,bD];cases pre with
     | nil=>exact absurd rfl h0
     | cons p pre=>rfl
    have HAS:=aA (show bJ (pcs (pre ++ [⟨x,hx⟩]))=bJ (pcs pre) ++ [j] by rw[iJ,zv7 _ _ (by intro e;apply h0;exact List.map_eq_nil_iff.1 e),HJ.out])
    have hal:(bJ (pcs pre)).length≤2097152:=by rw[iE,qH];omega
    generalize bJ (pcs pre)=ab at *;have hm1:ab.length+1≤maxLen:=by unfold maxLen;omega
    have hm2:(ab.length+1) * 16≤140737488355328:=by omega
    gi_wp2_with (gi_at_builtin;refine uZ rfl (.tmp 19) (.tmp 21) 25 rfl (w1.heap.size+3) 9 i1 (.string ⟨#[]⟩) 1 16 Tryz.underlying25 ki kz0 kz1 kz2 rfl (by decide) _ _ _ rfl HO.out rfl rfl (by intro u hu;simp at hu;subst hu;rfl) hm1 hm2 hsz ?_;intro v' w2 hown2 hkept hko;obtain ⟨g',cap',rfl⟩:=ownsRow_succ hown2;have O2:=aA (cJ.snoc hown2 rfl);have K2:=aA hkept;have KO:=aA hko;clear hown2 hkept hko;have HV2:=aA (tA HV.out K2.out (fun hS=>by have:=(HO.out.lt _ hS).1;omega));have HP2:=aA (tA HP.out K2.out (fun hS=>by have:=(HO.out.lt _ hS).1;omega));have hv2:=HV2.out.cell;have hv3:=HV2.out.frozen;have HP3:=aA (HP2.out.other (B':=w1.heap.size) (by omega) (.slice (some ⟨g',0,none⟩) (ab.length+1) cap'));have hP2:=HP3.out.cell;have hP3:=HP3.out.frozen)
    have KS:=aA (aD.setCell (S:=fun b=>b=w1.heap.size∨b=w1.heap.size+1) (p:=⟨w1.heap.size+1,0,none⟩) (aD.setCell (S:=fun b=>b=w1.heap.size∨b=w1.heap.size+1) (p:=⟨w1.heap.size,0,none⟩) (aD.refl _ w2) (fun _=>.inl rfl) (.slice (some ⟨g',0,none⟩) (ab.length+1) cap')) (fun _=>.inr rfl) (.string (str j++((⟨#[47]⟩:ByteArray)++str x))))
    have hBK:=K2.out.below (B:=w.heap.size) (by have:=HB'.out.size;omega) (fun k hk hS=>by have:=(HO.out.lt _ hS).1;omega)
    have hBS:=KS.out.below (B:=w.heap.size) (by have:=K2.out.size;omega) (fun k hk hS=>by omega)
    exact ⟨KO.out.trans ((KeepsOthers.setCell _ _ _).trans (KeepsOthers.setCell _ _ _)),hBK.trans hBS,⟨⟨_,(HV2.out.set _).other (by omega) _,by rw[HAS.out];exact O2.out.kept KS.out (fun b hb e=>by have:=(O2.out.lt b hb).1;omega)⟩,by rw[iJ,←HJS.out];exact HP3.out.set _,(HX.out.kept K2.out (fun hS=>by have:=(HO.out.lt _ hS).1;omega)).kept KS.out (by omega),by have:=K2.out.size;have:=KS.out.size;omega⟩,(HB'.out.trans hBK).trans hBS⟩
  case done =>
   rintro D ys W hD hys ⟨⟨⟨v,hv,hO⟩,hP,hX,hsz⟩,hB⟩ hK;rw[hys,←HA.out]at hO;obtain ⟨va,vc,rfl⟩:=hO.shape;have hv0:=hv.cell;have HX:=aA hX;have HB':=aA hB;have HK:=aA hK;have HO:=aA hO;clear hX hB hK hO hys hv hP;obtain ⟨⟨q0,q1⟩,q2,q3⟩:=HX.out;gi_wp2_with fail
   obtain ⟨k1,k2,k3⟩:=zea HX.out.1 HK.out (.int .i64 0) (.slice va (bL s.data.toList).length vc);refine ⟨by simp,.inl ⟨_,_,rfl,run_takeDeferred k1,?_⟩⟩
   refine ⟨.agg #[.int .i64 0,.slice va (bL s.data.toList).length vc],by simp[results,Tryz.results206,go_sem,k2,k3],va,vc,by rw[HF.out],?_,?_⟩
   ·exact ownsRow_putObj ((HO.out.kept (aD.two W w.heap.size 0 1 _ _) (fun b hb e=>by have:=(HO.out.lt b hb).1;omega)).mono (by omega)) _ k1 rfl
   ·exact ((HB'.out.setCell (p:=⟨w.heap.size,0,none⟩) (Nat.le_refl _) _).setCell (p:=⟨w.heap.size,1,none⟩) (Nat.le_refl _) _).trans (belowK_b (w:=w) (Nat.le_refl _) _ D _ _ (by simp at hD;omega) k1 rfl rfl)
  case stop =>
   rintro D c pre W hD hpre hc hK;exact hc.elim
 ·have HA:=aA (rF hf)
  obtain ⟨⟨q0,q1⟩,q2,q3⟩:=X0.out;obtain ⟨c,hc⟩:∃ c,c=aF s.data.toList:=⟨_,rfl⟩;rw[←hc]at hf ⊢;have HC:=aA hc;clear hc;have hf2:(c != 0)=true:=by simpa using hf
  gi_wp2_with fail
  have h2:=X0.out.1.set (.int .i64 c) (.slice none 0 0);refine ⟨.agg #[.int .i64 c,.slice none 0 0],by simp[results,Tryz.results206,go_sem,h2.1,h2.2],?_⟩
  rw[HA.out,←HC.out];exact ⟨_,_,rfl,cJ.nil _ _,(HB.out.setCell (p:=⟨w.heap.size,0,none⟩) (Nat.le_refl _) _).setCell (p:=⟨w.heap.size,1,none⟩) (Nat.le_refl _) _⟩
theorem qU (s:ByteArray) (w:World) (hs:s.size≤2097152) :
  Calls Tryz.prog 177 #[.string s] w fun e w'=>e=.returned (.agg #[.int .i64 (zL s.data.toList),.string (str (wD s.data.toList))])∧Below w.heap.size w w':=by
 have hlen:=rG s.data.toList;go_enter Tryz.func177,Tryz.ntmps177;go_wp2_with fail
 refine (rI s _ hs).mono ?_;rintro e w1 ⟨va,vc,rfl,hO,hb1⟩;have X0:=aA ((Box.new w (.int .i64 0) (.string ⟨#[]⟩) 234).below hb1);have n1:w.heap.size<w1.heap.size:=by have:=hb1.size;simp at this;omega
 have HB:=aA (aB (aC w _) hb1);have HO:=aA hO;clear hb1 hO;by_cases hf:aF s.data.toList=0
 ·have HF:=aA hf
  have HA:=aA (eP hf);rw[hf];clear hf;by_cases h0:bL s.data.toList=[]
  ·have HE:=aA (zw6 HF.out (by rw[←HA.out];exact h0))
   rw[h0];obtain ⟨⟨q0,q1⟩,q2,q3⟩:=X0.out;clear h0 hlen;go_wp2_with fail
   rw[HE.out.1,HE.out.2];have h2:=(X0.out.1.set (.int .i64 4) (.string ⟨#[]⟩)).below (aC _ (.cells #[.int .i64 0,.slice va 0 vc] 58));exact bodyPost_ret (v:=.agg #[.int .i64 4,.string ⟨#[]⟩]) (by simp[results,Tryz.results177,go_sem,h2.1,h2.2]) rfl ⟨rfl,((HB.out.setCell (p:=⟨w.heap.size,0,none⟩) (Nat.le_refl _) _).setCell (p:=⟨w.heap.size,1,none⟩) (Nat.le_refl _) _).alloc (by simp[World.setCell];omega) _⟩
  ·have HE:=aA (zv6 HF.out (by rw[←HA.out];exact h0))
   have hp:=List.length_pos_iff.2 h0;obtain ⟨b,off,p,rfl,hb,hpe,hck⟩:=HO.out.reads.at (k:=(bL s.data.toList).length - 1) (by omega)
   have HP:=aA (show (bJ (bF s.data.toList.tail)).getLastD []=p by rw[←HA.out];exact (Option.some.inj (hpe.symm.trans (tE h0))).symm)
   clear hpe;generalize (bL s.data.toList).length=n at *;have hz:((n:Int)==0)=false:=by simp;omega
   have hp':(1:Int)≤(n:Int):=by omega
   have hp2:(n:Int)≤2:=by omega
   obtain ⟨⟨q0,q1⟩,q2,q3⟩:=X0.out;go_wp2_with fail
   rw[HE.out.1,HE.out.2,HP.out];have h2:=(X0.out.1.set (.int .i64 0) (.string (str p))).below (aC _ (.cells #[.int .i64 0,.slice (some ⟨b,off,none⟩) n vc] 58));exact bodyPost_ret (v:=.agg #[.int .i64 0,.string (str p)]) (by simp[results,Tryz.results177,go_sem,h2.1,h2.2]) rfl ⟨rfl,((HB.out.setCell (p:=⟨w.heap.size,0,none⟩) (Nat.le_refl _) _).setCell (p:=⟨w.heap.size,1,none⟩) (Nat.le_refl _) _).alloc (by simp[World.setCell];omega) _⟩
 ·have HE:=aA (zak hf)
  obtain ⟨⟨q0,q1⟩,q2,q3⟩:=X0.out;obtain ⟨c,hc⟩:∃ c,c=aF s.data.toList:=⟨_,rfl⟩;rw[←hc]at hf ⊢;have HC:=aA hc;clear hc;have hf2:(c != 0)=true:=by simpa using hf
  go_wp2_with fail
  rw[HE.out.1,HE.out.2,←HC.out];have h2:=(X0.out.1.set (.int .i64 c) (.string ⟨#[]⟩)).below (aC _ (.cells #[.int .i64 c,.slice va (bL s.data.toList).length vc] 58));exact bodyPost_ret (v:=.agg #[.int .i64 c,.string ⟨#[]⟩]) (by simp[results,Tryz.results177,go_sem,h2.1,h2.2]) rfl ⟨rfl,((HB.out.setCell (p:=⟨w.heap.size,0,none⟩) (Nat.le_refl _) _).setCell (p:=⟨w.heap.size,1,none⟩) (Nat.le_refl _) _).alloc (by simp[World.setCell];omega) _⟩
end Go.Proofs.YtgaeikgoknoamaaGreat
