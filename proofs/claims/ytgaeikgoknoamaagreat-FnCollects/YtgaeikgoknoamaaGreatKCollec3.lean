/-
  Texts put together: IteA EntL LayQ PathQ.
-/
import Derived.Test.YtgaeikgoknoamaaGreatKCollec2
set_option linter.unusedVariables false
set_option maxHeartbeats 2000000
set_option maxRecDepth 100000
namespace Go.Proofs.YtgaeikgoknoamaaGreat
open Go.RowKit
theorem wM (n:Int) (w:World):Calls Tryz.prog 127 #[.int .i64 n] w fun e w'=>e=.returned (.bool (fV n))∧w'=w:=by
 by_cases h0:0≤n
 ·by_cases h1:n≤4294967295
  ·have e:fV n=true:=decide_eq_true ⟨h0,h1⟩
   rw[e];go_enter Tryz.func127,Tryz.ntmps127;go_wp2
   go_ret
   exact ⟨rfl,rfl⟩
  ·have e:fV n=false:=decide_eq_false (fun h=>h1 h.2)
   rw[e];go_enter Tryz.func127,Tryz.ntmps127;go_wp2
   go_ret
   exact ⟨rfl,rfl⟩
 ·have e:fV n=false:=decide_eq_false (fun h=>h0 h.1)
  rw[e];go_enter Tryz.func127,Tryz.ntmps127;go_wp2
  go_ret
  exact ⟨rfl,rfl⟩
theorem jS (p:ByteArray) (k z:Int) (a:Option Addr) (n c:Nat) (w:World) :
  Calls Tryz.prog 45 #[.agg #[.string p,.int .i64 k,.int .i64 z,.slice a n c]] w fun r w'=>r=.returned (.agg #[.int .i64 z,.slice a n c,.string p,.int .i64 k])∧Below w.heap.size w w':=by
 go_enter Tryz.func45,Tryz.ntmps45;go_wp2
 refine bodyPost_ret (v:=.agg #[.int .i64 z,.slice a n c,.string p,.int .i64 k]) (by simp[results,Tryz.results45,go_sem]) rfl ⟨rfl,?_⟩
 exact aB (aC _ _) (aC _ _)
theorem zaa (p:ByteArray) (k z:Int) (a:Option Addr) (n c:Nat) (w:World) :
  Calls Tryz.prog 174 #[.agg #[.int .i64 z,.slice a n c,.string p,.int .i64 k]] w fun r w'=>r=.returned (.bool (decide (1≤k∧k≤4)))∧Below w.heap.size w w':=by
 by_cases h0:1≤k
 ·by_cases h1:k≤4
  ·have e:decide (1≤k∧k≤4)=true:=decide_eq_true ⟨h0,h1⟩
   rw[e];go_enter Tryz.func174,Tryz.ntmps174;go_wp2
   go_ret
   exact ⟨rfl,aC _ _⟩
  ·have e:decide (1≤k∧k≤4)=false:=decide_eq_false (fun h=>h1 h.2)
   rw[e];go_enter Tryz.func174,Tryz.ntmps174;go_wp2
   go_ret
   exact ⟨rfl,aC _ _⟩
 ·have e:decide (1≤k∧k≤4)=false:=decide_eq_false (fun h=>h0 h.1)
  rw[e];go_enter Tryz.func174,Tryz.ntmps174;go_wp2
  go_ret
  exact ⟨rfl,aC _ _⟩
theorem uA (p:ByteArray) (k z:Int) (a:Option Addr) (n c:Nat) (w:World) :
  Calls Tryz.prog 125 #[.agg #[.int .i64 z,.slice a n c,.string p,.int .i64 k]] w fun r w'=>r=.returned (.bool (cG k))∧Below w.heap.size w w':=by
 by_cases h0:k=2
 ·have e:cG k=true:=decide_eq_true (.inl h0)
  have hb:(k==2)=true:=by simp[h0]
  rw[e];clear e h0;go_enter Tryz.func125,Tryz.ntmps125;go_wp2
  go_ret
  exact ⟨rfl,aC _ _⟩
 ·have hb:(k==2)=false:=by simp[h0]
  by_cases h1:k=4
  ·have e:cG k=true:=decide_eq_true (.inr h1)
   have hb1:(k==4)=true:=by simp[h1]
   rw[e];clear e h0 h1;go_enter Tryz.func125,Tryz.ntmps125;go_wp2
   go_ret
   exact ⟨rfl,aC _ _⟩
  ·have e:cG k=false:=decide_eq_false (fun h=>h.elim h0 h1)
   have hb1:(k==4)=false:=by simp[h1]
   rw[e];clear e h0 h1;go_enter Tryz.func125,Tryz.ntmps125;go_wp2
   go_ret
   exact ⟨rfl,aC _ _⟩
theorem zp3 (z:Int) (a:Option Addr) (n c:Nat) (w:World) :
  Calls Tryz.prog 175 #[.agg #[.int .i64 z,.slice a n c]] w fun r w'=>r=.returned (.bool (decide (z≠0∨n≠0)))∧Below w.heap.size w w':=by
 by_cases h0:z=0
 ·have hb:(z != 0)=false:=by simp[h0]
  by_cases h1:n=0
  ·have e:decide (z≠0∨n≠0)=false:=decide_eq_false (fun h=>h.elim (fun h=>h h0) (fun h=>h h1))
   have hb1:((n:Int) != 0)=false:=by simp[h1]
   rw[e];clear e h0 h1;go_enter Tryz.func175,Tryz.ntmps175;go_wp2
   go_ret
   exact ⟨rfl,aC _ _⟩
  ·have e:decide (z≠0∨n≠0)=true:=decide_eq_true (.inr h1)
   have hb1:((n:Int) != 0)=true:=by simp;omega
   rw[e];clear e h0 h1;go_enter Tryz.func175,Tryz.ntmps175;go_wp2
   go_ret
   exact ⟨rfl,aC _ _⟩
 ·have e:decide (z≠0∨n≠0)=true:=decide_eq_true (.inl h0)
  have hb:(z != 0)=true:=by simp[h0]
  rw[e];clear e h0;go_enter Tryz.func175,Tryz.ntmps175;go_wp2
  go_ret
  exact ⟨rfl,aC _ _⟩
def kI (z:Int) (zs:List Int):Int:=if 0≤z∧z≤24 then (if (zs.length:Int)=(z+7) / 8 then (if zs.all fV then 0 else 3) else 1) else 3
theorem rF {e:En} (h:aG e.path=0) (h1:gD e=true):aH e=kI e.size e.chunks:=by
 simp[aH,h,h1,kI,kF,kT]
theorem rE (z:Int) (x:Option Addr) (c:Nat) (zs:List Int) (w:World) (h:aZ .i64 w x zs) (hc:zs.length≤1048576) :
  Calls Tryz.prog 176 #[.agg #[.int .i64 z,.slice x zs.length c]] w fun r w'=>r=.returned (.int .i64 (kI z zs))∧Below w.heap.size w w':=by
 have HR:=aA h;clear h;by_cases h0:0≤z
 ·have h0':¬ z<0:=by omega
  by_cases h1:z≤24
  ·have h1':¬ 24<z:=by omega
   have ed:(z+7) / 8=(z+8 - 1) / 8:=by congr 1;omega
   by_cases hm:(zs.length:Int)=(z+7) / 8
   ·have HE:=aA (show kI z zs=if zs.all fV then 0 else 3 from by simp[kI,h0,h1,hm])
    have hmn:((zs.length:Int) != (z+8 - 1) / 8)=false:=by rw[←ed];simp;exact hm
    clear hm ed;have HR1:=aA (HR.out.below (aC w (.cells #[.int .i64 z,.slice x zs.length c] 89)));go_enter Tryz.func176,Tryz.ntmps176;go_wp2_with fail
    have HB:=aA (aC w (.cells #[.int .i64 z,.slice x zs.length c] 89));generalize w.alloc (.cells #[.int .i64 z,.slice x zs.length c] 89)=W at *;go_loop [25] (fun i=>∃ k:Nat,k≤zs.length∧i=.int .i64 k∧Hid ((zs.take k).all fV=true)) (fun i=>zs.length - (intOf i).toNat)
    case atStart=>exact ⟨0,Nat.zero_le _,rfl,aA (by simp)⟩
    case round =>
     obtain ⟨k,hk,rfl,HA⟩:=hrel;by_cases hlt:k<zs.length
     ·obtain ⟨b,off,rfl,hb1,hcc⟩:=HR1.out (by intro e;simp[e]at hlt)
      have hc1:=hcc k hlt;have hzk:zs[k]?=some (zs.getD k 0):=by rw[List.getD_eq_getElem?_getD,List.getElem?_eq_getElem hlt];rfl
      generalize zs.getD k 0=y at hc1 hzk;have HZ:=aA hzk;clear hcc hzk;cases hd:fV y
      ·have HX:=aA (show zs.all fV=false from by rw[List.all_eq_false];exact ⟨y,List.mem_of_getElem? HZ.out,by simp[hd]⟩)
       have HD:=aA hd;clear hd;go_wp2_with fail
       refine (wM _ _).mono ?_;rintro r w'' ⟨rfl,rfl⟩;rw[HD.out];go_wp2_with fail
       go_ret
       exact ⟨aO (by rw[HE.out,HX.out];rfl),HB.out⟩
      ·have HX:=aA (show (zs.take (k+1)).all fV=true from by rw[bQ HZ.out];simp[HA.out,hd])
       have HD:=aA hd;clear hd;go_wp2_with fail
       refine (wM _ _).mono ?_;rintro r w'' ⟨rfl,rfl⟩;rw[HD.out];go_wp2_with fail
       go_round
       case rel=>exact ⟨k+1,by omega,by go_num,HX⟩
       case measure=>simp[intOf];omega
     ·have HX:=aA (show zs.all fV=true from by have:=HA.out;rwa [List.take_of_length_le (by omega)]at this)
      go_wp2_with fail
      go_ret
      exact ⟨aO (by rw[HE.out,HX.out];rfl),HB.out⟩
   ·have HE:=aA (show kI z zs=1 from by simp[kI,h0,h1,hm])
    have hmn:((zs.length:Int) != (z+8 - 1) / 8)=true:=by rw[←ed];simp;exact hm
    clear hm ed;go_enter Tryz.func176,Tryz.ntmps176;go_wp2_with fail
    go_ret
    exact ⟨aO HE.out.symm,aC _ _⟩
  ·have h1':24<z:=by omega
   have HE:=aA (show kI z zs=3 from by simp[kI,h1])
   clear h1;go_enter Tryz.func176,Tryz.ntmps176;go_wp2_with fail
   go_ret
   exact ⟨aO HE.out.symm,aC _ _⟩
 ·have h0':z<0:=by omega
  have HE:=aA (show kI z zs=3 from by simp[kI,h0])
  clear h0;go_enter Tryz.func176,Tryz.ntmps176;go_wp2_with fail
  go_ret
  exact ⟨aO HE.out.symm,aC _ _⟩
theorem tW (e:En) (x:Option Addr) (c n:Nat) (w:World) (h:aZ .i64 w x e.chunks) (hn:n=e.chunks.length) (hp:e.path.length≤1048576) (hc:e.chunks.length≤1048576) :
  Calls Tryz.prog 133 #[.agg #[.string (str e.path),.int .i64 e.kind,.int .i64 e.size,.slice x n c]] w fun r w'=>r=.returned (.int .i64 (aH e))∧Below w.heap.size w w':=by
 subst hn;have HR:=aA h;clear h;have HN:=aA (aC w (.cells #[.string (str e.path),.int .i64 e.kind,.int .i64 e.size,.slice x e.chunks.length c] 87));have HB:=aA (cP.new w (.string (str e.path)) (.int .i64 e.kind) (.int .i64 e.size) (.slice x e.chunks.length c) 87);by_cases hf:aG e.path=0
 ·go_enter Tryz.func133,Tryz.ntmps133
  go_wp2_with fail
  refine (kZ _ _ (by rw[aN];omega)).mono ?_
  rintro r w1 ⟨rfl,hb1⟩;rw[aV,hf];have HB1:=aA (aB HN.out hb1);have hB:=HB.out.below hb1;clear HB HN hb1;obtain ⟨c0,c1,c2,c3⟩:=hB;generalize w.heap.size=bk at c0 c1 c2 c3 ⊢;go_wp2_with fail
  refine (jS _ _ _ _ _ _ _).mono ?_;rintro r w2 ⟨rfl,hb2⟩;have HB2:=aA (aB HB1.out hb2);clear HB1 hb2 c0 c1 c2 c3;go_wp2_with fail
  have F2:=aA (cP.new w2 (.int .i64 e.size) (.slice x e.chunks.length c) (.string (str e.path)) (.int .i64 e.kind) 91);have HB3:=aA (aB HB2.out (aC w2 (.cells #[.int .i64 e.size,.slice x e.chunks.length c,.string (str e.path),.int .i64 e.kind] 91)));generalize w2.alloc (.cells #[.int .i64 e.size,.slice x e.chunks.length c,.string (str e.path),.int .i64 e.kind] 91)=W3 at *;generalize w2.heap.size=b2 at *;refine (zaa _ _ _ _ _ _ _).mono ?_;rintro r w4 ⟨rfl,hb4⟩;have F4:=F2.out.below hb4;have HB4:=aA (aB HB3.out hb4);clear hb4 HB3 HB2 F2;obtain ⟨f0,f1,f2,f3⟩:=F4
  by_cases hk:1≤e.kind∧e.kind≤4
  ·rw[decide_eq_true hk]
   by_cases hk1:e.kind=1
   ·have HE:=aA (rF hf (decide_eq_true ⟨hk,Or.inl hk1⟩))
    have hkn:(e.kind != 1)=false:=by simp[hk1]
    clear hk hk1 hf;have HR4:=aA (HR.out.below HB4.out);go_wp2_with fail
    refine (rE _ _ _ _ _ HR4.out hc).mono ?_;rintro r w5 ⟨rfl,hb5⟩;have HB5:=aA (aB HB4.out hb5);clear hb5;go_wp2_with fail
    go_ret
    exact ⟨aO HE.out.symm,HB5.out⟩
   ·have hkn:(e.kind != 1)=true:=by simp[hk1]
    have HK1:=aA hk1;have HK:=aA hk;clear hk1 hk;go_wp2_with fail
    refine (zp3 _ _ _ _ _).mono ?_;rintro r w5 ⟨rfl,hb5⟩;have HB5:=aA (aB HB4.out hb5);have g0:=(hb5.cell (p:=⟨b2,0,none⟩) (World.block_lt_of_cell? _ _ f0)).trans f0;have g1:=(hb5.cell (p:=⟨b2,1,none⟩) (World.block_lt_of_cell? _ _ f1)).trans f1;clear hb5 f0 f1 f2 f3;by_cases hz:e.size≠0∨e.chunks.length≠0
    ·rw[decide_eq_true hz]
     have HE:=aA (fS hf (decide_eq_false (fun h=>h.2.elim HK1.out (fun h=>hz.elim (fun q=>q h.1) (fun q=>q h.2)))))
     clear hz hf;go_wp2_with fail
     go_ret
     exact ⟨aO HE.out.symm,HB5.out⟩
    ·rw[decide_eq_false hz]
     have HE:=aA (rF hf (decide_eq_true ⟨HK.out,Or.inr (by omega)⟩))
     clear hz hf;have HR5:=aA (HR.out.below HB5.out);go_wp2_with fail
     refine (rE _ _ _ _ _ HR5.out hc).mono ?_;rintro r w6 ⟨rfl,hb6⟩;have HB6:=aA (aB HB5.out hb6);clear hb6;go_wp2_with fail
     go_ret
     exact ⟨aO HE.out.symm,HB6.out⟩
  ·rw[decide_eq_false hk]
   have HE:=aA (fS hf (decide_eq_false (fun h=>hk h.1)))
   clear hk hf;go_wp2_with fail
   go_ret
   exact ⟨aO HE.out.symm,HB4.out⟩
 ·rw[oD hf]
  go_enter Tryz.func133,Tryz.ntmps133;go_wp2_with fail
  refine (kZ _ _ (by rw[aN];omega)).mono ?_
  rintro r w1 ⟨rfl,hb1⟩;rw[aV];have HB1:=aA (aB HN.out hb1);clear hb1 HN HB HR;go_wp2_with fail
  go_ret
  exact ⟨rfl,HB1.out⟩
def atE (es:List En) (p:Bs):Option Nat:=es.findIdx? fun e=>decide (e.path=p)
theorem aM (a:Bs):(str a).toList=a:=by rw[ByteArray.toList_eq,aV]
theorem iD {a b:Bs} (h:a=b):((str a).toList==(str b).toList)=true:=by rw[h];simp
theorem jK {a b:Bs} (h:a≠b):((str a).toList==(str b).toList)=false:=by rw[aM,aM,beq_eq_false_iff_ne];exact h
theorem vT (a b:Bs):((str a).toList==(str b).toList)=decide (a=b):=by
 by_cases h:a=b
 ·rw[iD h,decide_eq_true h]
 ·rw[jK h,decide_eq_false h]
def cD (o:Option Nat):Int:=match o with | some i=>(i:Int) | none=>-1
theorem dP {α:Type} {es:List α} {k:Nat} {e:α} (h:es[k]?=some e):es.drop k=e :: es.drop (k+1):=by
 obtain ⟨hk,he⟩:=List.getElem?_eq_some_iff.1 h;rw[List.drop_eq_getElem_cons hk,he]
theorem zyg {es:List En} {p:Bs} {k:Nat} {e:En} (h:es[k]?=some e) (hi:atE es p=(atE (es.drop k) p).map (· + k)) (hp:e.path=p):atE es p=some k:=by
 rw[hi,dP h];simp[atE,List.findIdx?_cons,hp]
theorem zre {es:List En} {p:Bs} {k:Nat} {e:En} (h:es[k]?=some e) (hi:atE es p=(atE (es.drop k) p).map (· + k)) (hp:e.path≠p):atE es p=(atE (es.drop (k+1)) p).map (· + (k+1)):=by
 rw[hi,dP h];simp only[atE,List.findIdx?_cons,hp,decide_false,Bool.false_eq_true,if_false,Option.map_map]
 congr 1
 funext x
 simp only[Function.comp];omega
theorem zxg {es:List En} {p:Bs} {k:Nat} (hk:es.length≤k) (hi:atE es p=(atE (es.drop k) p).map (· + k)):atE es p=none:=by
 rw[hi,List.drop_eq_nil_of_le hk];rfl
theorem mV (es:List En) (p:Bs):aL es p=(atE es p).bind (fun i=>es[i]?):=by
 unfold aL atE
 induction es with
 | nil=>rfl
 | cons e r ih =>
  by_cases h:e.path=p
  ·simp[List.findIdx?_cons,h]
  ·simp only[List.findIdx?_cons,List.find?_cons,h,decide_false,Bool.false_eq_true,if_false,ih]
   cases List.findIdx? (fun e=>decide (e.path=p)) r <;> simp
theorem nO {es:List En} {p:Bs} {k:Nat} (h:atE es p=some k):k<es.length:=by
 unfold atE at h;exact (List.findIdx?_eq_some_iff_getElem.1 h).1
theorem gU (a:Option Addr) (c n:Nat) (es:List En) (p:Bs) (w:World) (h:RdE w a es) (hn:n=es.length) (hl:es.length≤1048576) :
  Calls Tryz.prog 189 #[.slice a n c,.string (str p)] w fun r w'=>r=.returned (.int .i64 (cD (atE es p)))∧w'=w:=by
 subst hn;have HR:=aA h;clear h;go_enter Tryz.func189,Tryz.ntmps189;go_wp2_with fail
 go_loop [5] (fun i=>∃ k:Nat,k≤es.length∧i=.int .i64 k∧Hid (atE es p=(atE (es.drop k) p).map (· + k))) (fun i=>es.length - (intOf i).toNat)
 case atStart=>exact ⟨0,Nat.zero_le _,rfl,aA (by simp)⟩
 case round =>
  obtain ⟨k,hk,rfl,HA⟩:=hrel;by_cases hlt:k<es.length
  ·obtain ⟨b,off,e,x,cc,rfl,hb,he,c0,c1,c2,c3,hr⟩:=HR.out.at hlt
   have HX:=aA he;clear he hr;by_cases hp:e.path=p
   ·have HE:=aA (zyg HX.out HA.out hp)
    have hs:=iD hp;clear hp;go_wp2_with fail
    go_ret
    exact ⟨aO (by rw[HE.out];rfl),rfl⟩
   ·have HE:=aA (zre HX.out HA.out hp)
    have hs:=jK hp;clear hp;go_wp2_with fail
    go_round
    case rel=>exact ⟨k+1,by omega,by go_num,HE⟩
    case measure=>simp[intOf];omega
  ·have HE:=aA (zxg (by omega) HA.out)
   go_wp2_with fail
   go_ret
   exact ⟨aO (by rw[HE.out];rfl),rfl⟩
theorem cR (b o:Nat) (k:Int) (w:World) (h:w.cell? ⟨b,o+1,none⟩=some (.int .i64 k)) :
  Calls Tryz.prog 190 #[.pointer (some ⟨b,o,none⟩)] w fun r w'=>r=.returned (.bool (cG k))∧w'=w:=by
 by_cases h2:k=2
 ·have hk:cG k=true:=by simp[cG,h2]
  rw[hk];subst h2;go_enter Tryz.func190,Tryz.ntmps190;go_wp2_with fail
  go_ret
  exact ⟨rfl,rfl⟩
 ·have hk:cG k=(k==4):=by simp[cG,h2];rfl
  have hf:(k==2)=false:=by simp;exact h2
  rw[hk];go_enter Tryz.func190,Tryz.ntmps190;go_wp2_with fail
  go_ret
  exact ⟨rfl,rfl⟩
theorem znc {es:List En} {p:Bs} (h:aF p=[]):eB es p=true:=by simp[eB,h]
theorem zt9 {es:List En} {p:Bs} (h:aF p≠[]) (ha:atE es (aF p)=none):eB es p=false:=by simp[eB,h,mV,ha]
theorem zu9 {es:List En} {p:Bs} {k:Nat} {e:En} (h:aF p≠[]) (ha:atE es (aF p)=some k) (he:es[k]?=some e):eB es p=cG e.kind:=by simp[eB,h,mV,ha,he]
theorem qL (a:Bs):(str a).toList.isEmpty=decide (a=[]):=by rw[aM];cases a <;> rfl
theorem sB (a:Option Addr) (c n:Nat) (es:List En) (p:Bs) (w:World) (h:RdE w a es) (hn:n=es.length) (hl:es.length≤1048576) (h1:1≤p.length) (hp:p.length≤1048576) :
  Calls Tryz.prog 161 #[.slice a n c,.string (str p)] w fun r w'=>r=.returned (.bool (eB es p))∧Below w.heap.size w w':=by
 subst hn;have HR:=aA h;clear h;have HP:=aA (show (bH (bB (str p).data.toList.tail)).getLastD []=aF p from by rw[aV];rfl)
 by_cases hq:aF p=[]
 ·have HE:=aA (znc (es:=es) hq)
  have hs:=(qL (aF p)).trans (decide_eq_true hq);clear hq;go_enter Tryz.func161,Tryz.ntmps161;go_wp2_with fail
  refine (iI _ _ (by rw[aN];omega) (by rw[aN];omega)).mono ?_
  rintro r w1 ⟨rfl,hb⟩;rw[HP.out];have HB:=aA hb;clear hb;go_wp2_with fail
  go_ret
  exact ⟨by rw[HE.out];rfl,HB.out⟩
 ·have hs:=(qL (aF p)).trans (decide_eq_false hq)
  cases ha:atE es (aF p) with
  | none =>
   have HE:=aA (zt9 hq ha);have HA:=aA ha;clear hq ha;go_enter Tryz.func161,Tryz.ntmps161;go_wp2_with fail
   refine (iI _ _ (by rw[aN];omega) (by rw[aN];omega)).mono ?_
   rintro r w1 ⟨rfl,hb⟩;rw[HP.out];have HB:=aA hb;have HR1:=aA (HR.out.below hb);clear hb;go_wp2_with fail
   refine (gU _ _ _ es _ _ HR1.out rfl hl).mono ?_;rintro r w2 ⟨rfl,rfl⟩;rw[HA.out];simp only[cD];go_wp2_with fail
   go_ret
   exact ⟨by rw[HE.out];rfl,HB.out⟩
  | some k =>
   have hk:=nO ha;obtain ⟨e,he⟩:∃ e,es[k]?=some e:=⟨es[k],List.getElem?_eq_getElem hk⟩;have HE:=aA (zu9 hq ha he);have HA:=aA ha;have HX:=aA he;clear hq ha he;go_enter Tryz.func161,Tryz.ntmps161;go_wp2_with fail
   refine (iI _ _ (by rw[aN];omega) (by rw[aN];omega)).mono ?_
   rintro r w1 ⟨rfl,hb⟩;rw[HP.out];have HB:=aA hb;have HR1:=aA (HR.out.below hb);clear hb;go_wp2_with fail
   refine (gU _ _ _ es _ _ HR1.out rfl hl).mono ?_;rintro r w2 ⟨rfl,rfl⟩;rw[HA.out];simp only[cD];obtain ⟨b,off,e',x,cc,rfl,hbl,he',c0,c1,c2,c3,hr⟩:=HR1.out.at hk;have:e'=e:=Option.some.inj (he'.symm.trans HX.out);subst this;clear he' hr;go_wp2_with fail
   refine (cR _ _ _ _ c1).mono ?_;rintro r w3 ⟨rfl,rfl⟩;go_wp2_with fail
   go_ret
   exact ⟨by rw[HE.out];rfl,HB.out⟩
theorem bO {e:En} (h:aH e=0):aG e.path=0:=by
 by_cases hf:aG e.path=0
 ·exact hf
 ·rw[oD hf]at h;exact absurd h hf
theorem zf9:aG []≠0:=by decide
theorem sN {p:Bs} (h:aG p=0):1≤p.length:=by
 cases p with
 | nil=>exact absurd h zf9
 | cons c r=>simp
theorem tE {es:List En} (h:12<es.length):bY es=2:=by simp[bY,h]
theorem zi4 {es:List En} (h:¬ 12<es.length):bY es=gP es (bV es 0) (es.drop 0):=by simp[bY,h,bV]
theorem za7 {es:List En} {k:Nat} {e:En} {F:Int} (hF:F=gP es (bV es k) (es.drop k)) (he:es[k]?=some e) (h:aH e≠0):F=aH e:=by
 have hb:jI es (bV es k) e=aH e:=by simp[jI,h]
 rw[hF,mJ he,hb,if_neg h]
theorem zc7 {es:List En} {k:Nat} {e:En} {F:Int} (hF:F=gP es (bV es k) (es.drop k)) (he:es[k]?=some e) (h:aH e=0) (hl:gL (bV es k) e=true):F=1:=by
 have hb:jI es (bV es k) e=1:=by simp[jI,h,hl]
 rw[hF,mJ he,hb];rfl
theorem uI {es:List En} {k:Nat} {e:En} {F:Int} (hF:F=gP es (bV es k) (es.drop k)) (he:es[k]?=some e) (h:aH e=0) (hl:gL (bV es k) e=false) (hh:eB es e.path=false):F=9:=by
 have hb:jI es (bV es k) e=9:=by simp[jI,h,hl,hh]
 rw[hF,mJ he,hb];rfl
theorem uJ {es:List En} {k:Nat} {e:En} {F:Int} (hF:F=gP es (bV es k) (es.drop k)) (he:es[k]?=some e) (h:aH e=0) (hl:gL (bV es k) e=false) (hh:eB es e.path=true):F=gP es (bV es (k+1)) (es.drop (k+1)):=by
 have hb:jI es (bV es k) e=0:=by simp[jI,h,hl,hh]
 rw[hF,mJ he,hb];rfl
theorem zb7 {es:List En} {k:Nat} {F:Int} (hF:F=gP es (bV es k) (es.drop k)) (hk:es.length≤k):F=0:=by
 rw[hF,List.drop_eq_nil_of_le hk];cases bV es k <;> rfl
theorem lE (a:Option Addr) (c n:Nat) (es:List En) (w:World) (h:RdE w a es) (hn:n=es.length) (hl:es.length≤1048576) (hs:bJ es) :
  Calls Tryz.prog 112 #[.slice a n c] w fun r w'=>r=.returned (.int .i64 (bY es))∧Below w.heap.size w w':=by
 subst hn;by_cases hm:12<es.length
 ·have HE:=aA (tE hm)
  have hm2:(12:Int)<(es.length:Int):=by omega
  go_enter Tryz.func112,Tryz.ntmps112;go_wp2_with fail
  go_ret
  exact ⟨aO HE.out.symm,Below.refl _ _⟩
 ·have HE:=aA (zi4 hm)
  have hm2:¬ (12:Int)<(es.length:Int):=by omega
  generalize bY es=F at HE ⊢;have HR:=aA h;have HS:=aA hs;clear h hs;go_enter Tryz.func112,Tryz.ntmps112;go_wp2_with fail
  go_loopw [3] (fun i wr=>∃ k:Nat,k≤es.length∧i=.int .i64 k∧Hid (F=gP es (bV es k) (es.drop k))∧Hid (Below w.heap.size w wr)) (fun i _=>es.length - (intOf i).toNat)
  case atStart=>exact ⟨0,Nat.zero_le _,rfl,HE,aA (Below.refl _ _)⟩
  case round =>
   obtain ⟨k,hk,rfl,HF,HW⟩:=hrel;have HR1:=aA (HR.out.below HW.out);by_cases hlt:k<es.length
   ·obtain ⟨b,off,e,x,cc,rfl,hb,he,c0,c1,c2,c3,hr⟩:=HR1.out.at hlt
    have HX:=aA he;have HRc:=aA hr;have hsm:=HS.out e (List.mem_of_getElem? he);clear he hr;by_cases hz:aH e=0
    ·have hpos:=sN (bO hz)
     have HZ:=aA hz;clear hz;go_wp2_with fail
     refine (kP e _ _ _ _ HRc.out rfl hsm.1 hsm.2).mono ?_;rintro r w1 ⟨rfl,hb1⟩;rw[HZ.out];have HW1:=aA (aB HW.out hb1);have HR2:=aA (HR1.out.below hb1);clear hb1 c0 c1 c2 c3 HW HRc;obtain ⟨b',off',e',x',cc',hbb,hb',he',c0,c1,c2,c3,hr'⟩:=HR2.out.at hlt;simp only[Option.some.injEq,Addr.mk.injEq,and_true]at hbb;obtain ⟨rfl,rfl⟩:=hbb;have:e'=e:=Option.some.inj (he'.symm.trans HX.out);subst this;clear he' hr' c1 c2 c3 HR1;cases k with
     | zero =>
      have HL:=aA (show gL (bV es 0) e'=false from rfl)
      simp only[Nat.zero_mul,Nat.add_zero]at c0;go_wp2_with fail
      go_quiet (fail)
      go_wp2_with fail
      have HW2:=aA (below_drewN HW1.out nq);have HR3:=aA (HR2.out.below (below_drewN (Below.refl w1.heap.size w1) nq));clear HW1 HR2;have hw3:∀ o,(w1.drewN nq).cell? ⟨b,o,none⟩=w1.cell? ⟨b,o,none⟩:=fun _=>rfl
      generalize w1.drewN nq=W at *;have HH:=aA (sB _ c es.length es e'.path W HR3.out rfl (by omega) hpos hsm.1)
      cases hh:eB es e'.path
      ·have HO:=aA (uI HF.out HX.out HZ.out HL.out hh)
       refine HH.out.mono ?_;rintro r w4 ⟨rfl,hb4⟩;rw[hh];clear hh;have HW3:=aA (aB HW2.out hb4);clear hb4;go_wp2_with fail
       go_ret
       exact ⟨aO HO.out.symm,HW3.out⟩
      ·have HO:=aA (uJ HF.out HX.out HZ.out HL.out hh)
       refine HH.out.mono ?_;rintro r w4 ⟨rfl,hb4⟩;rw[hh];clear hh;have HW3:=aA (aB HW2.out hb4);clear hb4;go_wp2_with fail
       go_roundw
       case rel=>exact ⟨1,by omega,by go_num,HO,HW3⟩
       case measure=>simp[intOf];omega
     | succ j =>
      have hg:(0:Int)<((j+1:Nat):Int):=by omega
      obtain ⟨b2,off2,e2,x2,cc2,hbb,hb2,he2,d0,d1,d2,d3,hr2⟩:=HR2.out.at (show j<es.length by omega)
      simp only[Option.some.injEq,Addr.mk.injEq,and_true]at hbb;obtain ⟨rfl,rfl⟩:=hbb;have HL:=aA (show gL (bV es (j+1)) e'=(Op.bytesLess e'.path e2.path||(e'.path==e2.path)) from by simp[bV,gL,he2])
      clear he2 d1 d2 d3 hr2;cases hlow:(Op.bytesLess (str e'.path).toList (str e2.path).toList||((str e'.path).toList==(str e2.path).toList))
      ·have HL2:=aA (show gL (bV es (j+1)) e'=false from by rw[HL.out];rw[aM,aM]at hlow;exact hlow)
       go_wp2_with fail
       go_quiet (fail)
       go_wp2_with fail
       have HW2:=aA (below_drewN HW1.out nq);have HR3:=aA (HR2.out.below (below_drewN (Below.refl w1.heap.size w1) nq));clear HW1 HR2;have hw3:∀ o,(w1.drewN nq).cell? ⟨b,o,none⟩=w1.cell? ⟨b,o,none⟩:=fun _=>rfl
       generalize w1.drewN nq=W at *;have HH:=aA (sB _ c es.length es e'.path W HR3.out rfl (by omega) hpos hsm.1)
       cases hh:eB es e'.path
       ·have HO:=aA (uI HF.out HX.out HZ.out HL2.out hh)
        refine HH.out.mono ?_;rintro r w4 ⟨rfl,hb4⟩;rw[hh];clear hh;have HW3:=aA (aB HW2.out hb4);clear hb4;go_wp2_with fail
        go_ret
        exact ⟨aO HO.out.symm,HW3.out⟩
       ·have HO:=aA (uJ HF.out HX.out HZ.out HL2.out hh)
        refine HH.out.mono ?_;rintro r w4 ⟨rfl,hb4⟩;rw[hh];clear hh;have HW3:=aA (aB HW2.out hb4);clear hb4;go_wp2_with fail
        go_roundw
        case rel=>exact ⟨j+1+1,by omega,by go_num,HO,HW3⟩
        case measure=>simp[intOf];omega
      ·have HL2:=aA (show gL (bV es (j+1)) e'=true from by rw[HL.out];rw[aM,aM]at hlow;exact hlow)
       have HO:=aA (zc7 HF.out HX.out HZ.out HL2.out);go_wp2_with fail
       go_quiet (fail)
       go_wp2_with fail
       go_ret
       exact ⟨aO HO.out.symm,below_drewN HW1.out _⟩
    ·have HZ:=aA (za7 HF.out HX.out hz)
     have hz2:(aH e != 0)=true:=by simp;exact hz
     clear hz;go_wp2_with fail
     refine (kP e _ _ _ _ HRc.out rfl hsm.1 hsm.2).mono ?_;rintro r w1 ⟨rfl,hb1⟩;have HW1:=aA (aB HW.out hb1);clear hb1;go_wp2_with fail
     go_ret
     exact ⟨aO HZ.out.symm,HW1.out⟩
   ·have HZ:=aA (zb7 HF.out (by omega))
    go_wp2_with fail
    go_ret
    exact ⟨aO HZ.out.symm,HW.out⟩
end Go.Proofs.YtgaeikgoknoamaaGreat
namespace Go.Proofs.YtgaeikgoknoamaaGreat
def cU (es:List En) (q:Bs):Bool:=es.any fun x=>decide (x.path=q)&&cG x.kind
def cI (es:List En) (p:Bs):Bool:=if aF p=[] then true else cU es (aF p)
def dC (home:Bs→Bool) (prev:Option En) (e:En):Int:=if aH e=0 then (if gL prev e then 1 else if home e.path then 0 else 9) else aH e
def cC (home:Bs→Bool):Option En→List En→Int
 | _,[]=>0
 | prev,e :: r=>if dC home prev e=0 then cC home (some e) r else dC home prev e
def aQ (es:List En):Int:=if 12<es.length then 2 else cC (cI es) none es
theorem uH (es:List En):∀ (l:List En) (prev:Option En),gP es prev l=cC (eB es) prev l
 | [],_=>rfl
 | e :: r,prev=>by
  simp only[gP,cC];have:jI es prev e=dC (eB es) prev e:=rfl;rw[this,uH es r (some e)]
theorem rG {es:List En} (h:12<es.length):aQ es=2:=by simp[aQ,h]
theorem lH {es:List En} {H:Bs→Bool} {i:Nat} {e:En} (h:es[i]?=some e):cC H (bV es i) (es.drop i)=if dC H (bV es i) e=0 then cC H (bV es (i+1)) (es.drop (i+1)) else dC H (bV es i) e:=by
 obtain ⟨hi,he⟩:=List.getElem?_eq_some_iff.1 h;have e1:bV es (i+1)=some e:=by simp[bV,h]
 rw[e1,List.drop_eq_getElem_cons hi,he];rfl
theorem zjf {es:List En} {H:Bs→Bool} {k:Nat} {e:En} {F:Int} (hF:F=cC H (bV es k) (es.drop k)) (he:es[k]?=some e) (h:aH e≠0):F=aH e:=by
 have hb:dC H (bV es k) e=aH e:=by simp[dC,h]
 rw[hF,lH he,hb,if_neg h]
theorem zlf {es:List En} {H:Bs→Bool} {k:Nat} {e:En} {F:Int} (hF:F=cC H (bV es k) (es.drop k)) (he:es[k]?=some e) (h:aH e=0) (hl:gL (bV es k) e=true):F=1:=by
 have hb:dC H (bV es k) e=1:=by simp[dC,h,hl]
 rw[hF,lH he,hb];rfl
theorem za1 {es:List En} {H:Bs→Bool} {k:Nat} {e:En} {F:Int} (hF:F=cC H (bV es k) (es.drop k)) (he:es[k]?=some e) (h:aH e=0) (hl:gL (bV es k) e=false) (hh:H e.path=false):F=9:=by
 have hb:dC H (bV es k) e=9:=by simp[dC,h,hl,hh]
 rw[hF,lH he,hb];rfl
theorem zb1 {es:List En} {H:Bs→Bool} {k:Nat} {e:En} {F:Int} (hF:F=cC H (bV es k) (es.drop k)) (he:es[k]?=some e) (h:aH e=0) (hl:gL (bV es k) e=false) (hh:H e.path=true):F=cC H (bV es (k+1)) (es.drop (k+1)):=by
 have hb:dC H (bV es k) e=0:=by simp[dC,h,hl,hh]
 rw[hF,lH he,hb];rfl
theorem zkf {es:List En} {H:Bs→Bool} {k:Nat} {F:Int} (hF:F=cC H (bV es k) (es.drop k)) (hk:es.length≤k):F=0:=by
 rw[hF,List.drop_eq_nil_of_le hk];cases bV es k <;> rfl
theorem zgf {ns:List Bs} (h:ns≠[]):bL ns≠[]:=by
 cases ns with
 | nil=>exact absurd rfl h
 | cons a l=>simp[bL]
theorem lF {p:Bs}:aF p=[]↔bH (bB p.tail)=[]:=by
 constructor
 ·intro h
  cases hc:bH (bB p.tail) with
  | nil=>rfl
  | cons a l =>
   exfalso
   have hm:aF p∈bH (bB p.tail):=by
    unfold aF;rw[List.getLastD_eq_getLast?,List.getLast?_eq_some_getLast (by rw[hc];simp)]
    exact List.getLast_mem _
   rw[h]at hm;obtain ⟨k,h0,hk,e⟩:=oP.1 hm;exact zgf (by intro e;have:=congrArg List.length e;rw[List.length_take,List.length_nil]at this;omega) e.symm
 ·intro h
  simp[aF,h]
end Go.Proofs.YtgaeikgoknoamaaGreat
namespace Go.Proofs.YtgaeikgoknoamaaGreat
open Go.RowKit Go.Shelf
attribute [local go_sem] Oper.semAt_some
theorem rY:∀ (ns:List Bs) (m:Nat),(∀ n∈ns,n.length≤m)→(bL ns).length≤(m+1) * ns.length
 | [],_,_=>by simp[bL]
 | n :: ns,m,h=>by
  have:=rY ns m (fun x hx=>h x (by simp[hx]))
  have:=h n (by simp)
  simp only[bL,List.length_cons,List.length_append,Nat.mul_add,Nat.mul_one];omega
theorem tJ {F:Fence} {m:Nat} {P:Program} {wr:World} {news:Array Value} {ops:Array Oper} {rest:List Oper} {o:Oper} {a:Act} {Q:Exit→Act→World→Prop} (hgd:o.guard=none) (s x:Operand) (t:TypeId)
  (ho:o.op=.call { callee:=.builtin .append,args:=#[s,x],argTypes:=#[t,t] })
  (base:Nat) (e:TypeId) (i:TypeInfo) (z:Value) (size bytes:Nat) (ht:P.underlying t=some (.slice e)) (hi:P.info? e=some i) (hz:i.zero=some z)
  (hsize:i.size=size) (hby:i.bytes=bytes) (hzs:z.cells.size=size) (hsz:0<size)
  (v:Value) (n:Nat) (xs:List Value) (hs:a.eval s=v) (hown:wr.ownsRow base e size v n xs)
  (hx:a.eval x=.slice (some ⟨wr.heap.size,0,none⟩) 1 1) (hl:news.size=size) (h1:∀ u∈news.toList,u.oneCell'=true)
  (h63:n+1≤maxLen) (hbytes:(n+1) * bytes≤140737488355328) (hbase:base≤wr.heap.size)
  (h:∀ v' w',w'.ownsRow base e size v' (n+1) (xs++news.toList)→aE (fun b=>v.ownBlock=some b) wr w'→KeepsOthers wr w'→wpListIn F m P ops Q rest (a.put o.dst v') w') :
  wpListIn F m P ops Q (o :: rest) a (wr.alloc (.cells news e)):=by
 refine wpListIn_append_own _ hgd s x t ho base e i z size bytes ht hi hz hsize hby hzs hsz v n xs hs (hown.alloc _) ⟨wr.heap.size,0,none⟩ 1 1 news.toList hx (by simp[hl]) ?_ h1 h63 hbytes (by simp;omega) ?_
 ·intro j u hj
  have hadd:(⟨wr.heap.size,0,none⟩:Addr).add j=⟨wr.heap.size,j,none⟩:=by unfold Addr.add;split <;> simp_all
  rw[hadd,cell_of_row _ wr.heap.size j news e (0,0) (heap_alloc_new wr _)];simpa using hj
 ·intro v' w' ho' hg _
  refine h v' w' ho' ⟨hg.os,hg.tape,hg.output,Nat.le_trans (by simp) hg.size,fun k hk hn=>?_⟩ ?_
  ·rw[hg.block k (by simp;omega) (fun e=>hn e.symm)]
   exact Below.heap_alloc _ _ _ hk
  ·refine (KeepsOthers.alloc wr _).trans (KeepsOthers.of_grownBy hg fun j o ej hj=>?_)
   rcases (hown.alloc (.cells news e)).2 with ⟨rfl,_⟩ | ⟨g,cap,cur,rfl,_,hgb,_⟩
   ·simp[Value.ownBlock]at ej
   ·obtain rfl:g=j:=by simpa [Value.ownBlock] using ej
    rw[hgb]at hj;cases hj;rfl
theorem rN {S:Nat→Prop} {W W':World} {B:Nat} {t:TypeId} {v:Value} (h:Boxed W B t v) (hk:aE S W W') (hn:¬ S B):Boxed W' B t v:=(hk.block B h.lt hn).trans h
theorem zag {β:Type} (R:Nat) (B:Nat) (t:TypeId) (f:β→List Bs):Go.Own (fun s W=>∃ v,Boxed W B t v∧bR R W v (f s)):=by
 have:=holdsRow_own (β:=β) R B t 9 1 (fun s=>(f s).length) (fun s=>(f s).map vS) (fun _ _=>True)
 intro s W W' row hs hg hr;obtain ⟨v,hv,hrow⟩:=hs;obtain ⟨v',hv',hrow',_⟩:=this s W W' row ⟨v,hv,hrow,trivial⟩ hg hr;exact ⟨v',hv',hrow'⟩
theorem zv5 (ps:List Bs) (x:Bs) (h:ps≠[]):bH (ps ++ [x])=bH ps ++ [bL ps]:=by
 have hp:=List.length_pos_iff.2 h;obtain ⟨k,hk⟩:∃ k,ps.length=k+1:=⟨ps.length - 1,by omega⟩
 unfold bH;have e1:(ps ++ [x]).length - 1=k+1:=by simp;omega
 have e2:ps.length - 1=k:=by omega
 rw[e1,e2,List.range_succ,List.map_append]
 congr 1
 ·apply List.map_congr_left
  intro j hj;have:j<k:=by simpa using hj
  rw[List.take_append_of_le_length (by omega)]
 ·simp[List.take_append_of_le_length (show k+1≤ps.length by omega),List.take_of_length_le (show ps.length≤k+1 by omega)]
theorem zsc (ps:List Bs) (x:Bs):str (bL ps)++((⟨#[47]⟩:ByteArray)++str x)=str (bL (ps ++ [x])):=by
 have e:(⟨#[47]⟩:ByteArray)=str [47]:=rfl;rw[e,oW,oW,jZ];simp[bL]
theorem zw3 (ps:List Pc):(bL (pcs ps)).length≤2097153 * ps.length:=by
 have:=rY (pcs ps) 2097152 (fun n hn=>by obtain ⟨x,_,rfl⟩:=List.mem_map.1 hn;exact x.2)
 rwa [oT]at this
theorem pU (s:ByteArray) (w:World) (hs:s.size≤2097152) :
  Calls Tryz.prog 206 #[.string s] w fun e w'=>∃ a c,e=.returned (.agg #[.int .i64 (aG s.data.toList),.slice a (bM s.data.toList).length c])∧bR w.heap.size w' (.slice a (bM s.data.toList).length c) (bM s.data.toList)∧Below w.heap.size w w':=by
 obtain ⟨i1,ki,kz0,kz1,kz2⟩:=info_parts mI;refine (callsIn_wide (n:=4)).1 ?_;refine callsIn_of_wp_marks Tryz.func206 rfl trivial ?_ rfl;simp only[Tryz.ntmps206,List.size_toArray,List.length_cons,List.length_nil,Nat.reduceAdd,Nat.reduceSub,Array.replicate_succ,Array.replicate_zero,List.push_toArray,List.append_toArray,List.nil_append,List.cons_append];gi_wp2_with fail
 refine ⟨trivial,?_⟩;refine (callsIn_wide.2 (kZ s _ hs)).mono ?_;rintro e w1 ⟨rfl,hb1⟩;have X0:=aA ((Box.new w (.int .i64 0) (.slice none 0 0) 58).below hb1);have n1:w.heap.size<w1.heap.size:=by have:=hb1.size;simp at this;omega
 have HB:=aA (aB (aC w _) hb1);clear hb1;by_cases hf:aG s.data.toList=0
 ·have h1:=oM hf
  have HA:=aA (eL hf);have HF:=aA hf;have h1':(1:Int)≤(s.size:Int):=by omega
  have HT:=aA (qM s);have hel:=oL s 1 s.size;rw[hf];clear hf;gi_wp2_with fail
  refine ⟨trivial,?_⟩;refine (callsIn_wide.2 (wW _ _)).mono ?_;rintro e w2 ⟨rfl,rfl⟩;gi_wp2_with fail
  have HXE:=aA (show s.extract 1 s.size=str s.data.toList.tail by rw[←HT.out,zde])
  have hrl:s.data.toList.tail.length≤2097152:=by rw[List.length_tail,←Lib.size_eq];omega
  have hcl:=jY s.data.toList.tail;have bA:=Boxed.new w1 25 (.slice none 0 0);have bP:=Boxed.new (w1.alloc (.cells #[.slice none 0 0] 25)) 9 (.string ⟨#[]⟩);have bT:=Boxed.new ((w1.alloc (.cells #[.slice none 0 0] 25)).alloc (.cells #[.string ⟨#[]⟩] 9)) 9 (.string (s.extract 1 s.size));simp only[World.size_alloc]at bP bT;have hB0:Below w.heap.size w (((w1.alloc (.cells #[.slice none 0 0] 25)).alloc (.cells #[.string ⟨#[]⟩] 9)).alloc (.cells #[.string (s.extract 1 s.size)] 9)):=((HB.out.alloc (by omega) _).alloc (by simp;omega) _).alloc (by simp;omega) _
  have hX0:=((X0.out.below (aC w1 (.cells #[.slice none 0 0] 25))).below (aC _ (.cells #[.string ⟨#[]⟩] 9))).below (aC _ (.cells #[.string (s.extract 1 s.size)] 9));refine wpIn_rangeFunc_ownF rfl (by decide) (gf:=246) (lb:=#[.pointer (some ⟨w1.heap.size+1+1,0,none⟩)]) rfl trivial (enters_of Tryz.func246 (by kernel_rfl) rfl)
   (uR _ (w1.heap.size+1+1) w.heap.size s.data.toList.tail hrl _ (by simp) (by rw[←HXE.out];exact bT.cell)) belowK_t (belowK_b (by simp;omega)) (Below.refl _ _) (fun _=>rfl)
   (fun (pre:List Pc) W=>((∃ v,Boxed W w1.heap.size 25 v∧bR (w1.heap.size+3) W v (bH (pcs pre)))∧Boxed W (w1.heap.size+1) 9 (.string (str (bL (pcs pre))))∧Box W w.heap.size (.int .i64 0) (.slice none 0 0)∧w1.heap.size+3≤W.heap.size)∧Below w.heap.size w W)
   (fun c (pre:List Pc) W=>False)
   (OwnFrom.and (OwnFrom.and (Own.from (zag _ _ _ (fun pre=>bH (pcs pre))) _) (OwnFrom.and (Own.from (boxed_own _ _ (fun pre=>.string (str (bL (pcs pre))))) _) (OwnFrom.and (Own.from (zu7 _ _ _) _) (fun _ _ _ _ hs hg _=>Nat.le_trans hs hg.size)))) (ownFrom_below (Nat.le_refl _) (by simp;omega)))
   (fun c=>ownFrom_pure _ _)
   ⟨⟨⟨_,(bA.alloc _).alloc _,bR.nil _ _⟩,bP.alloc _,hX0,by simp⟩,hB0⟩
   (fun x=>{ tmps:=#[.string s,undef,.pointer (some ⟨w.heap.size,0,none⟩),.int .i64 0,.pointer (some ⟨w1.heap.size,0,none⟩),.pointer (some ⟨w1.heap.size+1,0,none⟩),.string (str x.1),.string s,.int .i64 0,.int .i64 0,.bool false,undef,undef,.string s,.string (s.extract 1 s.size),.func (.func 246) #[] #[.pointer (some ⟨w1.heap.size+1+1,0,none⟩)],.string (str x.1),undef,undef,undef,undef,undef,undef,undef,undef,undef,undef,undef,undef],defers:=[] }) ?assign ?body ?done ?stop
  case assign =>
   intro l x W K hK;gi_wp2_with fail
   exact hK
  case body =>
   rintro l pre ⟨x,hx⟩ W ⟨⟨⟨v,hv,hO⟩,hP,hX,hsz⟩,hB⟩ hlt;obtain ⟨va,vc,rfl⟩:=hO.shape;have hjl:=zw3 pre;have hpl:pre.length≤2097152:=by omega
   have HJS:=aA (zsc (pcs pre) x);generalize hj:bL (pcs pre)=j at *;have HJ:=aA hj;clear hj;have hz1:¬ 9223372036854775807<1+(str x).size:=by rw[aN];omega
   have hz2:¬ 9223372036854775807<(str j).size+(1+(str x).size):=by rw[aN,aN];omega
   have hv0:=hv.cell;have hv1:=hv.frozen;have hP0:=hP.cell;have hP1:=hP.frozen;have HX:=aA hX;have HB':=aA hB;have HO:=aA hO;have HV:=aA hv;have HP:=aA hP;clear hX hB hO hv hP;by_cases h0:pre=[]
   ·subst h0
    have he:(str j).toList.isEmpty=true:=by rw[←HJ.out,ByteArray.toList_eq,aV];rfl
    gi_wp2_with fail
    have KS:=aA (aE.setCell (S:=fun b=>b=w1.heap.size+1) (p:=⟨w1.heap.size+1,0,none⟩) (aE.refl _ W) (fun _=>rfl) (.string (str j++((⟨#[47]⟩:ByteArray)++str x))))
    exact ⟨KeepsOthers.setCell _ _ _,(Below.refl w.heap.size W).setCell (p:=⟨w1.heap.size+1,0,none⟩) (by simp;omega) _,⟨⟨_,HV.out.other (by omega) _,HO.out.kept KS.out (fun b hb e=>by have:=(HO.out.lt b hb).1;omega)⟩,by rw[gV,←HJS.out];exact HP.out.set _,HX.out.kept KS.out (by omega),by have:=KS.out.size;omega⟩,HB'.out.setCell (p:=⟨w1.heap.size+1,0,none⟩) (by simp;omega) _⟩
   ·have he:(str j).toList.isEmpty=false:=by
     rw[←HJ.out,ByteArray.toList_eq,aV];cases pre with
     | nil=>exact absurd rfl h0
     | cons p pre=>rfl
    have HAS:=aA (show bH (pcs (pre ++ [⟨x,hx⟩]))=bH (pcs pre) ++ [j] by rw[gV,zv5 _ _ (by intro e;apply h0;exact List.map_eq_nil_iff.1 e),HJ.out])
    have hal:(bH (pcs pre)).length≤2097152:=by rw[gS,oT];omega
    generalize bH (pcs pre)=ab at *;have hm1:ab.length+1≤maxLen:=by unfold maxLen;omega
    have hm2:(ab.length+1) * 16≤140737488355328:=by omega
    gi_wp2_with (gi_at_builtin;refine tJ rfl (.tmp 19) (.tmp 21) 25 rfl (w1.heap.size+3) 9 i1 (.string ⟨#[]⟩) 1 16 Tryz.underlying25 ki kz0 kz1 kz2 rfl (by decide) _ _ _ rfl HO.out rfl rfl (by intro u hu;simp at hu;subst hu;rfl) hm1 hm2 hsz ?_;intro v' w2 hown2 hkept hko;obtain ⟨g',cap',rfl⟩:=ownsRow_succ hown2;have O2:=aA (bR.snoc hown2 rfl);have K2:=aA hkept;have KO:=aA hko;clear hown2 hkept hko;have HV2:=aA (rN HV.out K2.out (fun hS=>by have:=(HO.out.lt _ hS).1;omega));have HP2:=aA (rN HP.out K2.out (fun hS=>by have:=(HO.out.lt _ hS).1;omega));have hv2:=HV2.out.cell;have hv3:=HV2.out.frozen;have HP3:=aA (HP2.out.other (B':=w1.heap.size) (by omega) (.slice (some ⟨g',0,none⟩) (ab.length+1) cap'));have hP2:=HP3.out.cell;have hP3:=HP3.out.frozen)
    have KS:=aA (aE.setCell (S:=fun b=>b=w1.heap.size∨b=w1.heap.size+1) (p:=⟨w1.heap.size+1,0,none⟩) (aE.setCell (S:=fun b=>b=w1.heap.size∨b=w1.heap.size+1) (p:=⟨w1.heap.size,0,none⟩) (aE.refl _ w2) (fun _=>.inl rfl) (.slice (some ⟨g',0,none⟩) (ab.length+1) cap')) (fun _=>.inr rfl) (.string (str j++((⟨#[47]⟩:ByteArray)++str x))))
    have hBK:=K2.out.below (B:=w.heap.size) (by have:=HB'.out.size;omega) (fun k hk hS=>by have:=(HO.out.lt _ hS).1;omega)
    have hBS:=KS.out.below (B:=w.heap.size) (by have:=K2.out.size;omega) (fun k hk hS=>by omega)
    exact ⟨KO.out.trans ((KeepsOthers.setCell _ _ _).trans (KeepsOthers.setCell _ _ _)),hBK.trans hBS,⟨⟨_,(HV2.out.set _).other (by omega) _,by rw[HAS.out];exact O2.out.kept KS.out (fun b hb e=>by have:=(O2.out.lt b hb).1;omega)⟩,by rw[gV,←HJS.out];exact HP3.out.set _,(HX.out.kept K2.out (fun hS=>by have:=(HO.out.lt _ hS).1;omega)).kept KS.out (by omega),by have:=K2.out.size;have:=KS.out.size;omega⟩,(HB'.out.trans hBK).trans hBS⟩
  case done =>
   rintro D ys W hD hys ⟨⟨⟨v,hv,hO⟩,hP,hX,hsz⟩,hB⟩ hK;rw[hys,←HA.out]at hO;obtain ⟨va,vc,rfl⟩:=hO.shape;have hv0:=hv.cell;have HX:=aA hX;have HB':=aA hB;have HK:=aA hK;have HO:=aA hO;clear hX hB hK hO hys hv hP;obtain ⟨⟨q0,q1⟩,q2,q3⟩:=HX.out;gi_wp2_with fail
   obtain ⟨k1,k2,k3⟩:=zz7 HX.out.1 HK.out (.int .i64 0) (.slice va (bM s.data.toList).length vc);refine ⟨by simp,.inl ⟨_,_,rfl,run_takeDeferred k1,?_⟩⟩
   refine ⟨.agg #[.int .i64 0,.slice va (bM s.data.toList).length vc],by simp[results,Tryz.results206,go_sem,k2,k3],va,vc,by rw[HF.out],?_,?_⟩
   ·exact ownsRow_putObj ((HO.out.kept (aE.two W w.heap.size 0 1 _ _) (fun b hb e=>by have:=(HO.out.lt b hb).1;omega)).mono (by omega)) _ k1 rfl
   ·exact ((HB'.out.setCell (p:=⟨w.heap.size,0,none⟩) (Nat.le_refl _) _).setCell (p:=⟨w.heap.size,1,none⟩) (Nat.le_refl _) _).trans (belowK_b (w:=w) (Nat.le_refl _) _ D _ _ (by simp at hD;omega) k1 rfl rfl)
  case stop =>
   rintro D c pre W hD hpre hc hK;exact hc.elim
 ·have HA:=aA (tM hf)
  obtain ⟨⟨q0,q1⟩,q2,q3⟩:=X0.out;obtain ⟨c,hc⟩:∃ c,c=aG s.data.toList:=⟨_,rfl⟩;rw[←hc]at hf ⊢;have HC:=aA hc;clear hc;have hf2:(c != 0)=true:=by simpa using hf
  gi_wp2_with fail
  have h2:=X0.out.1.set (.int .i64 c) (.slice none 0 0);refine ⟨.agg #[.int .i64 c,.slice none 0 0],by simp[results,Tryz.results206,go_sem,h2.1,h2.2],?_⟩
  rw[HA.out,←HC.out];exact ⟨_,_,rfl,bR.nil _ _,(HB.out.setCell (p:=⟨w.heap.size,0,none⟩) (Nat.le_refl _) _).setCell (p:=⟨w.heap.size,1,none⟩) (Nat.le_refl _) _⟩
theorem pI (s:ByteArray) (w:World) (hs:s.size≤2097152) :
  Calls Tryz.prog 177 #[.string s] w fun e w'=>e=.returned (.agg #[.int .i64 (xR s.data.toList),.string (str (uP s.data.toList))])∧Below w.heap.size w w':=by
 have hlen:=pS s.data.toList;go_enter Tryz.func177,Tryz.ntmps177;go_wp2_with fail
 refine (pU s _ hs).mono ?_;rintro e w1 ⟨va,vc,rfl,hO,hb1⟩;have X0:=aA ((Box.new w (.int .i64 0) (.string ⟨#[]⟩) 234).below hb1);have n1:w.heap.size<w1.heap.size:=by have:=hb1.size;simp at this;omega
 have HB:=aA (aB (aC w _) hb1);have HO:=aA hO;clear hb1 hO;by_cases hf:aG s.data.toList=0
 ·have HF:=aA hf
  have HA:=aA (eL hf);rw[hf];clear hf;by_cases h0:bM s.data.toList=[]
  ·have HE:=aA (zy4 HF.out (by rw[←HA.out];exact h0))
   rw[h0];obtain ⟨⟨q0,q1⟩,q2,q3⟩:=X0.out;clear h0 hlen;go_wp2_with fail
   rw[HE.out.1,HE.out.2];have h2:=(X0.out.1.set (.int .i64 4) (.string ⟨#[]⟩)).below (aC _ (.cells #[.int .i64 0,.slice va 0 vc] 58));exact bodyPost_ret (v:=.agg #[.int .i64 4,.string ⟨#[]⟩]) (by simp[results,Tryz.results177,go_sem,h2.1,h2.2]) rfl ⟨rfl,((HB.out.setCell (p:=⟨w.heap.size,0,none⟩) (Nat.le_refl _) _).setCell (p:=⟨w.heap.size,1,none⟩) (Nat.le_refl _) _).alloc (by simp[World.setCell];omega) _⟩
  ·have HE:=aA (zx4 HF.out (by rw[←HA.out];exact h0))
   have hp:=List.length_pos_iff.2 h0;obtain ⟨b,off,p,rfl,hb,hpe,hck⟩:=HO.out.reads.at (k:=(bM s.data.toList).length - 1) (by omega)
   have HP:=aA (show (bH (bB s.data.toList.tail)).getLastD []=p by rw[←HA.out];exact (Option.some.inj (hpe.symm.trans (rS h0))).symm)
   clear hpe;generalize (bM s.data.toList).length=n at *;have hz:((n:Int)==0)=false:=by simp;omega
   have hp':(1:Int)≤(n:Int):=by omega
   have hp2:(n:Int)≤2:=by omega
   obtain ⟨⟨q0,q1⟩,q2,q3⟩:=X0.out;go_wp2_with fail
   rw[HE.out.1,HE.out.2,HP.out];have h2:=(X0.out.1.set (.int .i64 0) (.string (str p))).below (aC _ (.cells #[.int .i64 0,.slice (some ⟨b,off,none⟩) n vc] 58));exact bodyPost_ret (v:=.agg #[.int .i64 0,.string (str p)]) (by simp[results,Tryz.results177,go_sem,h2.1,h2.2]) rfl ⟨rfl,((HB.out.setCell (p:=⟨w.heap.size,0,none⟩) (Nat.le_refl _) _).setCell (p:=⟨w.heap.size,1,none⟩) (Nat.le_refl _) _).alloc (by simp[World.setCell];omega) _⟩
 ·have HE:=aA (zth hf)
  obtain ⟨⟨q0,q1⟩,q2,q3⟩:=X0.out;obtain ⟨c,hc⟩:∃ c,c=aG s.data.toList:=⟨_,rfl⟩;rw[←hc]at hf ⊢;have HC:=aA hc;clear hc;have hf2:(c != 0)=true:=by simpa using hf
  go_wp2_with fail
  rw[HE.out.1,HE.out.2,←HC.out];have h2:=(X0.out.1.set (.int .i64 c) (.string ⟨#[]⟩)).below (aC _ (.cells #[.int .i64 c,.slice va (bM s.data.toList).length vc] 58));exact bodyPost_ret (v:=.agg #[.int .i64 c,.string ⟨#[]⟩]) (by simp[results,Tryz.results177,go_sem,h2.1,h2.2]) rfl ⟨rfl,((HB.out.setCell (p:=⟨w.heap.size,0,none⟩) (Nat.le_refl _) _).setCell (p:=⟨w.heap.size,1,none⟩) (Nat.le_refl _) _).alloc (by simp[World.setCell];omega) _⟩
theorem pW (s t:ByteArray) (w:World) (hs:s.size≤2097152) :
  Calls Tryz.prog 215 #[.string s,.string t] w fun e w'=>e=.returned (.bool (eG s.data.toList t.data.toList))∧Below w.heap.size w w':=by
 have hlen:=pS s.data.toList;go_enter Tryz.func215,Tryz.ntmps215;go_wp2_with fail
 refine (pU s _ hs).mono ?_;rintro e w1 ⟨va,vc,rfl,hO,hb1⟩;have HB:=aA hb1;have HO:=aA hO;clear hb1 hO;have hfield:∀ (c v:Value) (w:World),(Instr.field 58 (.agg #[c,v]) 1).run Tryz.prog w=.ok v w:=fun c v w=>by kernel_rfl
 go_wp2_with fail
 refine (zc8 va vc (bM s.data.toList) t _ HO.out.reads (by omega) _ rfl).mono ?_
 rintro e w2 ⟨rfl,rfl⟩;go_wp2_with fail
 go_ret
 exact ⟨rfl,HB.out⟩
end Go.Proofs.YtgaeikgoknoamaaGreat
