/-
  Texts put together: SeeJ OvrA MntF IteP.
-/
import Derived.Test.YtgaeikgoknoamaaGreatKCollec8
import Derived.Test.YtgaeikgoknoamaaGreatKCollec18
import Derived.Test.YtgaeikgoknoamaaGreatKCollec9
import Derived.Test.YtgaeikgoknoamaaGreatKCollec11
import Derived.Test.YtgaeikgoknoamaaGreatKCollec4
import Derived.Shelf.SlSortCmp.WholeK
import Derived.Ground.SlsfProg
import Derived.Test.YtgaeikgoknoamaaGreatProg
set_option linter.unusedVariables false
set_option maxHeartbeats 3200000
set_option maxRecDepth 100000
namespace Go.Proofs.YtgaeikgoknoamaaGreat
open Go.RowKit Go.Maps
attribute [local go_sem ↓] Go.wp_at_zero Go.wp_at_succ
def vN (ls:List (List En)):Bool:=(List.range (ls.length+1)).all fun j=>decide ((aT (ls.take j)).length≤40)
def lA (ls:List (List En)):Int:=if cL ls=0 then (if vN ls then 0 else 2) else cL ls
def mK (ls:List (List En)):List En:=if lA ls=0 then aT ls else []
theorem zh8 {ls:List (List En)} (h:cL ls≠0):lA ls=cL ls∧mK ls=[]:=by
 have h1:lA ls=cL ls:=by rw[lA,if_neg h]
 exact ⟨h1,by rw[mK,if_neg (by rw[h1];exact h)]⟩
theorem zpf {ls:List (List En)} {k:Nat} (h:cL ls=0) (hk:k≤ls.length) (h40:40<(aT (ls.take k)).length):lA ls=2∧mK ls=[]:=by
 have h0:vN ls=false:=by
  rw[vN,List.all_eq_false];exact ⟨k,List.mem_range.2 (by omega),by simp;omega⟩
 have h1:lA ls=2:=by rw[lA,if_pos h,h0];rfl
 exact ⟨h1,by rw[mK,if_neg (by rw[h1];decide)]⟩
theorem zli {ls:List (List En)} (h:cL ls=0) (h40:∀ j,j≤ls.length→(aT (ls.take j)).length≤40):lA ls=0∧mK ls=aT ls:=by
 have h0:vN ls=true:=by
  rw[vN,List.all_eq_true];intro j hj;exact decide_eq_true (h40 j (by have:=List.mem_range.1 hj;omega))
 have h1:lA ls=0:=by rw[lA,if_pos h,h0];rfl
 exact ⟨h1,by rw[mK,if_pos h1]⟩
theorem zoe {ls:List (List En)} {k:Nat} {L:List En} (he:ls[k]?=some L):aT (ls.take (k+1))=cW (aT (ls.take k)) L:=by
 rw[List.take_add_one,he];exact lT _ _
theorem dE.set {w:World} {b:Nat} {u0 u1 u2:Value} (h:dE w b u0 u1 u2) (v0 v1 v2:Value):dE (((w.setCell ⟨b,0,none⟩ v0).setCell ⟨b,1,none⟩ v1).setCell ⟨b,2,none⟩ v2) b v0 v1 v2:=by
 obtain ⟨⟨c0,c1,c2⟩,f0,f1,f2⟩:=h;refine ⟨⟨?_,?_,?_⟩,?_,?_,?_⟩ <;> simp[go_sem,c0,c1,c2,f0,f1,f2]
theorem xK (a:Option Addr) (c n:Nat) (ls:List (List En)) (w:World) (h:RdL w a ls) (hn:n=ls.length) (hl:ls.length≤1048576) (hs:mE ls) :
  Calls Tryz.prog 16 #[.slice a n c] w (mT (lA ls) 0 (mK ls) w):=by
 subst hn;have X0:=aA (dE.new w (.int .i64 0) (.int .i64 0) (.slice none 0 0) 45);have B0:=aA (aC w (.cells #[.int .i64 0,.int .i64 0,.slice none 0 0] 45));have HR:=aA h;have HSL:=aA hs;have HLF:=aA (tI a c ls.length ls _ (h.below B0.out) rfl hl hs);clear h hs;by_cases hz:cL ls=0
 ·obtain ⟨h4,hRs⟩:=fM.1 hz
  rw[hz]at HLF;have HZ:=aA hz;have HRs:=aA hRs;have HFs:=aA (kW hRs);clear hz hRs;go_enter Tryz.func16,Tryz.ntmps16;go_wp2_with fail
  refine HLF.out.mono ?_;rintro r w1 ⟨rfl,hb1⟩;have B1:=aA (aB B0.out hb1);have X1:=aA (X0.out.below hb1);have hlt1:w.heap.size<w1.heap.size:=X1.out.lt;have BA:=aA (aC w1 (.cells #[.int .i64 0,.int .i64 0,.slice none 0 0] 45));have X2:=aA (X1.out.below BA.out);have Y2:=aA (dE.new w1 (.int .i64 0) (.int .i64 0) (.slice none 0 0) 45);have B2:=aA (aB B1.out BA.out);have hs2:(w1.alloc (.cells #[.int .i64 0,.int .i64 0,.slice none 0 0] 45)).heap.size=w1.heap.size+1:=by simp
  clear hb1 X0 B0 HLF X1 B1 BA;go_wp2_with fail
  go_loopw [15] (fun i wr=>∃ (k:Nat) (va:Option Addr) (vc:Nat),k≤ls.length∧i=.int .i64 k∧Hid (dE wr w1.heap.size (.int .i64 0) (.int .i64 0) (.slice va (aT (ls.take k)).length vc))∧Hid (dE wr w.heap.size (.int .i64 0) (.int .i64 0) (.slice none 0 0))∧Hid (GE (w1.heap.size+1) wr.heap.size wr (.slice va (aT (ls.take k)).length vc) (aT (ls.take k)))∧Hid (Below w.heap.size w wr)∧Hid (∀ j,j≤k→(aT (ls.take j)).length≤40)∧w1.heap.size<wr.heap.size) (fun i _=>ls.length - (intOf i).toNat)
  case atStart=>exact ⟨0,none,0,Nat.zero_le _,rfl,Y2,X2,aA (GE.nil _ _ _),B2,aA (fun j hj=>by rw[Nat.le_zero.1 hj];simp[aT]),by omega⟩
  case round =>
   obtain ⟨k,va,vc,hk,rfl,HY,HX,HG,HW,HJ,hsz⟩:=hrel;have hfk:=(rL HFs.out k hk).1;have h40:=HJ.out k (Nat.le_refl _);by_cases hlt:k<ls.length
   ·obtain ⟨bb,off,L,x,cc,rfl,hbb,he,c0,hr⟩:=(HR.out.below HW.out).at hlt
    obtain ⟨hel,hsm⟩:=HSL.out L (List.mem_of_getElem? he);have hRL:=HRs.out L (List.mem_of_getElem? he);have hL12:=hRL.len;have HN:=aA (zoe he);have hm:=tX va vc _ (aT (ls.take k)) x cc L.length L wr HG.out.rd rfl (by omega) hfk.fit.small hr rfl (by omega) hsm
    have htz:=zh5.2 (mM.2 ⟨hfk,h40⟩);have hlz:=dM.2 hRL;obtain ⟨⟨y0,y1,y2⟩,y3,y4,y5⟩:=HY.out;by_cases hmany:40<(cW (aT (ls.take k)) L).length
    ·have HCC:=aA (zpf HZ.out (k:=k+1) (by omega) (by rw[HN.out];exact hmany))
     rw[(xP htz hlz hmany).1,(xP htz hlz hmany).2]at hm;have HM:=aA hm;clear hm htz hlz hmany hRL hr he hfk h40;go_wp2_with fail
     refine HM.out.mono ?_;rintro r w3 ⟨av3,cv3,rfl,hG3,hb3⟩;have B3:=aA (aB HW.out hb3);have G3:=aA hG3;have hsb:=hb3.size;obtain ⟨⟨x0',x1',x2'⟩,x3',x4',x5'⟩:=HX.out.below hb3;obtain ⟨⟨y0',y1',y2'⟩,y3',y4',y5'⟩:=HY.out.below hb3;have hne:w.heap.size≠w1.heap.size:=by omega
     have hne2:w1.heap.size≠w.heap.size:=by omega
     clear hG3 hb3 y0 y1 y2 y3 y4 y5 c0;go_wp2_with fail
     have hs3:(((w3.setCell ⟨w1.heap.size,0,none⟩ (.int .i64 2)).setCell ⟨w1.heap.size,1,none⟩ (.int .i64 0)).setCell ⟨w1.heap.size,2,none⟩ (.slice av3 0 cv3)).heap.size=w3.heap.size:=by simp[World.setCell]
     have G4:=aA (G3.out.kept (aE.three w3 w1.heap.size (.int .i64 2) (.int .i64 0) (.slice av3 0 cv3)) (fun y h1 _ h2=>by omega))
     have B4:=aA (show Below w.heap.size w (((w3.setCell ⟨w1.heap.size,0,none⟩ (.int .i64 2)).setCell ⟨w1.heap.size,1,none⟩ (.int .i64 0)).setCell ⟨w1.heap.size,2,none⟩ (.slice av3 0 cv3)) from ((B3.out.setCell (p:=⟨w1.heap.size,0,none⟩) (Nat.le_of_lt hlt1) _).setCell (p:=⟨w1.heap.size,1,none⟩) (Nat.le_of_lt hlt1) _).setCell (p:=⟨w1.heap.size,2,none⟩) (Nat.le_of_lt hlt1) _)
     rw[←hs3]at G4;have Z4:=aA ((dE.kept ⟨⟨x0',x1',x2'⟩,x3',x4',x5'⟩ (aE.three w3 w1.heap.size (.int .i64 2) (.int .i64 0) (.slice av3 0 cv3)) hne));generalize ((w3.setCell ⟨w1.heap.size,0,none⟩ (.int .i64 2)).setCell ⟨w1.heap.size,1,none⟩ (.int .i64 0)).setCell ⟨w1.heap.size,2,none⟩ (.slice av3 0 cv3)=W4 at *;obtain ⟨⟨t0,t1,t2⟩,t3,t4,t5⟩:=Z4.out;exact bodyPost_ret (v:=.agg #[.int .i64 2,.int .i64 0,.slice av3 0 cv3]) (by simp[results,Tryz.results16,go_sem,t0,t1,t2]) rfl (by rw[HCC.out.1,HCC.out.2];exact mT.of (es:=[]) (by omega) (Nat.le_refl _) rfl G4.out B4.out)
    ·rw[(zq4 htz hlz hmany).1,(zq4 htz hlz hmany).2]at hm
     have HM:=aA hm;have HJ2:=aA (show ∀ j,j≤k+1→(aT (ls.take j)).length≤40 from fun j hj=>by
      by_cases e:j=k+1
      ·rw[e,HN.out];omega
      ·exact HJ.out j (by omega))
     clear hm htz hlz hmany hRL hr he hfk h40 HJ;go_wp2_with fail
     refine HM.out.mono ?_;rintro r w3 ⟨av3,cv3,rfl,hG3,hb3⟩;rw[←HN.out]at hG3 ⊢;have B3:=aA (aB HW.out hb3);have G3:=aA hG3;have hsb:=hb3.size;obtain ⟨⟨x0',x1',x2'⟩,x3',x4',x5'⟩:=HX.out.below hb3;obtain ⟨⟨y0',y1',y2'⟩,y3',y4',y5'⟩:=HY.out.below hb3;have hne:w.heap.size≠w1.heap.size:=by omega
     have hne2:w1.heap.size≠w.heap.size:=by omega
     clear hG3 hb3 y0 y1 y2 y3 y4 y5 c0 HM HN;go_wp2_with fail
     have hs3:(((w3.setCell ⟨w1.heap.size,0,none⟩ (.int .i64 0)).setCell ⟨w1.heap.size,1,none⟩ (.int .i64 0)).setCell ⟨w1.heap.size,2,none⟩ (.slice av3 (aT (ls.take (k+1))).length cv3)).heap.size=w3.heap.size:=by simp[World.setCell]
     have G4:=aA ((G3.out.kept (aE.three w3 w1.heap.size (.int .i64 0) (.int .i64 0) (.slice av3 (aT (ls.take (k+1))).length cv3)) (fun y h1 _ h2=>by omega)).mono (B':=w1.heap.size+1) (by omega))
     have B4:=aA (show Below w.heap.size w (((w3.setCell ⟨w1.heap.size,0,none⟩ (.int .i64 0)).setCell ⟨w1.heap.size,1,none⟩ (.int .i64 0)).setCell ⟨w1.heap.size,2,none⟩ (.slice av3 (aT (ls.take (k+1))).length cv3)) from ((B3.out.setCell (p:=⟨w1.heap.size,0,none⟩) (Nat.le_of_lt hlt1) _).setCell (p:=⟨w1.heap.size,1,none⟩) (Nat.le_of_lt hlt1) _).setCell (p:=⟨w1.heap.size,2,none⟩) (Nat.le_of_lt hlt1) _)
     rw[←hs3]at G4;have Z4:=aA ((dE.kept ⟨⟨x0',x1',x2'⟩,x3',x4',x5'⟩ (aE.three w3 w1.heap.size (.int .i64 0) (.int .i64 0) (.slice av3 (aT (ls.take (k+1))).length cv3)) hne));have Y4:=aA (dE.set ⟨⟨y0',y1',y2'⟩,y3',y4',y5'⟩ (.int .i64 0) (.int .i64 0) (.slice av3 (aT (ls.take (k+1))).length cv3));clear x0' x1' x2' x3' x4' x5' y0' y1' y2' y3' y4' y5' G3 B3;have hsz4:w1.heap.size<(((w3.setCell ⟨w1.heap.size,0,none⟩ (.int .i64 0)).setCell ⟨w1.heap.size,1,none⟩ (.int .i64 0)).setCell ⟨w1.heap.size,2,none⟩ (.slice av3 (aT (ls.take (k+1))).length cv3)).heap.size:=by omega
     clear hs3;generalize ((w3.setCell ⟨w1.heap.size,0,none⟩ (.int .i64 0)).setCell ⟨w1.heap.size,1,none⟩ (.int .i64 0)).setCell ⟨w1.heap.size,2,none⟩ (.slice av3 (aT (ls.take (k+1))).length cv3)=W4 at *;go_roundw
     case rel=>exact ⟨k+1,av3,cv3,by omega,by go_num,Y4,Z4,G4,B4,HJ2,hsz4⟩
     case measure=>simp[intOf];omega
   ·obtain ⟨⟨x0',x1',x2'⟩,x3',x4',x5'⟩:=HX.out
    obtain ⟨⟨y0',y1',y2'⟩,y3',y4',y5'⟩:=HY.out;have HE:=aA (show ls.take k=ls from List.take_of_length_le (by omega))
    have HCC:=aA (zli HZ.out (fun j hj=>HJ.out j (by omega)))
    rw[HE.out]at HG y2';clear HY HJ;generalize aT ls=M at *;go_wp2_with fail
    exact bodyPost_ret (v:=.agg #[.int .i64 0,.int .i64 0,.slice va M.length vc]) (by simp[results,Tryz.results16,go_sem,x0',x1',x2']) rfl (by rw[HCC.out.1,HCC.out.2];exact mT.of (by omega) (Nat.le_refl _) rfl HG.out HW.out)
 ·have HC:=aA (zh8 hz)
  generalize cL ls=F at *;have hz2:(F != 0)=true:=by simp;exact hz
  clear hz;obtain ⟨⟨t0,t1,t2⟩,t3,t4,t5⟩:=X0.out;go_enter Tryz.func16,Tryz.ntmps16;go_wp2_with fail
  refine HLF.out.mono ?_;rintro r w1 ⟨rfl,hb1⟩;have B1:=aA (aB B0.out hb1);clear t0 t1 t2 t3 t4 t5;obtain ⟨⟨t0,t1,t2⟩,t3,t4,t5⟩:=X0.out.below hb1;clear hb1;go_wp2_with fail
  exact bodyPost_ret (v:=.agg #[.int .i64 F,.int .i64 0,.slice none 0 0]) (by simp[results,Tryz.results16,go_sem,t0,t1,t2]) rfl (by rw[HC.out.1,HC.out.2];exact mT.bad (Nat.le_refl _) B1.out)
theorem mQ (a:Option Addr) (c n:Nat) (ls:List (List En)) (w:World) (h:RdL w a ls) (hn:n=ls.length) (hl:ls.length≤1048576) (hs:mE ls) (hg:∀ es∈ls,bY es=aQ es) :
  Calls Tryz.prog 264 #[.slice a n c] w fun r w'=>r=.returned (.int .i64 (cL ls))∧Below w.heap.size w w':=by
 subst hn;have HR:=aA h;have HS:=aA hs;have HG:=aA hg;clear h hs hg;by_cases h4:4<ls.length
 ·have HZ:=aA (show cL ls=2 by simp[cL,h4])
  have h4':(4:Int)<(ls.length:Int):=by omega
  go_enter Tryz.func264,Tryz.ntmps264;go_wp2_with fail
  go_wp2_with fail
  go_ret
  exact ⟨by rw[HZ.out];rfl,Below.refl _ _⟩
 ·have HZ:=aA (show cL ls=iT (ls.drop 0) by simp[cL,h4])
  have h4':¬ (4:Int)<(ls.length:Int):=by omega
  clear h4;generalize cL ls=V at *;go_enter Tryz.func264,Tryz.ntmps264;go_wp2_with fail
  go_loopw [3] (fun i wr=>∃ k:Nat,k≤ls.length∧i=.int .i64 k∧Hid (V=iT (ls.drop k))∧Hid (Below w.heap.size w wr)) (fun i _=>ls.length - (intOf i).toNat)
  case atStart=>exact ⟨0,Nat.zero_le _,rfl,HZ,aA (Below.refl _ _)⟩
  case round =>
   obtain ⟨k,hk,rfl,HV,HW⟩:=hrel;by_cases hlt:k<ls.length
   ·obtain ⟨b,off,es,x,cc,rfl,hb,he,c0,hr⟩:=(HR.out.below HW.out).at hlt
    obtain ⟨hel,hsm⟩:=HS.out es (List.mem_of_getElem? he);have HLF:=aA (lE x cc es.length es wr hr rfl (by omega) hsm)
    rw[HG.out es (List.mem_of_getElem? he)]at HLF;have HX:=aA he;clear he hr hsm;by_cases hf:aQ es=0
    ·have HN:=aA (HV.out.trans (wQ HX.out hf))
     rw[hf]at HLF;clear hf;go_wp2_with fail
     refine HLF.out.mono ?_;rintro r w1 ⟨rfl,hb1⟩;have B1:=aA (aB HW.out hb1);clear hb1 c0;go_wp2_with fail
     go_roundw
     case rel=>exact ⟨k+1,by omega,by go_num,HN,B1⟩
     case measure=>simp[intOf];omega
    ·have HN:=aA (HV.out.trans (zE HX.out hf))
     generalize aQ es=F at *;have hf2:(F != 0)=true:=by simp;exact hf
     clear hf;go_wp2_with fail
     refine HLF.out.mono ?_;rintro r w1 ⟨rfl,hb1⟩;have B1:=aA (aB HW.out hb1);clear hb1 c0;go_wp2_with fail
     go_ret
     exact ⟨by rw[HN.out];rfl,B1.out⟩
   ·have HN:=aA (show V=0 by rw[HV.out,List.drop_eq_nil_of_le (by omega)];rfl)
    go_wp2_with fail
    go_ret
    exact ⟨by rw[HN.out];rfl,HW.out⟩
theorem wF {P:Program} {w:World} {ops:Array Oper} {rest:List Oper} {o:Oper} {a:Act} {Q:Exit→Act→World→Prop} (hgd:o.guard=none) (s x:Operand) (t:TypeId)
  (ho:o.op=.call { callee:=.builtin .append,args:=#[s,x],argTypes:=#[t,t] })
  (base:Nat) (e:TypeId) (i:TypeInfo) (z:Value) (size bytes:Nat) (ht:P.underlying t=some (.slice e)) (hi:P.info? e=some i) (hz:i.zero=some z)
  (hsize:i.size=size) (hby:i.bytes=bytes) (hzs:z.cells.size=size) (hsz:0<size)
  (av0:Option Addr) (n c0:Nat) (xs:List Value) (hs:a.eval s=.slice av0 n c0) (hown:w.ownsRow base e size (.slice av0 n c0) n xs)
  (sp:Option Addr) (m sc:Nat) (cs:List Value) (hx:a.eval x=.slice sp m sc) (hcl:cs.length=m * size) (hsrc:cs≠[]→∃ ad,sp=some ad∧∀ (j:Nat) u,cs[j]?=some u→w.cell? (ad.add j)=some u) (h1:∀ u∈cs,u.oneCell'=true)
  (N:Nat) (hN:n+m=N) (h63:n+m≤maxLen) (hbytes:(n+m) * bytes≤140737488355328) (hbase:base≤w.heap.size)
  (h:∀ av cv w',w'.ownsRow base e size (.slice av N cv) N (xs++cs)→aE (fun b=>(Value.slice av0 n c0).ownBlock=some b) w w'→wpList P ops Q rest (a.put o.dst (.slice av N cv)) w') :
  wpList P ops Q (o :: rest) a w:=by
 cases sp with
 | some ad =>
  refine eC hgd s x t ho base e i z size bytes ht hi hz hsize hby hzs hsz _ n xs hs hown ad m sc cs hx hcl (fun j u hj=>?_) h1 N hN h63 hbytes hbase h
  obtain ⟨ad',e1,h2⟩:=hsrc (by intro e;subst e;simp at hj)
  cases e1
  exact h2 j u hj
 | none =>
  have hc:cs=[]:=by
   by_cases hc:cs=[]
   ·exact hc
   ·obtain ⟨_,e1,_⟩:=hsrc hc;cases e1
  subst hc;have hm:m=0:=by
   simp only[List.length_nil]at hcl;rcases Nat.mul_eq_zero.1 hcl.symm with h0 | h0
   ·exact h0
   ·omega
  subst hm;have hN':N=n:=by omega
  subst hN';have hrun:(Builtin.append_ #[t,t] o.type #[.slice av0 N c0,.slice none 0 sc]).run P w=.ok (.slice av0 N c0) w:=by
   rcases hown.2 with ⟨hv,h0⟩ | ⟨g,cap,cur,hv,-,-,hnc,-⟩
   ·simp only[Value.slice.injEq]at hv
    obtain ⟨rfl,rfl,rfl⟩:=hv;simp[Builtin.append_,run_underlying ht,sizeOf,typeInfo,hi,Builtin.lenOf,Builtin.firstCells]
   ·simp only[Value.slice.injEq,true_and]at hv
    obtain ⟨rfl,rfl⟩:=hv;simp[Builtin.append_,run_underlying ht,sizeOf,typeInfo,hi,Builtin.lenOf,Builtin.firstCells,hnc,storeCells]
  refine wpList_plain hgd fun K hK=>?_
  unfold Oper.wp execOp;simp only[ho,resolve,invoke,builtin,Sem.run_bind,Sem.run_pure,Result.andThen_ok,List.map_toArray,List.map_cons,List.map_nil,hs,hx,hrun];exact hK _ _ (h av0 c0 w (by rw[List.append_nil];exact hown) (aE.refl _ _))
theorem zwh {w W:World} {B n c:Nat} {av:Option Addr} {ls:List (List En)} {U:List En} {u:Option Addr} {uc:Nat} {vs:List Value} (hO:W.ownsRow B 40 1 (.slice av n c) n (vs ++ [.slice u U.length uc])) (hB:Below w.heap.size w W) (hn:n=ls.length+1) (hv:vs.length=ls.length)
  (hr:∀ (i:Nat) (es:List En),ls[i]?=some es→∃ x c,vs[i]?=some (Value.slice x es.length c)∧RdE w x es) (hU:RdE w u U):RdL W av (ls ++ [U]):=by
 subst hn;rcases hO.2 with ⟨hv0,h0⟩ | ⟨g,cap,cur,hv0,hb,hh,hnc,hcm,hcs,htake⟩
 ·omega
 ·simp only[Value.slice.injEq,true_and]at hv0
  obtain ⟨rfl,rfl⟩:=hv0;have hlt:=(hO.lt g rfl).2;have hc:∀ j,j<ls.length+1→W.cell? ⟨g,j,none⟩=(vs ++ [.slice u U.length uc])[j]?:=fun j hj=>hO.cellAt j (by omega)
  have hat:∀ i es,(ls ++ [U])[i]?=some es→∃ x c,W.cell? ⟨g,0+i,none⟩=some (.slice x es.length c)∧RdE W x es:=fun i es he=>by
   rw[Nat.zero_add];by_cases hi:i<ls.length
   ·rw[List.getElem?_append_left hi]at he
    obtain ⟨y,c,hy,hre⟩:=hr i es he;refine ⟨y,c,?_,hre.below hB⟩;rw[hc i (by omega),List.getElem?_append_left (by omega)]
    exact hy
   ·have hi2:i=ls.length:=by
     have:=(List.getElem?_eq_some_iff.1 he).1;simp at this;omega
    subst hi2;simp at he
    subst he;exact ⟨u,uc,by rw[hc _ (by omega),List.getElem?_append_right (by omega)];simp[hv],hU.below hB⟩
  intro _;refine ⟨g,0,fun i=>((ls ++ [U])[i]?.bind fun es=>if h:(ls ++ [U])[i]?=some es then some (Classical.choose (hat i es h)) else none).getD none,fun i=>((ls ++ [U])[i]?.bind fun es=>if h:(ls ++ [U])[i]?=some es then some (Classical.choose (Classical.choose_spec (hat i es h))) else none).getD 0,rfl,hlt,fun i es he=>?_⟩
  have h1:=Classical.choose_spec (Classical.choose_spec (hat i es he));simp only[he,Option.bind_some,dif_pos];exact h1
theorem jO (a:Option Addr) (c n:Nat) (ls:List (List En)) (u:Option Addr) (uc m:Nat) (U:List En) (w:World) (h:RdL w a ls) (hn:n=ls.length) (hl:ls.length≤1000000) (hU:RdE w u U) (hm:m=U.length) :
  Calls Tryz.prog 265 #[.slice a n c,.slice u m uc] w fun r w'=>∃ av cv,r=.returned (.slice av (ls ++ [U]).length cv)∧RdL w' av (ls ++ [U])∧Below w.heap.size w w':=by
 subst hn;subst hm;obtain ⟨i1,ki,kz0,kz1,kz2⟩:=info_parts zr3;obtain ⟨vs,hvl,hvc,hv1,hvr⟩:=RdL.cells h;have HVC:=aA hvc;have HV1:=aA hv1;have HU:=aA hU;have HVN:=aA (show vs.length=ls.length * 1 by omega)
 have HLen:=aA (show (ls ++ [U]).length=ls.length+1 by simp)
 have hml0:0+ls.length≤maxLen:=by unfold maxLen;omega
 have hmb0:(0+ls.length) * 24≤140737488355328:=by omega
 have hml1:ls.length+1≤maxLen:=by unfold maxLen;omega
 have hmb1:(ls.length+1) * 24≤140737488355328:=by omega
 have B0:=aA (aC w (.cells #[] 40));have OWN0:Hid ((w.alloc (.cells #[] 40)).ownsRow w.heap.size 40 1 (.slice (some ⟨w.heap.size,0,none⟩) 0 0) 0 []):=aA (World.ownsRow_made w #[] 0 (Nat.le_refl _) (Nat.zero_le _) rfl);have HRd:Hid (∀ (W:World) (av:Option Addr) (cv:Nat),W.ownsRow w.heap.size 40 1 (.slice av (ls.length+1) cv) (ls.length+1) (vs ++ [.slice u U.length uc])→Below w.heap.size w W→RdL W av (ls ++ [U])):=aA (fun W av cv hO hB=>zwh hO hB rfl hvl hvr hU)
 clear h hvc hv1 hvr hvl hU;generalize hNN:ls.length=N at *;have HNN:=aA hNN;clear hNN;go_enter Tryz.func265,Tryz.ntmps265;go_wp2_with (first
  | (at_builtin;refine wF rfl (.tmp 5) (.tmp 6) 36 rfl w.heap.size 40 i1 (.slice none 0 0) 1 24 Tryz.underlying36 ki kz0 kz1 kz2 rfl (by decide) (some ⟨w.heap.size,0,none⟩) 0 0 [] rfl OWN0.out a N c vs rfl HVN.out (HVC.out _ B0.out) HV1.out N (by simp) hml0 hmb0 (by simp) ?_;intro av1 cv1 w1 ho1 hk1;have O1:=aA ho1;have B1:=aA (B0.out.trans (hk1.below (B:=w.heap.size) B0.out.size (fun b hb e=>by simp[Value.ownBlock]at e;omega)));have hs1:=B1.out.size;clear ho1 hk1)
  | (at_builtin;refine cH rfl (.tmp 7) (.tmp 9) 36 rfl w.heap.size 40 i1 (.slice none 0 0) 1 24 Tryz.underlying36 ki kz0 kz1 kz2 rfl (by decide) _ _ _ rfl O1.out rfl rfl (by intro u hu;simp at hu;subst hu;rfl) hml1 hmb1 hs1 ?_;intro v' w2 ho2 hk2;have O2:=aA ho2;have B2:=aA (aE.below_own B1.out hs1 O1.out hk2);clear ho2 hk2))
 obtain ⟨av2,cv2,hv2⟩:=aR O2.out;subst hv2;go_ret
 exact ⟨av2,⟨cv2,by rw[HNN.out];rfl⟩,HRd.out _ _ _ (by simpa using O2.out) B2.out,B2.out⟩
theorem qX (a:Option Addr) (c n:Nat) (ls:List (List En)) (u:Option Addr) (uc m:Nat) (U:List En) (p:Bs) (w:World) (h:RdL w a ls) (hn:n=ls.length) (hl:ls.length≤1000000) (hU:RdE w u U) (hm:m=U.length) (hs:mE (ls ++ [U])) (hg:∀ es∈ls ++ [U],bY es=aQ es) (hpl:p.length≤1048576) :
  Calls Tryz.prog 249 #[.slice a n c,.slice u m uc,.string (str p)] w fun r w'=>r=.returned (.int .i64 (gH (ls ++ [U]) p))∧Below w.heap.size w w':=by
 subst hn;subst hm;have hsz:=aN p;have HA:=aA (jO a c ls.length ls u uc U.length U w h rfl hl hU rfl);have HSL:=aA hs;have HG:=aA hg;have HLn:=aA (show (ls ++ [U]).length≤1048576 by rw[List.length_append];simp;omega)
 have HPF:Hid (∀ w',Calls Tryz.prog 202 #[.string (str p)] w' fun e w2=>e=.returned (.int .i64 (aG p))∧Below w'.heap.size w' w2):=aA (fun w'=>by have h1:=qU (str p) w' (by omega);rw[aV]at h1;exact h1)
 clear h hU hs hg;generalize ls ++ [U]=al at *;by_cases hz:cL al=0
 ·have HZ:=aA (show gH al p=aG p by rw[gH,if_pos hz])
  go_enter Tryz.func249,Tryz.ntmps249;go_wp2_with fail
  refine HA.out.mono ?_;rintro r w1 ⟨av,cv,rfl,hr1,hb1⟩;have B1:=aA hb1;have HLF:=aA (mQ av cv al.length al w1 hr1 rfl HLn.out HSL.out HG.out);rw[hz]at HLF;clear hr1 hb1;go_wp2_with fail
  refine HLF.out.mono ?_;rintro r w2 ⟨rfl,hb2⟩;have B2:=aA (aB B1.out hb2);clear hb2;go_wp2_with fail
  refine (HPF.out w2).mono ?_;rintro r w3 ⟨rfl,hb3⟩;have B3:=aA (aB B2.out hb3);clear hb3;go_wp2_with fail
  go_ret
  exact ⟨by rw[HZ.out];rfl,B3.out⟩
 ·have HZ:=aA (show gH al p=cL al by rw[gH,if_neg hz])
  go_enter Tryz.func249,Tryz.ntmps249;go_wp2_with fail
  refine HA.out.mono ?_;rintro r w1 ⟨av,cv,rfl,hr1,hb1⟩;have B1:=aA hb1;have HLF:=aA (mQ av cv al.length al w1 hr1 rfl HLn.out HSL.out HG.out);generalize cL al=F at *;have hz2:(F != 0)=true:=by simp;exact hz
  clear hr1 hb1 hz;go_wp2_with fail
  refine HLF.out.mono ?_;rintro r w2 ⟨rfl,hb2⟩;have B2:=aA (aB B1.out hb2);clear hb2;go_wp2_with fail
  go_ret
  exact ⟨by rw[HZ.out];rfl,B2.out⟩
theorem nI (a:Option Addr) (c n:Nat) (U:List En) (q:Int) (w:World) (h:RdE w a U) (hn:n=U.length) (hl:U.length≤1048576) (hs:bJ U) :
  Calls Tryz.prog 267 #[.slice a n c,.int .i64 q] w (eP 0 q U w):=by
 subst hn;have X0:=aA (dE.new w (.int .i64 0) (.int .i64 0) (.slice none 0 0) 267);have B0:=aA (aC w (.cells #[.int .i64 0,.int .i64 0,.slice none 0 0] 267));have HC:=aA (iA a c U.length U _ (h.below B0.out) rfl hl hs);clear h hs;go_enter Tryz.func267,Tryz.ntmps267;go_wp2_with fail
 refine HC.out.mono ?_;rintro r w1 ⟨g,cv,rfl,-,hG,hb1⟩;have G1:=aA (GW.of hG);have B1:=aA (aB B0.out hb1);have hlt:w.heap.size<(w.alloc (.cells #[.int .i64 0,.int .i64 0,.slice none 0 0] 267)).heap.size:=X0.out.lt;obtain ⟨⟨t0,t1,t2⟩,t3,t4,t5⟩:=X0.out.below hb1;clear hG hb1;go_wp2_with fail
 exact bodyPost_ret (v:=.agg #[.int .i64 0,.int .i64 q,.slice (some ⟨g,0,none⟩) U.length cv]) (by simp[results,Tryz.results267,go_sem,t0,t1,t2]) rfl (eP.of hlt (Nat.le_refl _) rfl G1.out B1.out)
theorem zb5 {es:List En} {e:En}:(cZ es e).length=(gZ es e).length+1:=by
 unfold cZ dK;rw[List.length_append,List.length_cons,List.length_take,List.length_drop];omega
end Go.Proofs.YtgaeikgoknoamaaGreat
