/-
  Texts put together: SeeJ OvrA MntF LayS IteS IteP.
-/
import Derived.Test.YtolnlfnndnpiiaaGreatKSnaps10
import Derived.Test.YtolnlfnndnpiiaaGreatKSnaps22
import Derived.Test.YtolnlfnndnpiiaaGreatKSnaps12
import Derived.Test.YtolnlfnndnpiiaaGreatKSnaps15
import Derived.Test.YtolnlfnndnpiiaaGreatKSnaps5
import Derived.Shelf.SlSortCmp.WholeK
import Derived.Ground.SlsfProg
import Derived.Test.YtolnlfnndnpiiaaGreatProg
import Derived.Test.YtolnlfnndnpiiaaGreatKSnaps11
set_option linter.unusedVariables false
set_option maxHeartbeats 6400000
set_option maxRecDepth 100000
namespace Go.Proofs.YtolnlfnndnpiiaaGreat
open Go.RowKit Go.Maps
attribute [local go_sem ↓] Go.wp_at_zero Go.wp_at_succ
def yL (ls:List (List En)):Bool:=(List.range (ls.length+1)).all fun j=>decide ((aJ (ls.take j)).length≤40)
def mL (ls:List (List En)):Int:=if bV ls=0 then (if yL ls then 0 else 2) else bV ls
def oG (ls:List (List En)):List En:=if mL ls=0 then aJ ls else []
theorem zhc {ls:List (List En)} (h:bV ls≠0):mL ls=bV ls∧oG ls=[]:=by
 have h1:mL ls=bV ls:=by rw[mL,if_neg h]
 exact ⟨h1,by rw[oG,if_neg (by rw[h1];exact h)]⟩
theorem zgk {ls:List (List En)} {k:Nat} (h:bV ls=0) (hk:k≤ls.length) (h40:40<(aJ (ls.take k)).length):mL ls=2∧oG ls=[]:=by
 have h0:yL ls=false:=by
  rw[yL,List.all_eq_false];exact ⟨k,List.mem_range.2 (by omega),by simp;omega⟩
 have h1:mL ls=2:=by rw[mL,if_pos h,h0];rfl
 exact ⟨h1,by rw[oG,if_neg (by rw[h1];decide)]⟩
theorem ztn {ls:List (List En)} (h:bV ls=0) (h40:∀ j,j≤ls.length→(aJ (ls.take j)).length≤40):mL ls=0∧oG ls=aJ ls:=by
 have h0:yL ls=true:=by
  rw[yL,List.all_eq_true];intro j hj;exact decide_eq_true (h40 j (by have:=List.mem_range.1 hj;omega))
 have h1:mL ls=0:=by rw[mL,if_pos h,h0];rfl
 exact ⟨h1,by rw[oG,if_pos h1]⟩
theorem zaj {ls:List (List En)} {k:Nat} {L:List En} (he:ls[k]?=some L):aJ (ls.take (k+1))=dA (aJ (ls.take k)) L:=by
 rw[List.take_add_one,he];exact kP _ _
theorem cC.set {w:World} {b:Nat} {u0 u1 u2:Value} (h:cC w b u0 u1 u2) (v0 v1 v2:Value):cC (((w.setCell ⟨b,0,none⟩ v0).setCell ⟨b,1,none⟩ v1).setCell ⟨b,2,none⟩ v2) b v0 v1 v2:=by
 obtain ⟨⟨c0,c1,c2⟩,f0,f1,f2⟩:=h;refine ⟨⟨?_,?_,?_⟩,?_,?_,?_⟩ <;> simp[go_sem,c0,c1,c2,f0,f1,f2]
theorem zp0 (a:Option Addr) (c n:Nat) (ls:List (List En)) (w:World) (h:RdL w a ls) (hn:n=ls.length) (hl:ls.length≤1048576) (hs:eJ ls) :
  Calls Tryz.prog 12 #[.slice a n c] w (oS (mL ls) 0 (oG ls) w):=by
 subst hn;have X0:=aA (cC.new w (.int .i64 0) (.int .i64 0) (.slice none 0 0) 40);have B0:=aA (aC w (.cells #[.int .i64 0,.int .i64 0,.slice none 0 0] 40));have HR:=aA h;have HSL:=aA hs;have HLF:=aA (lH a c ls.length ls _ (h.below B0.out) rfl hl hs);clear h hs;by_cases hz:bV ls=0
 ·obtain ⟨h4,hRs⟩:=dR.1 hz
  rw[hz]at HLF;have HZ:=aA hz;have HRs:=aA hRs;have HFs:=aA (gA hRs);clear hz hRs;go_enter Tryz.func12,Tryz.ntmps12;go_wp2_with fail
  refine HLF.out.mono ?_;rintro r w1 ⟨rfl,hb1⟩;have B1:=aA (aB B0.out hb1);have X1:=aA (X0.out.below hb1);have hlt1:w.heap.size<w1.heap.size:=X1.out.lt;have BA:=aA (aC w1 (.cells #[.int .i64 0,.int .i64 0,.slice none 0 0] 40));have X2:=aA (X1.out.below BA.out);have Y2:=aA (cC.new w1 (.int .i64 0) (.int .i64 0) (.slice none 0 0) 40);have B2:=aA (aB B1.out BA.out);have hs2:(w1.alloc (.cells #[.int .i64 0,.int .i64 0,.slice none 0 0] 40)).heap.size=w1.heap.size+1:=by simp
  clear hb1 X0 B0 HLF X1 B1 BA;go_wp2_with fail
  go_loopw [15] (fun i wr=>∃ (k:Nat) (va:Option Addr) (vc:Nat),k≤ls.length∧i=.int .i64 k∧Hid (cC wr w1.heap.size (.int .i64 0) (.int .i64 0) (.slice va (aJ (ls.take k)).length vc))∧Hid (cC wr w.heap.size (.int .i64 0) (.int .i64 0) (.slice none 0 0))∧Hid (GE (w1.heap.size+1) wr.heap.size wr (.slice va (aJ (ls.take k)).length vc) (aJ (ls.take k)))∧Hid (Below w.heap.size w wr)∧Hid (∀ j,j≤k→(aJ (ls.take j)).length≤40)∧w1.heap.size<wr.heap.size) (fun i _=>ls.length - (intOf i).toNat)
  case atStart=>exact ⟨0,none,0,Nat.zero_le _,rfl,Y2,X2,aA (GE.nil _ _ _),B2,aA (fun j hj=>by rw[Nat.le_zero.1 hj];simp[aJ]),by omega⟩
  case round =>
   obtain ⟨k,va,vc,hk,rfl,HY,HX,HG,HW,HJ,hsz⟩:=hrel;have hfk:=(uC HFs.out k hk).1;have h40:=HJ.out k (Nat.le_refl _);by_cases hlt:k<ls.length
   ·obtain ⟨bb,off,L,x,cc,rfl,hbb,he,c0,hr⟩:=(HR.out.below HW.out).at hlt
    obtain ⟨hel,hsm⟩:=HSL.out L (List.mem_of_getElem? he);have hRL:=HRs.out L (List.mem_of_getElem? he);have hL12:=hRL.len;have HN:=aA (zaj he);have hm:=wQ va vc _ (aJ (ls.take k)) x cc L.length L wr HG.out.rd rfl (by omega) hfk.fit.small hr rfl (by omega) hsm
    have htz:=zz8.2 (oL.2 ⟨hfk,h40⟩);have hlz:=eX.2 hRL;obtain ⟨⟨y0,y1,y2⟩,y3,y4,y5⟩:=HY.out;by_cases hmany:40<(dA (aJ (ls.take k)) L).length
    ·have HCC:=aA (zgk HZ.out (k:=k+1) (by omega) (by rw[HN.out];exact hmany))
     rw[(zw0 htz hlz hmany).1,(zw0 htz hlz hmany).2]at hm;have HM:=aA hm;clear hm htz hlz hmany hRL hr he hfk h40;go_wp2_with fail
     refine HM.out.mono ?_;rintro r w3 ⟨av3,cv3,rfl,hG3,hb3⟩;have B3:=aA (aB HW.out hb3);have G3:=aA hG3;have hsb:=hb3.size;obtain ⟨⟨x0',x1',x2'⟩,x3',x4',x5'⟩:=HX.out.below hb3;obtain ⟨⟨y0',y1',y2'⟩,y3',y4',y5'⟩:=HY.out.below hb3;have hne:w.heap.size≠w1.heap.size:=by omega
     have hne2:w1.heap.size≠w.heap.size:=by omega
     clear hG3 hb3 y0 y1 y2 y3 y4 y5 c0;go_wp2_with fail
     have hs3:(((w3.setCell ⟨w1.heap.size,0,none⟩ (.int .i64 2)).setCell ⟨w1.heap.size,1,none⟩ (.int .i64 0)).setCell ⟨w1.heap.size,2,none⟩ (.slice av3 0 cv3)).heap.size=w3.heap.size:=by simp[World.setCell]
     have G4:=aA (G3.out.kept (aD.three w3 w1.heap.size (.int .i64 2) (.int .i64 0) (.slice av3 0 cv3)) (fun y h1 _ h2=>by omega))
     have B4:=aA (show Below w.heap.size w (((w3.setCell ⟨w1.heap.size,0,none⟩ (.int .i64 2)).setCell ⟨w1.heap.size,1,none⟩ (.int .i64 0)).setCell ⟨w1.heap.size,2,none⟩ (.slice av3 0 cv3)) from ((B3.out.setCell (p:=⟨w1.heap.size,0,none⟩) (Nat.le_of_lt hlt1) _).setCell (p:=⟨w1.heap.size,1,none⟩) (Nat.le_of_lt hlt1) _).setCell (p:=⟨w1.heap.size,2,none⟩) (Nat.le_of_lt hlt1) _)
     rw[←hs3]at G4;have Z4:=aA ((cC.kept ⟨⟨x0',x1',x2'⟩,x3',x4',x5'⟩ (aD.three w3 w1.heap.size (.int .i64 2) (.int .i64 0) (.slice av3 0 cv3)) hne));generalize ((w3.setCell ⟨w1.heap.size,0,none⟩ (.int .i64 2)).setCell ⟨w1.heap.size,1,none⟩ (.int .i64 0)).setCell ⟨w1.heap.size,2,none⟩ (.slice av3 0 cv3)=W4 at *;obtain ⟨⟨t0,t1,t2⟩,t3,t4,t5⟩:=Z4.out;exact bodyPost_ret (v:=.agg #[.int .i64 2,.int .i64 0,.slice av3 0 cv3]) (by simp[results,Tryz.results12,go_sem,t0,t1,t2]) rfl (by rw[HCC.out.1,HCC.out.2];exact oS.of (es:=[]) (by omega) (Nat.le_refl _) rfl G4.out B4.out)
    ·rw[(zi8 htz hlz hmany).1,(zi8 htz hlz hmany).2]at hm
     have HM:=aA hm;have HJ2:=aA (show ∀ j,j≤k+1→(aJ (ls.take j)).length≤40 from fun j hj=>by
      by_cases e:j=k+1
      ·rw[e,HN.out];omega
      ·exact HJ.out j (by omega))
     clear hm htz hlz hmany hRL hr he hfk h40 HJ;go_wp2_with fail
     refine HM.out.mono ?_;rintro r w3 ⟨av3,cv3,rfl,hG3,hb3⟩;rw[←HN.out]at hG3 ⊢;have B3:=aA (aB HW.out hb3);have G3:=aA hG3;have hsb:=hb3.size;obtain ⟨⟨x0',x1',x2'⟩,x3',x4',x5'⟩:=HX.out.below hb3;obtain ⟨⟨y0',y1',y2'⟩,y3',y4',y5'⟩:=HY.out.below hb3;have hne:w.heap.size≠w1.heap.size:=by omega
     have hne2:w1.heap.size≠w.heap.size:=by omega
     clear hG3 hb3 y0 y1 y2 y3 y4 y5 c0 HM HN;go_wp2_with fail
     have hs3:(((w3.setCell ⟨w1.heap.size,0,none⟩ (.int .i64 0)).setCell ⟨w1.heap.size,1,none⟩ (.int .i64 0)).setCell ⟨w1.heap.size,2,none⟩ (.slice av3 (aJ (ls.take (k+1))).length cv3)).heap.size=w3.heap.size:=by simp[World.setCell]
     have G4:=aA ((G3.out.kept (aD.three w3 w1.heap.size (.int .i64 0) (.int .i64 0) (.slice av3 (aJ (ls.take (k+1))).length cv3)) (fun y h1 _ h2=>by omega)).mono (B':=w1.heap.size+1) (by omega))
     have B4:=aA (show Below w.heap.size w (((w3.setCell ⟨w1.heap.size,0,none⟩ (.int .i64 0)).setCell ⟨w1.heap.size,1,none⟩ (.int .i64 0)).setCell ⟨w1.heap.size,2,none⟩ (.slice av3 (aJ (ls.take (k+1))).length cv3)) from ((B3.out.setCell (p:=⟨w1.heap.size,0,none⟩) (Nat.le_of_lt hlt1) _).setCell (p:=⟨w1.heap.size,1,none⟩) (Nat.le_of_lt hlt1) _).setCell (p:=⟨w1.heap.size,2,none⟩) (Nat.le_of_lt hlt1) _)
     rw[←hs3]at G4;have Z4:=aA ((cC.kept ⟨⟨x0',x1',x2'⟩,x3',x4',x5'⟩ (aD.three w3 w1.heap.size (.int .i64 0) (.int .i64 0) (.slice av3 (aJ (ls.take (k+1))).length cv3)) hne));have Y4:=aA (cC.set ⟨⟨y0',y1',y2'⟩,y3',y4',y5'⟩ (.int .i64 0) (.int .i64 0) (.slice av3 (aJ (ls.take (k+1))).length cv3));clear x0' x1' x2' x3' x4' x5' y0' y1' y2' y3' y4' y5' G3 B3;have hsz4:w1.heap.size<(((w3.setCell ⟨w1.heap.size,0,none⟩ (.int .i64 0)).setCell ⟨w1.heap.size,1,none⟩ (.int .i64 0)).setCell ⟨w1.heap.size,2,none⟩ (.slice av3 (aJ (ls.take (k+1))).length cv3)).heap.size:=by omega
     clear hs3;generalize ((w3.setCell ⟨w1.heap.size,0,none⟩ (.int .i64 0)).setCell ⟨w1.heap.size,1,none⟩ (.int .i64 0)).setCell ⟨w1.heap.size,2,none⟩ (.slice av3 (aJ (ls.take (k+1))).length cv3)=W4 at *;go_roundw
     case rel=>exact ⟨k+1,av3,cv3,by omega,by go_num,Y4,Z4,G4,B4,HJ2,hsz4⟩
     case measure=>simp[intOf];omega
   ·obtain ⟨⟨x0',x1',x2'⟩,x3',x4',x5'⟩:=HX.out
    obtain ⟨⟨y0',y1',y2'⟩,y3',y4',y5'⟩:=HY.out;have HE:=aA (show ls.take k=ls from List.take_of_length_le (by omega))
    have HCC:=aA (ztn HZ.out (fun j hj=>HJ.out j (by omega)))
    rw[HE.out]at HG y2';clear HY HJ;generalize aJ ls=M at *;go_wp2_with fail
    exact bodyPost_ret (v:=.agg #[.int .i64 0,.int .i64 0,.slice va M.length vc]) (by simp[results,Tryz.results12,go_sem,x0',x1',x2']) rfl (by rw[HCC.out.1,HCC.out.2];exact oS.of (by omega) (Nat.le_refl _) rfl HG.out HW.out)
 ·have HC:=aA (zhc hz)
  generalize bV ls=F at *;have hz2:(F != 0)=true:=by simp;exact hz
  clear hz;obtain ⟨⟨t0,t1,t2⟩,t3,t4,t5⟩:=X0.out;go_enter Tryz.func12,Tryz.ntmps12;go_wp2_with fail
  refine HLF.out.mono ?_;rintro r w1 ⟨rfl,hb1⟩;have B1:=aA (aB B0.out hb1);clear t0 t1 t2 t3 t4 t5;obtain ⟨⟨t0,t1,t2⟩,t3,t4,t5⟩:=X0.out.below hb1;clear hb1;go_wp2_with fail
  exact bodyPost_ret (v:=.agg #[.int .i64 F,.int .i64 0,.slice none 0 0]) (by simp[results,Tryz.results12,go_sem,t0,t1,t2]) rfl (by rw[HC.out.1,HC.out.2];exact oS.bad (Nat.le_refl _) B1.out)
theorem oR (a:Option Addr) (c n:Nat) (ls:List (List En)) (w:World) (h:RdL w a ls) (hn:n=ls.length) (hl:ls.length≤1048576) (hs:eJ ls) (hg:∀ es∈ls,cJ es=aR es) :
  Calls Tryz.prog 165 #[.slice a n c] w fun r w'=>r=.returned (.int .i64 (bV ls))∧Below w.heap.size w w':=by
 subst hn;have HR:=aA h;have HS:=aA hs;have HG:=aA hg;clear h hs hg;by_cases h4:4<ls.length
 ·have HZ:=aA (show bV ls=2 by simp[bV,h4])
  have h4':(4:Int)<(ls.length:Int):=by omega
  go_enter Tryz.func165,Tryz.ntmps165;go_wp2_with fail
  go_wp2_with fail
  go_ret
  exact ⟨by rw[HZ.out];rfl,Below.refl _ _⟩
 ·have HZ:=aA (show bV ls=jT (ls.drop 0) by simp[bV,h4])
  have h4':¬ (4:Int)<(ls.length:Int):=by omega
  clear h4;generalize bV ls=V at *;go_enter Tryz.func165,Tryz.ntmps165;go_wp2_with fail
  go_loopw [3] (fun i wr=>∃ k:Nat,k≤ls.length∧i=.int .i64 k∧Hid (V=jT (ls.drop k))∧Hid (Below w.heap.size w wr)) (fun i _=>ls.length - (intOf i).toNat)
  case atStart=>exact ⟨0,Nat.zero_le _,rfl,HZ,aA (Below.refl _ _)⟩
  case round =>
   obtain ⟨k,hk,rfl,HV,HW⟩:=hrel;by_cases hlt:k<ls.length
   ·obtain ⟨b,off,es,x,cc,rfl,hb,he,c0,hr⟩:=(HR.out.below HW.out).at hlt
    obtain ⟨hel,hsm⟩:=HS.out es (List.mem_of_getElem? he);have HLF:=aA (mP x cc es.length es wr hr rfl (by omega) hsm)
    rw[HG.out es (List.mem_of_getElem? he)]at HLF;have HX:=aA he;clear he hr hsm;by_cases hf:aR es=0
    ·have HN:=aA (HV.out.trans (zT HX.out hf))
     rw[hf]at HLF;clear hf;go_wp2_with fail
     refine HLF.out.mono ?_;rintro r w1 ⟨rfl,hb1⟩;have B1:=aA (aB HW.out hb1);clear hb1 c0;go_wp2_with fail
     go_roundw
     case rel=>exact ⟨k+1,by omega,by go_num,HN,B1⟩
     case measure=>simp[intOf];omega
    ·have HN:=aA (HV.out.trans (zg2 HX.out hf))
     generalize aR es=F at *;have hf2:(F != 0)=true:=by simp;exact hf
     clear hf;go_wp2_with fail
     refine HLF.out.mono ?_;rintro r w1 ⟨rfl,hb1⟩;have B1:=aA (aB HW.out hb1);clear hb1 c0;go_wp2_with fail
     go_ret
     exact ⟨by rw[HN.out];rfl,B1.out⟩
   ·have HN:=aA (show V=0 by rw[HV.out,List.drop_eq_nil_of_le (by omega)];rfl)
    go_wp2_with fail
    go_ret
    exact ⟨by rw[HN.out];rfl,HW.out⟩
theorem zF {P:Program} {w:World} {ops:Array Oper} {rest:List Oper} {o:Oper} {a:Act} {Q:Exit→Act→World→Prop} (hgd:o.guard=none) (s x:Operand) (t:TypeId)
  (ho:o.op=.call { callee:=.builtin .append,args:=#[s,x],argTypes:=#[t,t] })
  (base:Nat) (e:TypeId) (i:TypeInfo) (z:Value) (size bytes:Nat) (ht:P.underlying t=some (.slice e)) (hi:P.info? e=some i) (hz:i.zero=some z)
  (hsize:i.size=size) (hby:i.bytes=bytes) (hzs:z.cells.size=size) (hsz:0<size)
  (av0:Option Addr) (n c0:Nat) (xs:List Value) (hs:a.eval s=.slice av0 n c0) (hown:w.ownsRow base e size (.slice av0 n c0) n xs)
  (sp:Option Addr) (m sc:Nat) (cs:List Value) (hx:a.eval x=.slice sp m sc) (hcl:cs.length=m * size) (hsrc:cs≠[]→∃ ad,sp=some ad∧∀ (j:Nat) u,cs[j]?=some u→w.cell? (ad.add j)=some u) (h1:∀ u∈cs,u.oneCell'=true)
  (N:Nat) (hN:n+m=N) (h63:n+m≤maxLen) (hbytes:(n+m) * bytes≤140737488355328) (hbase:base≤w.heap.size)
  (h:∀ av cv w',w'.ownsRow base e size (.slice av N cv) N (xs++cs)→aD (fun b=>(Value.slice av0 n c0).ownBlock=some b) w w'→wpList P ops Q rest (a.put o.dst (.slice av N cv)) w') :
  wpList P ops Q (o :: rest) a w:=by
 cases sp with
 | some ad =>
  refine eW hgd s x t ho base e i z size bytes ht hi hz hsize hby hzs hsz _ n xs hs hown ad m sc cs hx hcl (fun j u hj=>?_) h1 N hN h63 hbytes hbase h
  obtain ⟨ad',e1,h2⟩:=hsrc (by intro e;subst e;simp at hj)
  cases e1
  exact h2 j u hj
 | none =>
  have hc:cs=[]:=by
   by_cases hc:cs=[]
   ·exact hc
   ·obtain ⟨_,e1,_⟩:=hsrc hc;cases e1
  subst hc;have hm:m=0:=by
   simp only[List.length_nil]at hcl;rcases Nat.mul_eq_zero.1 hcl.symm with h0 | h0
   ·exact h0
   ·omega
  subst hm;have hN':N=n:=by omega
  subst hN';have hrun:(Builtin.append_ #[t,t] o.type #[.slice av0 N c0,.slice none 0 sc]).run P w=.ok (.slice av0 N c0) w:=by
   rcases hown.2 with ⟨hv,h0⟩ | ⟨g,cap,cur,hv,-,-,hnc,-⟩
   ·simp only[Value.slice.injEq]at hv
    obtain ⟨rfl,rfl,rfl⟩:=hv;simp[Builtin.append_,run_underlying ht,sizeOf,typeInfo,hi,Builtin.lenOf,Builtin.firstCells]
   ·simp only[Value.slice.injEq,true_and]at hv
    obtain ⟨rfl,rfl⟩:=hv;simp[Builtin.append_,run_underlying ht,sizeOf,typeInfo,hi,Builtin.lenOf,Builtin.firstCells,hnc,storeCells]
  refine wpList_plain hgd fun K hK=>?_
  unfold Oper.wp execOp;simp only[ho,resolve,invoke,builtin,Sem.run_bind,Sem.run_pure,Result.andThen_ok,List.map_toArray,List.map_cons,List.map_nil,hs,hx,hrun];exact hK _ _ (h av0 c0 w (by rw[List.append_nil];exact hown) (aD.refl _ _))
theorem zan {w W:World} {B n c:Nat} {av:Option Addr} {ls:List (List En)} {U:List En} {u:Option Addr} {uc:Nat} {vs:List Value} (hO:W.ownsRow B 35 1 (.slice av n c) n (vs ++ [.slice u U.length uc])) (hB:Below w.heap.size w W) (hn:n=ls.length+1) (hv:vs.length=ls.length)
  (hr:∀ (i:Nat) (es:List En),ls[i]?=some es→∃ x c,vs[i]?=some (Value.slice x es.length c)∧RdE w x es) (hU:RdE w u U):RdL W av (ls ++ [U]):=by
 subst hn;rcases hO.2 with ⟨hv0,h0⟩ | ⟨g,cap,cur,hv0,hb,hh,hnc,hcm,hcs,htake⟩
 ·omega
 ·simp only[Value.slice.injEq,true_and]at hv0
  obtain ⟨rfl,rfl⟩:=hv0;have hlt:=(hO.lt g rfl).2;have hc:∀ j,j<ls.length+1→W.cell? ⟨g,j,none⟩=(vs ++ [.slice u U.length uc])[j]?:=fun j hj=>hO.cellAt j (by omega)
  have hat:∀ i es,(ls ++ [U])[i]?=some es→∃ x c,W.cell? ⟨g,0+i,none⟩=some (.slice x es.length c)∧RdE W x es:=fun i es he=>by
   rw[Nat.zero_add];by_cases hi:i<ls.length
   ·rw[List.getElem?_append_left hi]at he
    obtain ⟨y,c,hy,hre⟩:=hr i es he;refine ⟨y,c,?_,hre.below hB⟩;rw[hc i (by omega),List.getElem?_append_left (by omega)]
    exact hy
   ·have hi2:i=ls.length:=by
     have:=(List.getElem?_eq_some_iff.1 he).1;simp at this;omega
    subst hi2;simp at he
    subst he;exact ⟨u,uc,by rw[hc _ (by omega),List.getElem?_append_right (by omega)];simp[hv],hU.below hB⟩
  intro _;refine ⟨g,0,fun i=>((ls ++ [U])[i]?.bind fun es=>if h:(ls ++ [U])[i]?=some es then some (Classical.choose (hat i es h)) else none).getD none,fun i=>((ls ++ [U])[i]?.bind fun es=>if h:(ls ++ [U])[i]?=some es then some (Classical.choose (Classical.choose_spec (hat i es h))) else none).getD 0,rfl,hlt,fun i es he=>?_⟩
  have h1:=Classical.choose_spec (Classical.choose_spec (hat i es he));simp only[he,Option.bind_some,dif_pos];exact h1
theorem kT (a:Option Addr) (c n:Nat) (ls:List (List En)) (u:Option Addr) (uc m:Nat) (U:List En) (w:World) (h:RdL w a ls) (hn:n=ls.length) (hl:ls.length≤1000000) (hU:RdE w u U) (hm:m=U.length) :
  Calls Tryz.prog 166 #[.slice a n c,.slice u m uc] w fun r w'=>∃ av cv,r=.returned (.slice av (ls ++ [U]).length cv)∧RdL w' av (ls ++ [U])∧Below w.heap.size w w':=by
 subst hn;subst hm;obtain ⟨i1,ki,kz0,kz1,kz2⟩:=info_parts zy1;obtain ⟨vs,hvl,hvc,hv1,hvr⟩:=RdL.cells h;have HVC:=aA hvc;have HV1:=aA hv1;have HU:=aA hU;have HVN:=aA (show vs.length=ls.length * 1 by omega)
 have HLen:=aA (show (ls ++ [U]).length=ls.length+1 by simp)
 have hml0:0+ls.length≤maxLen:=by unfold maxLen;omega
 have hmb0:(0+ls.length) * 24≤140737488355328:=by omega
 have hml1:ls.length+1≤maxLen:=by unfold maxLen;omega
 have hmb1:(ls.length+1) * 24≤140737488355328:=by omega
 have B0:=aA (aC w (.cells #[] 35));have OWN0:Hid ((w.alloc (.cells #[] 35)).ownsRow w.heap.size 35 1 (.slice (some ⟨w.heap.size,0,none⟩) 0 0) 0 []):=aA (World.ownsRow_made w #[] 0 (Nat.le_refl _) (Nat.zero_le _) rfl);have HRd:Hid (∀ (W:World) (av:Option Addr) (cv:Nat),W.ownsRow w.heap.size 35 1 (.slice av (ls.length+1) cv) (ls.length+1) (vs ++ [.slice u U.length uc])→Below w.heap.size w W→RdL W av (ls ++ [U])):=aA (fun W av cv hO hB=>zan hO hB rfl hvl hvr hU)
 clear h hvc hv1 hvr hvl hU;generalize hNN:ls.length=N at *;have HNN:=aA hNN;clear hNN;go_enter Tryz.func166,Tryz.ntmps166;go_wp2_with (first
  | (at_builtin;refine zF rfl (.tmp 5) (.tmp 6) 31 rfl w.heap.size 35 i1 (.slice none 0 0) 1 24 Tryz.underlying31 ki kz0 kz1 kz2 rfl (by decide) (some ⟨w.heap.size,0,none⟩) 0 0 [] rfl OWN0.out a N c vs rfl HVN.out (HVC.out _ B0.out) HV1.out N (by simp) hml0 hmb0 (by simp) ?_;intro av1 cv1 w1 ho1 hk1;have O1:=aA ho1;have B1:=aA (B0.out.trans (hk1.below (B:=w.heap.size) B0.out.size (fun b hb e=>by simp[Value.ownBlock]at e;omega)));have hs1:=B1.out.size;clear ho1 hk1)
  | (at_builtin;refine cS rfl (.tmp 7) (.tmp 9) 31 rfl w.heap.size 35 i1 (.slice none 0 0) 1 24 Tryz.underlying31 ki kz0 kz1 kz2 rfl (by decide) _ _ _ rfl O1.out rfl rfl (by intro u hu;simp at hu;subst hu;rfl) hml1 hmb1 hs1 ?_;intro v' w2 ho2 hk2;have O2:=aA ho2;have B2:=aA (aD.below_own B1.out hs1 O1.out hk2);clear ho2 hk2))
 obtain ⟨av2,cv2,hv2⟩:=bH O2.out;subst hv2;go_ret
 exact ⟨av2,⟨cv2,by rw[HNN.out];rfl⟩,HRd.out _ _ _ (by simpa using O2.out) B2.out,B2.out⟩
theorem tG (a:Option Addr) (c n:Nat) (ls:List (List En)) (u:Option Addr) (uc m:Nat) (U:List En) (p:Bs) (w:World) (h:RdL w a ls) (hn:n=ls.length) (hl:ls.length≤1000000) (hU:RdE w u U) (hm:m=U.length) (hs:eJ (ls ++ [U])) (hg:∀ es∈ls ++ [U],cJ es=aR es) (hpl:p.length≤1048576) :
  Calls Tryz.prog 120 #[.slice a n c,.slice u m uc,.string (str p)] w fun r w'=>r=.returned (.int .i64 (bJ (ls ++ [U]) p))∧Below w.heap.size w w':=by
 subst hn;subst hm;have hsz:=aK p;have HA:=aA (kT a c ls.length ls u uc U.length U w h rfl hl hU rfl);have HSL:=aA hs;have HG:=aA hg;have HLn:=aA (show (ls ++ [U]).length≤1048576 by rw[List.length_append];simp;omega)
 have HPF:Hid (∀ w',Calls Tryz.prog 159 #[.string (str p)] w' fun e w2=>e=.returned (.int .i64 (aF p))∧Below w'.heap.size w' w2):=aA (fun w'=>by have h1:=tD (str p) w' (by omega);rw[aT]at h1;exact h1)
 clear h hU hs hg;generalize ls ++ [U]=al at *;by_cases hz:bV al=0
 ·have HZ:=aA (show bJ al p=aF p by rw[bJ,if_pos hz])
  go_enter Tryz.func120,Tryz.ntmps120;go_wp2_with fail
  refine HA.out.mono ?_;rintro r w1 ⟨av,cv,rfl,hr1,hb1⟩;have B1:=aA hb1;have HLF:=aA (oR av cv al.length al w1 hr1 rfl HLn.out HSL.out HG.out);rw[hz]at HLF;clear hr1 hb1;go_wp2_with fail
  refine HLF.out.mono ?_;rintro r w2 ⟨rfl,hb2⟩;have B2:=aA (aB B1.out hb2);clear hb2;go_wp2_with fail
  refine (HPF.out w2).mono ?_;rintro r w3 ⟨rfl,hb3⟩;have B3:=aA (aB B2.out hb3);clear hb3;go_wp2_with fail
  go_ret
  exact ⟨by rw[HZ.out];rfl,B3.out⟩
 ·have HZ:=aA (show bJ al p=bV al by rw[bJ,if_neg hz])
  go_enter Tryz.func120,Tryz.ntmps120;go_wp2_with fail
  refine HA.out.mono ?_;rintro r w1 ⟨av,cv,rfl,hr1,hb1⟩;have B1:=aA hb1;have HLF:=aA (oR av cv al.length al w1 hr1 rfl HLn.out HSL.out HG.out);generalize bV al=F at *;have hz2:(F != 0)=true:=by simp;exact hz
  clear hr1 hb1 hz;go_wp2_with fail
  refine HLF.out.mono ?_;rintro r w2 ⟨rfl,hb2⟩;have B2:=aA (aB B1.out hb2);clear hb2;go_wp2_with fail
  go_ret
  exact ⟨by rw[HZ.out];rfl,B2.out⟩
theorem pI (a:Option Addr) (c n:Nat) (U:List En) (q:Int) (w:World) (h:RdE w a U) (hn:n=U.length) (hl:U.length≤1048576) (hs:aV U) :
  Calls Tryz.prog 168 #[.slice a n c,.int .i64 q] w (cY 0 q U w):=by
 subst hn;have X0:=aA (cC.new w (.int .i64 0) (.int .i64 0) (.slice none 0 0) 64);have B0:=aA (aC w (.cells #[.int .i64 0,.int .i64 0,.slice none 0 0] 64));have HC:=aA (jF a c U.length U _ (h.below B0.out) rfl hl hs);clear h hs;go_enter Tryz.func168,Tryz.ntmps168;go_wp2_with fail
 refine HC.out.mono ?_;rintro r w1 ⟨g,cv,rfl,-,hG,hb1⟩;have G1:=aA (GW.of hG);have B1:=aA (aB B0.out hb1);have hlt:w.heap.size<(w.alloc (.cells #[.int .i64 0,.int .i64 0,.slice none 0 0] 64)).heap.size:=X0.out.lt;obtain ⟨⟨t0,t1,t2⟩,t3,t4,t5⟩:=X0.out.below hb1;clear hG hb1;go_wp2_with fail
 exact bodyPost_ret (v:=.agg #[.int .i64 0,.int .i64 q,.slice (some ⟨g,0,none⟩) U.length cv]) (by simp[results,Tryz.results168,go_sem,t0,t1,t2]) rfl (cY.of hlt (Nat.le_refl _) rfl G1.out B1.out)
end Go.Proofs.YtolnlfnndnpiiaaGreat
namespace Go.Proofs.YtolnlfnndnpiiaaGreat
open Go.RowKit Go.Sort Go.Shelf
def Tryz.sortB_ren:Go.Shelf.Ren:=⟨fun | 6=>232 | 15=>157 | 14=>252 | 28=>211 | 29=>212 | 20=>262 | 21=>263 | 22=>264 | 23=>265 | 24=>266 | 25=>267 | 26=>268 | 27=>269 | 46=>272 | 47=>244 | 48=>245 | 49=>273 | 50=>274 | 57=>279 | n=>n,fun | 22=>115 | 24=>88 | 25=>228 | 3=>3 | 39=>175 | 0=>0 | 53=>218 | 55=>220 | 4=>4 | 46=>211 | 45=>210 | 50=>215 | 5=>5 | 9=>9 | 66=>241 | 70=>245 | 76=>253 | 77=>254 | n=>n,fun | n=>n⟩
theorem Tryz.sortB:Go.Proofs.SlLaysF0.n6 Tryz.prog Tryz.sortB_ren:={
 mixed:=by kernel_rfl
 f6:=⟨Tryz.f232.name,by decide,Tryz.func232.trans (congrArg some (by kernel_rfl))⟩
 f14:=⟨Tryz.f252.name,by decide,Tryz.func252.trans (congrArg some (by kernel_rfl))⟩
 f15:=Tryz.func157.trans (congrArg some (by kernel_rfl))
 f20:=⟨Tryz.f262.name,by decide,Tryz.func262.trans (congrArg some (by kernel_rfl))⟩
 f21:=⟨Tryz.f263.name,by decide,Tryz.func263.trans (congrArg some (by kernel_rfl))⟩
 f22:=⟨Tryz.f264.name,by decide,Tryz.func264.trans (congrArg some (by kernel_rfl))⟩
 f23:=⟨Tryz.f265.name,by decide,Tryz.func265.trans (congrArg some (by kernel_rfl))⟩
 f24:=⟨Tryz.f266.name,by decide,Tryz.func266.trans (congrArg some (by kernel_rfl))⟩
 f25:=⟨Tryz.f267.name,by decide,Tryz.func267.trans (congrArg some (by kernel_rfl))⟩
 f26:=⟨Tryz.f268.name,by decide,Tryz.func268.trans (congrArg some (by kernel_rfl))⟩
 f27:=⟨Tryz.f269.name,by decide,Tryz.func269.trans (congrArg some (by kernel_rfl))⟩
 f28:=Tryz.func211.trans (congrArg some (by kernel_rfl))
 f29:=Tryz.func212.trans (congrArg some (by kernel_rfl))
 f46:=⟨Tryz.f272.name,by decide,Tryz.func272.trans (congrArg some (by kernel_rfl))⟩
 f47:=Tryz.func244.trans (congrArg some (by kernel_rfl))
 f48:=Tryz.func245.trans (congrArg some (by kernel_rfl))
 f49:=⟨Tryz.f273.name,by decide,Tryz.func273.trans (congrArg some (by kernel_rfl))⟩
 f50:=⟨Tryz.f274.name,by decide,Tryz.func274.trans (congrArg some (by kernel_rfl))⟩
 f57:=⟨Tryz.f279.name,by decide,Tryz.func279.trans (congrArg some (by kernel_rfl))⟩
 t0:=Tryz.underlying0
 a0:=Tryz.isAgg0
 z0:=Tryz.sizeOf0
 v0:=Tryz.zeroValue0
 t3:=Tryz.underlying3
 a3:=Tryz.isAgg3
 z3:=Tryz.sizeOf3
 v3:=Tryz.zeroValue3
 t4:=Tryz.underlying4
 a4:=Tryz.isAgg4
 z4:=Tryz.sizeOf4
 v4:=Tryz.zeroValue4
 t5:=Tryz.underlying5
 a5:=Tryz.isAgg5
 z5:=Tryz.sizeOf5
 v5:=Tryz.zeroValue5
 t9:=Tryz.underlying9
 a9:=Tryz.isAgg9
 z9:=Tryz.sizeOf9
 v9:=Tryz.zeroValue9
 t22:=Tryz.underlying115
 a22:=Tryz.isAgg115
 z22:=Tryz.sizeOf115
 v22:=Tryz.zeroValue115
 t25:=Tryz.underlying228
 a25:=Tryz.isAgg228
 z25:=Tryz.sizeOf228
 v25:=Tryz.zeroValue228
 t39:=Tryz.underlying175
 a39:=Tryz.isAgg175
 z39:=Tryz.sizeOf175
 v39:=Tryz.zeroValue175
 t45:=Tryz.underlying210
 a45:=Tryz.isAgg210
 z45:=Tryz.sizeOf210
 v45:=Tryz.zeroValue210
 t46:=Tryz.underlying211
 a46:=Tryz.isAgg211
 z46:=Tryz.sizeOf211
 v46:=Tryz.zeroValue211
 t50:=Tryz.underlying215
 a50:=Tryz.isAgg215
 z50:=Tryz.sizeOf215
 v50:=Tryz.zeroValue215
 t53:=Tryz.underlying218
 a53:=Tryz.isAgg218
 z53:=Tryz.sizeOf218
 v53:=Tryz.zeroValue218
 t55:=Tryz.underlying220
 a55:=Tryz.isAgg220
 z55:=Tryz.sizeOf220
 v55:=Tryz.zeroValue220
 t66:=Tryz.underlying241
 a66:=Tryz.isAgg241
 z66:=Tryz.sizeOf241
 v66:=Tryz.zeroValue241
 t70:=Tryz.underlying245
 a70:=Tryz.isAgg245
 z70:=Tryz.sizeOf245
 v70:=Tryz.zeroValue245
 t76:=Tryz.underlying253
 a76:=Tryz.isAgg253
 z76:=Tryz.sizeOf253
 v76:=Tryz.zeroValue253
 t77:=Tryz.underlying254
 a77:=Tryz.isAgg254
 z77:=Tryz.sizeOf254
 v77:=Tryz.zeroValue254 }
end Go.Proofs.YtolnlfnndnpiiaaGreat
namespace Go.Proofs.YtolnlfnndnpiiaaGreat
open Go.RowKit Go.Sort
theorem zd6 (B g n c:Nat) (rs ss:List Rw) (w:World) (h:w.ownsRow B 88 4 (.slice (some ⟨g,0,none⟩) n c) n (fQ rs)) (hn:n=rs.length) (h12:n≤1048577) (hp:ss.Perm rs) (hs:ss.Pairwise (fun x y=>Op.bytesLess x.e.path y.e.path=true)) :
  Calls Tryz.prog 232 #[.slice (some ⟨g,0,none⟩) n c,.func (.func 225) #[] #[]] w fun e w'=>e=.returned (.tuple #[])∧(∀ i q r,ss[i]?=some r→q<4→w'.cell? ⟨g,i * 4+q,none⟩=(bI r)[q]?)∧aD (fun b=>b=g) w w':=by
 subst hn;haveI:Inhabited Rw:=⟨⟨⟨[],0,0,[]⟩,none,0⟩⟩;have hg:=(h.lt g rfl).2;have hH:HoldsK bI 4 w g 0 rs.toArray:=by
  intro j hj;rw[size_flatK]at hj;have hj4:j<rs.length * 4:=by simpa using hj
  have h1:j / 4<rs.length:=by omega
  obtain ⟨r,hr⟩:∃ r,rs[j / 4]?=some r:=⟨_,List.getElem?_eq_getElem h1⟩;have hc:=(h.cellAt (j / 4 * 4+j % 4) (by omega)).trans (rT rs (j / 4) (j % 4) _ hr (by omega))
  rw[show j / 4 * 4+j % 4=j by omega]at hc
  refine ⟨?_,h.frozenAt _⟩;rw[Nat.zero_add,hc,get_flatK _ _ _ _ hj];have e1:rs.toArray[j / 4]! = r:=by
   have:=List.getElem?_eq_some_iff.1 hr;simp[h1,this.2]
  rw[e1];have hl:j % 4<(bI r).length:=by show j % 4<4;omega
  simp only[id];rw[List.getElem?_eq_getElem hl,getElem!_pos (bI r) (j % 4) hl]
 have eg:∀ args w,(callFunc 225 args).run Tryz.prog w=.ok (.enter 225 args) w:=enters_of Tryz.func225 (by kernel_rfl) rfl
 have hcon:=AnyQ.slices_SortFunc Tryz.sortB 4 Tryz.isAgg88 Tryz.sizeOf88 bI (fun _=>rfl) (fun x v hv=>nG [x] v (by simpa [fQ] using hv)) (fun x y=>gJ x.e.path y.e.path) rW 225 #[] g 0 c rs.toArray w eg (fun _ _ _ _ x y=>tL x y _) hH hg (by have h2:=h12;simpa using (by omega:rs.length<4611686018427387904))
 refine (show Calls Tryz.prog 232 #[.slice (some ⟨g,0,none⟩) rs.length c,.func (.func 225) #[] #[]] w _ from hcon).mono ?_
 rintro e w' ⟨he,d',m,os,hperm,hsort,rfl⟩;obtain ⟨hsz,_,hpm⟩:=hperm;have hsz':d'.size=rs.length:=by simpa using hsz
 have hpm':d'.toList.Perm rs:=by
  have e1:(d'.extract 0 rs.toArray.size).toList=d'.toList:=by simp[←hsz']
  have e2:(rs.toArray.extract 0 rs.toArray.size).toList=rs:=by simp
  rw[e1,e2]at hpm;exact hpm
 have hnd:ss.Pairwise (fun x y=>x.e.path≠y.e.path):=hs.imp (fun h=>jL h)
 have hnd':d'.toList.Pairwise (fun x y=>x.e.path≠y.e.path):=(hpm'.trans hp.symm).symm.pairwise hnd (fun h=>h.symm)
 have hd:d'.toList=ss:=by
  refine pK (hpm'.trans hp.symm) ?_ hs;rw[List.pairwise_iff_getElem];intro i j hi hj hij;have hne:=List.pairwise_iff_getElem.1 hnd' i j hi hj hij;have hlt:=hsort i j (Nat.zero_le _) hij (by simpa [←hsz'] using hj)
  have e1:ltOf (fun x y:Rw=>gJ x.e.path y.e.path) d'[j]! d'[i]! = Op.bytesLess d'[j]!.e.path d'[i]!.e.path:=qZ _ _
  rw[e1]at hlt;have hi':i<d'.size:=by simpa using hi
  have hj':j<d'.size:=by simpa using hj
  rw[getElem!_pos d' i hi',getElem!_pos d' j hj']at hlt;simp only[Array.getElem_toList]at hne ⊢;exact fR _ _ hlt (fun x=>hne x.symm)
 have hK:=holdsK_sortWorldK_c bI 4 w g 0 rs.toArray d' m os hH hg (by simpa using hsz')
 refine ⟨he,fun i q r hi hq=>?_,?_⟩
 ·rw[←hd]at hi
  have hi':i<d'.size:=by have:=(List.getElem?_eq_some_iff.1 hi).1;simpa using this
  have:=(hK.cell (i:=i) (c:=q) hi' hq).1;rw[Nat.zero_add]at this;rw[this];have e1:d'[i]! = r:=by
   rw[getElem!_pos d' i hi'];have:=(List.getElem?_eq_some_iff.1 hi).2;simpa using this
  rw[e1];have hl:q<(bI r).length:=hq;rw[List.getElem?_eq_getElem hl,getElem!_pos (bI r) q hl]
 ·refine ⟨rfl,rfl,rfl,?_,fun k hk hn=>?_⟩
  ·show w.heap.size≤((w.heap.modify g _)++os).size
   simp
  ·show ((w.heap.modify g _)++os)[k]?=w.heap[k]?
   rw[Array.getElem?_append_left (by simpa using hk),Array.getElem?_modify]
   have:¬ g=k:=fun e=>hn e.symm
   simp[this]
end Go.Proofs.YtolnlfnndnpiiaaGreat
namespace Go.Proofs.YtolnlfnndnpiiaaGreat
open Go.RowKit Go.Maps
attribute [local go_sem ↓] Go.wp_at_zero Go.wp_at_succ
def mU (es:List En) (e:En):List En:=es.filter fun x=>!jU e x
theorem zhj {es:List En} {e x:En} {k:Nat} (he:es[k]?=some x) (h:jU e x=false):mU (es.take (k+1)) e=mU (es.take k) e ++ [x]:=by
 rw[bY he];simp[mU,h]
theorem zpf {es:List En} {e x:En} {k:Nat} (he:es[k]?=some x) (h:jU e x=true):mU (es.take (k+1)) e=mU (es.take k) e:=by
 rw[bY he];simp[mU,h]
theorem zof (es:List En) (e:En):(mU es e).length≤es.length:=List.length_filter_le _ _
theorem zgj {es:List En} {e:En} (h:aU es) (he:aH e=0):mU es e=iH es e:=by
 refine List.filter_congr (fun x hx=>?_)
 exact zpe (bM he) (bM (h.ent x hx))
theorem rR {es:List En} {e:En}:(dC es e).length=(iH es e).length+1:=by
 unfold dC dV;rw[List.length_append,List.length_cons,List.length_take,List.length_drop];omega
theorem LI.one {w:World} {e:En} {a:Option Addr} {c:Nat} (h:aP .i64 w a e.chunks):LI w (w.alloc (.cells #[.int .i64 e.size,.slice a e.chunks.length c,.string (str e.path),.int .i64 e.kind] 88)) (.slice (some ⟨w.heap.size,0,none⟩) 1 1) [e] :=
 ⟨[⟨e,a,c⟩],rfl,⟨rfl,.inr ⟨w.heap.size,1,#[.int .i64 e.size,.slice a e.chunks.length c,.string (str e.path),.int .i64 e.kind],rfl,Nat.le_refl _,heap_alloc_new w _,Nat.le_refl _,by decide,rfl,rfl⟩⟩,fun r hr=>by simp only[List.mem_singleton]at hr;subst hr;exact h⟩
theorem zai {rs:List Rw} {e:En} {bs:List En} (h:rs.map Rw.e=e :: bs):∃ ss:List Rw,ss.Perm rs∧ss.map Rw.e=dV bs e:=by
 cases rs with
 | nil=>simp at h
 | cons r rt =>
  simp only[List.map_cons,List.cons.injEq]at h;obtain ⟨h1,h2⟩:=h;refine ⟨rt.take (kM bs e.path)++r :: rt.drop (kM bs e.path),?_,?_⟩
  ·refine List.perm_middle.trans ?_
   rw[List.take_append_drop]
  ·rw[List.map_append,List.map_cons,List.map_take,List.map_drop,h1,h2]
   rfl
theorem zni {W0 wr w':World} {g:Nat} {ss:List Rw} (hc:∀ i q r,ss[i]?=some r→q<4→w'.cell? ⟨g,i * 4+q,none⟩=(bI r)[q]?) (hr:∀ r∈ss,aP .i64 W0 r.a r.e.chunks) (hb:Below W0.heap.size W0 wr) (hk:aD (fun b=>b=g) wr w') (hg:W0.heap.size≤g) (hgw:g<wr.heap.size) :
  RdI w' (some ⟨g,0,none⟩) (ss.map Rw.e):=by
 intro _;refine ⟨g,0,fun i=>(ss[i]?.map Rw.a).getD none,fun i=>(ss[i]?.map Rw.c).getD 0,rfl,Nat.lt_of_lt_of_le hgw hk.size,fun i e hi=>?_⟩
 rw[List.getElem?_map]at hi;cases hri:ss[i]? with
 | none=>rw[hri]at hi;simp at hi
 | some r =>
  rw[hri]at hi;simp only[Option.map_some,Option.some.injEq]at hi;subst hi;have c0:=hc i 0 r hri (by decide)
  have c1:=hc i 1 r hri (by decide)
  have c2:=hc i 2 r hri (by decide)
  have c3:=hc i 3 r hri (by decide)
  have hrr:=hr r (List.mem_of_getElem? hri);simp only[hri,Option.map_some,Option.getD_some,Nat.zero_add];refine ⟨by simpa [bI] using c0,by simpa [bI] using c1,by simpa [bI] using c2,by simpa [bI] using c3,?_⟩
  refine (hrr.below hb).kept hk (fun hz x hx e=>?_)
  obtain ⟨b,off,e1,hb1,_⟩:=hrr hz;rw[e1]at hx;cases hx
  simp only at e;omega
theorem zr0 (a:Option Addr) (c n:Nat) (es:List En) (e:En) (x:Option Addr) (m cc:Nat) (w:World) (h:RdE w a es) (hn:n=es.length) (hl:es.length≤1048576) (hs:aV es) (hm:m=e.chunks.length) (hr:aP .i64 w x e.chunks) (hp:e.path.length≤1048576) (hcl:e.chunks.length≤1048576) :
  Calls Tryz.prog 196 #[.slice a n c,.agg #[.string (str e.path),.int .i64 e.kind,.int .i64 e.size,.slice x m cc]] w (eV (bU es e) (cK es e) w):=by
 subst hn hm;obtain ⟨i1,ki,kz0,kz1,kz2⟩:=info_parts Tryz.infoIt;have F0:=aA ((cI.new w (.string (str e.path)) (.int .i64 e.kind) (.int .i64 e.size) (.slice x e.chunks.length cc) 50).below (aC _ (.cells #[.int .i64 0,.slice none 0 0] 131)));have X0:=aA (Box.new (w.alloc (.cells #[.string (str e.path),.int .i64 e.kind,.int .i64 e.size,.slice x e.chunks.length cc] 50)) (.int .i64 0) (.slice none 0 0) 131);have h1:(w.alloc (.cells #[.string (str e.path),.int .i64 e.kind,.int .i64 e.size,.slice x e.chunks.length cc] 50)).heap.size=w.heap.size+1:=by simp
 rw[h1]at X0;clear h1;have B0:=aA (aB (aC w (.cells #[.string (str e.path),.int .i64 e.kind,.int .i64 e.size,.slice x e.chunks.length cc] 50)) (aC _ (.cells #[.int .i64 0,.slice none 0 0] 131)));have HR:=aA h;have HS:=aA hs;have HRx:=aA hr;clear h hs hr;go_enter Tryz.func196,Tryz.ntmps196;go_wp2_with fail
 generalize (w.alloc (.cells #[.string (str e.path),.int .i64 e.kind,.int .i64 e.size,.slice x e.chunks.length cc] 50)).alloc (.cells #[.int .i64 0,.slice none 0 0] 131)=W0 at *;obtain ⟨be,hbe⟩:∃ be,be=w.heap.size:=⟨_,rfl⟩;rw[←hbe]at F0 X0 ⊢;have HBE:=aA hbe;clear hbe;refine (gD a c es.length es _ (HR.out.below B0.out) rfl hl HS.out).mono ?_;rintro r w1 ⟨rfl,hb1⟩;have B1:=aA (aB B0.out hb1);have X1:=aA (X0.out.below hb1);have F1:=aA (F0.out.below hb1);clear hb1 X0 B0 F0;by_cases hz:aR es=0
 ·have HRi:=aA (eX.1 hz)
  rw[hz];obtain ⟨f0,f1,f2,f3⟩:=F1.out;go_wp2_with fail
  refine (pY e _ _ _ _ (HRx.out.below B1.out) rfl hp hcl).mono ?_;rintro r w2 ⟨rfl,hb2⟩;have B2:=aA (aB B1.out hb2);have X2:=aA (X1.out.below hb2);have F2:=aA (F1.out.below hb2);clear hb2 X1 B1 F1 f0 f1 f2 f3;by_cases hz2:aH e=0
  ·rw[hz2]
   obtain ⟨f0,f1,f2,f3⟩:=F2.out;go_wp2_with fail
   refine (oI a c es.length es e.path _ (HR.out.below B2.out) rfl hl (bM hz2) hp).mono ?_;rintro r w3 ⟨rfl,hb3⟩;have B3:=aA (aB B2.out hb3);have X3:=aA (X2.out.below hb3);have F3:=aA (F2.out.below hb3);clear hb3 X2 B2 F2 f0 f1 f2 f3;cases hz3:cR es e.path
   ·have HCC:=aA (show bU es e=9∧cK es e=[] from by
     have h0:bU es e=9:=by rw[bU,if_pos hz,if_pos hz2,hz3];rfl
     exact ⟨h0,by rw[cK,if_neg (by rw[h0];decide)]⟩)
    clear hz hz2 hz3;obtain ⟨⟨t0,t1⟩,t2,t3⟩:=X3.out;go_wp2_with fail
    exact bodyPost_ret (v:=.agg #[.int .i64 9,.slice none 0 0]) (by simp[results,Tryz.results196,go_sem,t0,t1]) rfl (by rw[HCC.out.1,HCC.out.2];exact eV.bad (by have:=HBE.out;omega) B3.out)
   ·have HC:=aA (show bU es e=if 12<(dC es e).length then 2 else 0 from by rw[bU,if_pos hz,if_pos hz2,hz3];rfl)
    have HBP:=aA (zgj HRi.out hz2);clear hz hz2 hz3;obtain ⟨f0,f1,f2,f3⟩:=F3.out;go_wp2_with fail
    refine (fY _ _ _ _ _ _ _).mono ?_;rintro r w4 ⟨rfl,hb4⟩;have P4:=aA (cI.new w4 (.int .i64 e.size) (.slice x e.chunks.length cc) (.string (str e.path)) (.int .i64 e.kind) 88);have B4:=aA (aB (aB B3.out hb4) (aC w4 (.cells #[.int .i64 e.size,.slice x e.chunks.length cc,.string (str e.path),.int .i64 e.kind] 88)));have X4:=aA ((X3.out.below hb4).below (aC w4 (.cells #[.int .i64 e.size,.slice x e.chunks.length cc,.string (str e.path),.int .i64 e.kind] 88)));clear hb4 X3 B3 F3 f0 f1 f2 f3;have hsz4:(w4.alloc (.cells #[.int .i64 e.size,.slice x e.chunks.length cc,.string (str e.path),.int .i64 e.kind] 88)).heap.size=w4.heap.size+1:=by simp
    go_wp2_with fail
    generalize w4.alloc (.cells #[.int .i64 e.size,.slice x e.chunks.length cc,.string (str e.path),.int .i64 e.kind] 88)=W4 at *;have L5:=aA (LI.one (w:=W4) (e:=e) (a:=x) (c:=cc) (HRx.out.below B4.out));have B5:=aA (aC W4 (.cells #[.int .i64 e.size,.slice x e.chunks.length cc,.string (str e.path),.int .i64 e.kind] 88));rw[hsz4]at L5;have HSZ:=aA hsz4;clear hsz4;have HR4:=aA (HR.out.below B4.out);have hb4:w4.heap.size<W4.heap.size:=P4.out.lt;generalize w4.heap.size=b4 at *;go_loopw [9,39] (fun v i wr=>∃ k:Nat,k≤es.length∧i=.int .i64 k∧Hid (LI W4 wr v (e :: mU (es.take k) e))∧Hid (Below W4.heap.size W4 wr)) (fun _ i _=>es.length - (intOf i).toNat)
    case atStart=>exact ⟨0,Nat.zero_le _,rfl,aA (by simpa [mU] using L5.out),B5⟩
    case round =>
     obtain ⟨k,hk,rfl,HL,HW⟩:=hrel;have hsz:=HW.out.size;obtain ⟨lv,lc,hv⟩:=HL.out.shape;obtain ⟨L,hL⟩:∃ L,L=(e :: mU (es.take k) e).length:=⟨_,rfl⟩;rw[←hL]at hv;subst hv;have hL2:L≤1048577:=by
      have hrl:=zof (es.take k) e;rw[List.length_take]at hrl;rw[hL,List.length_cons];omega
     have HLn:=aA hL;clear hL;by_cases hlt:k<es.length
     ·obtain ⟨b,off,y,xx,cy,rfl,hb,he,c0,c1,c2,c3,hr⟩:=(HR4.out.below HW.out).at hlt
      obtain ⟨b',off',y',xx',cy',hbb,hb',he',d0,d1,d2,d3,hr'⟩:=HR4.out.at hlt;simp only[Option.some.injEq,Addr.mk.injEq,and_true]at hbb;obtain ⟨rfl,rfl⟩:=hbb;have:y'=y:=Option.some.inj (he'.symm.trans he);subst this;have d3':=(HW.out.cell (p:=⟨b,off+k * 4+3,none⟩) hb').trans d3;rw[c3]at d3';simp only[Option.some.injEq,Value.slice.injEq,true_and]at d3';obtain ⟨rfl,rfl⟩:=d3';have hsm:=HS.out y' (List.mem_of_getElem? he);have HX:=aA he;have HRc:=aA hr';clear he hr hr' he' d0 d1 d2 d3;have BA:=aA (aC wr (.cells #[.string (str y'.path),.int .i64 y'.kind,.int .i64 y'.size,.slice xx y'.chunks.length cy] 50))
      go_wp2_with fail
      refine (fY _ _ _ _ _ _ _).mono ?_;rintro r w5 ⟨rfl,hb5⟩;have F5:=aA (cI.new w5 (.int .i64 y'.size) (.slice xx y'.chunks.length cy) (.string (str y'.path)) (.int .i64 y'.kind) 88);have BB5:=aA (aB (aB BA.out hb5) (aC w5 (.cells #[.int .i64 y'.size,.slice xx y'.chunks.length cy,.string (str y'.path),.int .i64 y'.kind] 88)));obtain ⟨p0,p1,p2,p3⟩:=P4.out.below (aB HW.out BB5.out);clear hb5 c0 c1 c2 c3 BA;go_wp2_with fail
      generalize w5.alloc (.cells #[.int .i64 y'.size,.slice xx y'.chunks.length cy,.string (str y'.path),.int .i64 y'.kind] 88)=W5 at *;generalize w5.heap.size=b5 at *;obtain ⟨f0,f1,f2,f3⟩:=F5.out;go_wp2_with fail
      refine (zuh e y' _ _ _ _ _ _ _ hsm.1).mono ?_;rintro r w6 ⟨rfl,hb6⟩;have BB6:=aA (aB BB5.out hb6);have F6:=F5.out.below hb6;clear hb6 F5 BB5 p0 p1 p2 p3 f0 f1 f2 f3;obtain ⟨f0,f1,f2,f3⟩:=F6;cases hq:jU e y'
      ·have HN:=aA (zhj HX.out hq)
       clear hq;obtain ⟨rs,g1,g2,g3⟩:=HL.out;have G1:=aA g1;have G2:=aA (aI g2 BB6.out);have G3:=aA g3;clear g1 g2 g3;rw[←HLn.out]at G2;have hm1:L+1≤maxLen:=by unfold maxLen;omega
       have hm1':(L+1) * 56≤140737488355328:=by omega
       have hsz6:=BB6.out.size;go_wp2_with (at_builtin;refine dB rfl (.tmp 49) (.tmp 51) 115 rfl W4.heap.size 88 i1 (.agg #[.int .i64 0,.slice none 0 0,.string ⟨#[]⟩,.int .i64 0]) 4 56 Tryz.underlying115 ki kz0 kz1 kz2 rfl (by decide) _ _ _ rfl G2.out _ rfl rfl rfl (by intro u hu;simp at hu;rcases hu with rfl | rfl | rfl | rfl <;> rfl) hm1 hm1' (by omega) ?_;intro av7 cv7 w7 hown7 hk7;have O7:=aA hown7;have K7:=aA hk7;clear hown7 hk7)
       go_roundw
       case rel =>
        refine ⟨k+1,by omega,by go_num,aA ?_,aA ?_⟩
        ·rw[HN.out]
         exact LI.push (es:=e :: mU (es.take k) e) (e:=y') (a:=xx) (c:=cy) G1.out HLn.out G3.out HRc.out O7.out
        ·exact (aB HW.out BB6.out).trans (K7.out.below (by omega) (fun q hq hS=>by have:=(G2.out.lt q hS).1;omega))
       case measure=>simp[intOf];omega
      ·have HN:=aA (zpf HX.out hq)
       clear hq;go_wp2_with fail
       go_roundw
       case rel=>exact ⟨k+1,by omega,by go_num,aA (by rw[HN.out];exact HL.out.below BB6.out),aA (aB HW.out BB6.out)⟩
       case measure=>simp[intOf];omega
     ·have HE:=aA (show es.take k=es from List.take_of_length_le (by omega))
      obtain ⟨rs,g1,g2,g3⟩:=HL.out;rw[HE.out,HBP.out]at g1;rw[←HLn.out]at g2;have HN:=aA (show L=(dC es e).length from by rw[HLn.out,HE.out,HBP.out,rR,List.length_cons])
      have G1:=aA g1;have G2:=aA g2;have G3:=aA g3;clear g1 g2 g3 HE HL;obtain ⟨⟨t0,t1⟩,t2,t3⟩:=X4.out.below HW.out;have hPos:0<L:=by rw[HN.out,rR];omega
      by_cases h12:12<L
      ·have HCC:=aA (show bU es e=2∧cK es e=[] from by
        have h0:bU es e=2:=by rw[HC.out,if_pos (by rw[←HN.out];exact h12)]
        exact ⟨h0,by rw[cK,if_neg (by rw[h0];decide)]⟩)
       have h12':(12:Int)<(L:Int):=by omega
       go_wp2_with fail
       exact bodyPost_ret (v:=.agg #[.int .i64 2,.slice none 0 0]) (by simp[results,Tryz.results196,go_sem,t0,t1]) rfl (by rw[HCC.out.1,HCC.out.2];exact eV.bad (by have:=HBE.out;omega) (aB B4.out HW.out))
      ·have HCC:=aA (show bU es e=0∧cK es e=dC es e from by
        have h0:bU es e=0:=by rw[HC.out,if_neg (by rw[←HN.out];exact h12)]
        exact ⟨h0,by rw[cK,if_pos h0]⟩)
       have h12':¬ (12:Int)<(L:Int):=by omega
       obtain ⟨g,hgv,-⟩:=iF G2.out (.inl hPos);subst hgv;obtain ⟨ss,hperm,hmap⟩:=zai G1.out;have hmap':ss.map Rw.e=dC es e:=hmap;have hrise:ss.Pairwise (fun x y=>Op.bytesLess x.e.path y.e.path=true):=by
        have:=qD (e:=e) HRi.out.rise;rw[←hmap']at this;exact List.pairwise_map.1 this
       have HSO:=aA (zd6 W4.heap.size g L lc rs ss wr G2.out (by rw[←List.length_map (f:=Rw.e),G1.out,HN.out,rR,List.length_cons]) (by omega) hperm hrise)
       have HSR:=aA (fun w' hc hk=>zni (W0:=W4) (wr:=wr) (w':=w') (g:=g) (ss:=ss) hc (fun r hr=>G3.out r (hperm.subset hr)) HW.out hk ((G2.out.lt g rfl).1) ((G2.out.lt g rfl).2))
       rw[hmap']at HSR;have hgl:=G2.out.lt g rfl;clear hperm hmap hmap' hrise;go_wp2_with fail
       refine HSO.out.mono ?_;rintro r w8 ⟨rfl,hc8,hk8⟩;have RI:=aA (HSR.out w8 hc8 hk8);have B8:=aA (aB B4.out (HW.out.trans (hk8.below hsz (fun q hq hS=>by have:q=g:=hS;omega))))
       have X8:=aA ((X4.out.below HW.out).kept hk8 (fun e=>by have:=X4.out.1.lt;omega))
       have hs8:=hk8.size;have hlt8:=X4.out.1.lt;clear hc8 hk8 HSO HSR t0 t1 t2 t3;go_wp2_with fail
       refine (jO _ _ L (dC es e) _ RI.out HN.out (by rw[←HN.out];omega) (fun z hz=>by
        rcases jJ.1 hz with rfl | ⟨hz,_⟩
        ·exact ⟨hp,hcl⟩
        ·exact HS.out z hz)).mono ?_
       rintro r w9 ⟨av9,cv9,rfl,hG9,hb9⟩;obtain ⟨⟨t0,t1⟩,t2,t3⟩:=X8.out.below hb9;have G9:=aA hG9;have B9:=aA (aB B8.out hb9);clear hG9 hb9;go_wp2_with fail
       exact bodyPost_ret (v:=.agg #[.int .i64 0,.slice av9 L cv9]) (by simp[results,Tryz.results196,go_sem,t0,t1]) rfl (by rw[HCC.out.1,HCC.out.2];exact eV.of (w2:=w) (by omega) (by have:=HBE.out;omega) HN.out G9.out B9.out)
  ·have HCC:=aA (show bU es e=aH e∧cK es e=[] from by
    have h0:bU es e=aH e:=by rw[bU,if_pos hz,if_neg hz2]
    exact ⟨h0,by rw[cK,if_neg (by rw[h0];exact hz2)]⟩)
   clear hz;generalize aH e=F at *;have hz3:(F != 0)=true:=by simp;exact hz2
   clear hz2;obtain ⟨⟨t0,t1⟩,t2,t3⟩:=X2.out;go_wp2_with fail
   exact bodyPost_ret (v:=.agg #[.int .i64 F,.slice none 0 0]) (by simp[results,Tryz.results196,go_sem,t0,t1]) rfl (by rw[HCC.out.1,HCC.out.2];exact eV.bad (by have:=HBE.out;omega) B2.out)
 ·have HCC:=aA (show bU es e=aR es∧cK es e=[] from by
   have h0:bU es e=aR es:=by rw[bU,if_neg hz]
   exact ⟨h0,by rw[cK,if_neg (by rw[h0];exact hz)]⟩)
  generalize aR es=F at *;have hz2:(F != 0)=true:=by simp;exact hz
  clear hz;obtain ⟨⟨t0,t1⟩,t2,t3⟩:=X1.out;go_wp2_with fail
  exact bodyPost_ret (v:=.agg #[.int .i64 F,.slice none 0 0]) (by simp[results,Tryz.results196,go_sem,t0,t1]) rfl (by rw[HCC.out.1,HCC.out.2];exact eV.bad (by have:=HBE.out;omega) B1.out)
end Go.Proofs.YtolnlfnndnpiiaaGreat
