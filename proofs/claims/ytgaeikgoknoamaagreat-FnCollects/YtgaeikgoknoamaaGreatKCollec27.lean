/-
  Texts put together: ColV ColR ColS Fault Store Rise Copy ColX.
-/
import Derived.Test.YtgaeikgoknoamaaGreatKCollec26
import Derived.Test.YtgaeikgoknoamaaGreatKCollec21
import Derived.Test.YtgaeikgoknoamaaGreatKCollec12
import Derived.Deep.LoopGhost
import Derived.Test.YtgaeikgoknoamaaGreatKCollec13
import Derived.Test.YtgaeikgoknoamaaGreatKCollec9
import Derived.Test.YtgaeikgoknoamaaGreatKCollec1
import Derived.Test.YtgaeikgoknoamaaGreatKCollec4
import Derived.Test.YtgaeikgoknoamaaGreatKCollec6
import Derived.Maps.OwnSet
import Derived.Shelf.SlIterI.Nil
import Derived.Shelf.SortM.Plain
import Derived.Shelf.SortM.SortNone
import Derived.Ground.GgzProg
import Derived.Ground.SlgmProg
import Derived.Test.YtgaeikgoknoamaaGreatProg
import Derived.Deep.RegionHeld3
import Derived.Deep.AppendLies
import Derived.Deep.DrawnRows
import Derived.Test.YtgaeikgoknoamaaGreatKCollec16
set_option linter.unusedVariables false
set_option maxHeartbeats 6400000
set_option maxRecDepth 100000
namespace Go.Proofs.YtgaeikgoknoamaaGreat
open Go.RowKit Go.Maps
attribute [local go_sem ↓] Go.wp_at_zero Go.wp_at_succ
theorem zff:(Tryz.prog.info? 4).map (fun i=>(i.zero,i.size,i.bytes))=some (some (.bool false),1,1):=by kernel_rfl
theorem zw4 {w wr:World} {l:List Sn} {M:Nat→Bool} {k:Nat} (h:wr.ownsRow w.heap.size 4 1 (.slice (some ⟨w.heap.size,0,none⟩) l.length l.length) l.length (lC l.length M)) (hk:k<l.length) (v:Bool):(wr.setCell ⟨w.heap.size,k,none⟩ (.bool v)).ownsRow w.heap.size 4 1 (.slice (some ⟨w.heap.size,0,none⟩) l.length l.length) l.length (lC l.length (iM M k v)):=by
 have:=(h.stored k (.bool v)).1;rwa [zmg hk]at this
theorem wO (a:Option Addr) (c n:Nat) (l:List Sn) (ra:Option Addr) (rc rn:Nat) (rs:List Bs) (w:World) (h:RdS w a l) (hn:n=l.length) (hR:aP l) (hr:aU w ra rs) (hrn:rn=rs.length) (hrl:rs.length≤1048576) :
  Calls Tryz.prog 78 #[.slice a n c,.slice ra rn rc] w fun r w'=>r=.returned (.slice (some ⟨w.heap.size,0,none⟩) l.length l.length)∧(∃ M,w'.ownsRow w.heap.size 4 1 (.slice (some ⟨w.heap.size,0,none⟩) l.length l.length) l.length (lC l.length M)∧∀ i s,l[i]?=some s→M i=dA l rs s)∧Below w.heap.size w w':=by
 subst hn;subst hrn;have hl:=hR.len;obtain ⟨i0,hi0,hz0,hz1,hz2⟩:=info_parts zff;obtain ⟨W0,hmk,hown0,hg0⟩:=run_make_full (P:=Tryz.prog) w w.heap.size 138 4 i0 _ 1 Tryz.underlying138 hi0 hz0 hz1 .i64 .i64 l.length (by rw[hz2];omega) (by unfold maxLen;omega) (Nat.le_refl _)
 have hrow0:(Go.madeCells (Value.bool false).cells (l.length * 1)).toList=lC l.length (iN l (dN rs) 0):=by
  rw[show (Value.bool false).cells=#[Value.bool false] from rfl,Nat.mul_one,toList_madeCells_one,uM]
  unfold lC;rw[List.map_const',List.length_range]
 rw[hrow0]at hown0;have O0:=aA hown0;have B0:=aA (show Below w.heap.size w W0 from (Below.refl _ w).grown hg0 (Nat.le_refl _) (fun k hk=>by cases hk))
 have RD:=aA h;have HRs:=aA hr;have HRT:=aA hR;have hs0:=B0.out.size;clear h hr hR hown0 hg0 hrow0 hi0 hz0 hz1 hz2;go_enter Tryz.func78,Tryz.ntmps78;go_wp2_with fail
 clear hmk;have hgl:w.heap.size<W0.heap.size∨l.length=0:=by
  rcases Nat.eq_zero_or_pos l.length with h0 | h0
  ·exact .inr h0
  ·exact .inl (O0.out.lt w.heap.size rfl).2
 go_loopw [6] (fun i wr=>∃ k:Nat,k≤l.length∧i=.int .i64 k∧Hid (wr.ownsRow w.heap.size 4 1 (.slice (some ⟨w.heap.size,0,none⟩) l.length l.length) l.length (lC l.length (iN l (dN rs) k)))∧Hid (Below w.heap.size w wr)) (fun i _=>l.length - (intOf i).toNat)
 case atStart=>exact ⟨0,Nat.zero_le _,rfl,O0,B0⟩
 case round =>
  obtain ⟨k,hk,rfl,HO,HB⟩:=hrel;by_cases hlt:k<l.length
  ·have hlt':(k:Int)<(l.length:Int):=by omega
   have hk0:¬ (k:Int)<0:=by omega
   obtain ⟨b,off,s,x,cc,rfl,hb,hs,c0,c1,c2,c3,c4,hr⟩:=(RD.out.below HB.out).at hlt;have HX:=aA (uL (q:=dN rs) hs);clear hs hr;have t5:=(HO.out.cellAt k (by omega)).trans (nA hlt)
   have t6:=HO.out.frozenAt k;have fin:∀ v:Bool,v=dN rs s→Hid ((wr.setCell ⟨w.heap.size,k,none⟩ (.bool v)).ownsRow w.heap.size 4 1 (.slice (some ⟨w.heap.size,0,none⟩) l.length l.length) l.length (lC l.length (iN l (dN rs) (k+1))))∧Hid (Below w.heap.size w (wr.setCell ⟨w.heap.size,k,none⟩ (.bool v))):=by
    intro v hv;subst hv;exact ⟨aA (by rw[HX.out];exact zw4 HO.out hlt _),aA (HB.out.setCell (p:=⟨w.heap.size,k,none⟩) (Nat.le_refl _) _)⟩
   have FIN:=aA fin;clear fin;cases hls:s.lease with
   | true =>
    have HV:=aA (show true=dN rs s by simp[dN,hls])
    rw[hls]at c3;go_wp2_with fail
    go_roundw
    case rel =>
     obtain ⟨z1,z2⟩:=FIN.out true HV.out;exact ⟨k+1,by omega,by go_num,z1,z2⟩
    case measure=>simp[intOf];omega
   | false =>
    rw[hls]at c3;by_cases hk1:s.kind=1
    ·have HV:=aA (show true=dN rs s by simp[dN,hk1])
     rw[hk1]at c2;go_wp2_with fail
     go_roundw
     case rel =>
      obtain ⟨z1,z2⟩:=FIN.out true HV.out;exact ⟨k+1,by omega,by go_num,z1,z2⟩
     case measure=>simp[intOf];omega
    ·have HV:=aA (show decide (s.name∈rs)=dN rs s by simp[dN,hls,hk1])
     have hkb:(s.kind==1)=false:=by simpa using hk1
     go_wp2_with fail
     refine (zf4 ra rc rs.length rs s.name wr (HRs.out.below HB.out) rfl (by omega)).mono ?_
     rintro e w2 ⟨rfl,hw2⟩;subst hw2;generalize decide (s.name∈rs)=v at *;go_wp2_with fail
     go_roundw
     case rel =>
      obtain ⟨z1,z2⟩:=FIN.out v HV.out;exact ⟨k+1,by omega,by go_num,z1,z2⟩
     case measure=>simp[intOf];omega
  ·have hlt':¬ (k:Int)<(l.length:Int):=by omega
   rw[wT (by omega)]at HO
   have HD0:=aA (zve HRT.out rs);generalize fX l (dN rs)=M0 at HO HD0;go_wp2_with fail
   go_loopw [7] (fun i wr=>∃ (r:Nat) (M:Nat→Bool),r≤5∧i=.int .i64 r∧Hid (tL l rs r M)∧Hid (wr.ownsRow w.heap.size 4 1 (.slice (some ⟨w.heap.size,0,none⟩) l.length l.length) l.length (lC l.length M))∧Hid (Below w.heap.size w wr)) (fun i _=>5 - (intOf i).toNat)
   case atStart=>exact ⟨0,M0,by omega,rfl,HD0,HO,HB⟩
   case round =>
    obtain ⟨r,M,hr5,rfl,HD,HO1,HB1⟩:=hrel;by_cases hlr:r<5
    ·have hlr':(r:Int)<5:=by omega
     have HS0:=aA HD.out.start;go_wp2_with fail
     go_loopw [8] (fun i wr=>∃ (j:Nat) (N:Nat→Bool),j≤l.length∧i=.int .i64 j∧Hid (nD l rs r j N)∧Hid (wr.ownsRow w.heap.size 4 1 (.slice (some ⟨w.heap.size,0,none⟩) l.length l.length) l.length (lC l.length N))∧Hid (Below w.heap.size w wr)) (fun i _=>l.length - (intOf i).toNat)
     case atStart=>exact ⟨0,M,Nat.zero_le _,rfl,HS0,HO1,HB1⟩
     case round =>
      obtain ⟨j,N,hj,rfl,HS,HO2,HB2⟩:=hrel;by_cases hltj:j<l.length
      ·have hltj':(j:Int)<(l.length:Int):=by omega
       have hj0:¬ (j:Int)<0:=by omega
       obtain ⟨b,off,s,x,cc,rfl,hb,hs,c0,c1,c2,c3,c4,hr⟩:=(RD.out.below HB2.out).at hltj;have HX:=aA hs;clear hs hr;have t5:=(HO2.out.cellAt j (by omega)).trans (nA hltj)
       cases hnj:N j with
       | false =>
        rw[hnj]at t5;have HN:=aA (HS.out.skip HX.out (fun h=>by rw[hnj]at h;cases h))
        clear hnj;go_wp2_with fail
        go_roundw
        case rel=>exact ⟨j+1,N,by omega,by go_num,HN,HO2,HB2⟩
        case measure=>simp[intOf];omega
       | true =>
        rw[hnj]at t5;by_cases hp:s.parent=[]
        ·have hq1:(str s.parent).toList.isEmpty=true:=by rw[hp,ByteArray.toList_eq,aV];rfl
         have HN:=aA (HS.out.skip HX.out (fun _=>znd HRT.out hp))
         clear hnj hp;go_wp2_with fail
         go_roundw
         case rel=>exact ⟨j+1,N,by omega,by go_num,HN,HO2,HB2⟩
         case measure=>simp[intOf];omega
        ·have hq1:(str s.parent).toList.isEmpty=false:=by rw[ByteArray.toList_eq,aV];cases hc:s.parent with | nil=>exact absurd hc hp | cons _ _=>rfl
         obtain ⟨q,hpl⟩:=zmd HRT.out (List.mem_of_getElem? HX.out) hp;have hql:q<l.length:=by
          obtain ⟨y,hy,-⟩:=gW hpl;exact (List.getElem?_eq_some_iff.1 hy).1
         have hql':(q:Int)<(l.length:Int):=by omega
         have hq0:¬ (q:Int)<0:=by omega
         have HN:=aA (HS.out.mark HRT.out HX.out hnj hpl);have HPL:=aA hpl;clear hnj hp hpl;have t7:=(HO2.out.cellAt q (by omega)).trans (nA hql)
         have t8:=HO2.out.frozenAt q;go_wp2_with fail
         refine (fT (some ⟨b,off,none⟩) c l.length l s.parent wr (RD.out.below HB2.out) rfl (by omega)).mono ?_
         rintro e w2 ⟨rfl,hw2⟩;have hw2':=hw2.symm;subst hw2';rw[HPL.out];simp only[cD];go_wp2_with fail
         go_roundw
         case rel=>exact ⟨j+1,iM N q true,by omega,by go_num,HN,aA (zw4 HO2.out hql true),aA (HB2.out.setCell (p:=⟨w.heap.size,q,none⟩) (Nat.le_refl _) _)⟩
         case measure=>simp[intOf];omega
      ·have hltj':¬ (j:Int)<(l.length:Int):=by omega
       have HN:=aA (HS.out.stop HRT.out (by omega))
       go_wp2_with fail
       go_roundw
       case rel=>exact ⟨r+1,N,by omega,by go_num,HN,HO2,HB2⟩
       case measure=>simp[intOf];omega
    ·have hlr':¬ (r:Int)<5:=by omega
     have HN:=aA (HD.out.done HRT.out (by omega))
     go_wp2_with fail
     go_ret
     exact ⟨rfl,⟨M,HO1.out,HN.out⟩,HB1.out⟩
theorem zhh (b0 b1 b2 b3 b4 b5 b6 b7 b8 b9:Bool) (w:World) :
  Sem.run Tryz.prog (Op.equalIn 10000 136 (.agg #[.bool b0,.bool b1,.bool b2,.bool b3,.bool b4,.bool b5,.bool b6,.bool b7,.bool b8,.bool b9]) (.agg #[.bool false,.bool false,.bool false,.bool false,.bool false,.bool false,.bool false,.bool false,.bool false,.bool false])) w=.ok (!(b0||b1||b2||b3||b4||b5||b6||b7||b8||b9)) w:=by
 cases b0 with
 | true=>kernel_rfl
 | false =>
  cases b1 with
  | true=>kernel_rfl
  | false =>
   cases b2 with
   | true=>kernel_rfl
   | false =>
    cases b3 with
    | true=>kernel_rfl
    | false =>
     cases b4 with
     | true=>kernel_rfl
     | false =>
      cases b5 with
      | true=>kernel_rfl
      | false =>
       cases b6 with
       | true=>kernel_rfl
       | false =>
        cases b7 with
        | true=>kernel_rfl
        | false =>
         cases b8 with
         | true=>kernel_rfl
         | false =>
          cases b9 with
          | true=>kernel_rfl
          | false =>
           kernel_rfl
theorem zsi {F:Nat→Bool} (h:(F 0||F 1||F 2||F 3||F 4||F 5||F 6||F 7||F 8||F 9)=false) {i:Nat} (hi:i<10):F i=false:=by
 simp only[Bool.or_eq_false_iff]at h;obtain ⟨⟨⟨⟨⟨⟨⟨⟨⟨h0,h1⟩,h2⟩,h3⟩,h4⟩,h5⟩,h6⟩,h7⟩,h8⟩,h9⟩:=h
 match i,hi with
 | 0,_=>exact h0
 | 1,_=>exact h1
 | 2,_=>exact h2
 | 3,_=>exact h3
 | 4,_=>exact h4
 | 5,_=>exact h5
 | 6,_=>exact h6
 | 7,_=>exact h7
 | 8,_=>exact h8
 | 9,_=>exact h9
def zL (w:World) (b:Nat) (M:Nat→Bool):World:=((((((((((w.setCell ⟨b,0,none⟩ (.bool (M 0))).setCell ⟨b,1,none⟩ (.bool (M 1))).setCell ⟨b,2,none⟩ (.bool (M 2))).setCell ⟨b,3,none⟩ (.bool (M 3))).setCell ⟨b,4,none⟩ (.bool (M 4))).setCell ⟨b,5,none⟩ (.bool (M 5))).setCell ⟨b,6,none⟩ (.bool (M 6))).setCell ⟨b,7,none⟩ (.bool (M 7))).setCell ⟨b,8,none⟩ (.bool (M 8))).setCell ⟨b,9,none⟩ (.bool (M 9)))
theorem zgi (w:World) (b:Nat) (M:Nat→Bool):aE (fun x=>x=b) w (zL w b M) :=
 aE.setCell (S:=fun x=>x=b) (p:=⟨b,9,none⟩) (aE.setCell (S:=fun x=>x=b) (p:=⟨b,8,none⟩) (aE.setCell (S:=fun x=>x=b) (p:=⟨b,7,none⟩) (aE.setCell (S:=fun x=>x=b) (p:=⟨b,6,none⟩) (aE.setCell (S:=fun x=>x=b) (p:=⟨b,5,none⟩) (aE.setCell (S:=fun x=>x=b) (p:=⟨b,4,none⟩) (aE.setCell (S:=fun x=>x=b) (p:=⟨b,3,none⟩) (aE.setCell (S:=fun x=>x=b) (p:=⟨b,2,none⟩) (aE.setCell (S:=fun x=>x=b) (p:=⟨b,1,none⟩) (aE.setCell (S:=fun x=>x=b) (p:=⟨b,0,none⟩) (aE.refl _ w) (fun _=>rfl) (.bool (M 0))) (fun _=>rfl) (.bool (M 1))) (fun _=>rfl) (.bool (M 2))) (fun _=>rfl) (.bool (M 3))) (fun _=>rfl) (.bool (M 4))) (fun _=>rfl) (.bool (M 5))) (fun _=>rfl) (.bool (M 6))) (fun _=>rfl) (.bool (M 7))) (fun _=>rfl) (.bool (M 8))) (fun _=>rfl) (.bool (M 9))
theorem zfh {w:World} {b:Nat} {M:Nat→Bool} (h:eV w b M):(Builtin.clear_ #[138] 0 #[.slice (some ⟨b,0,none⟩) 10 10]).run Tryz.prog w=.ok (.tuple #[]) (zL w b (fun _=>false)):=by
 have h1:=Lib.run_clear_slice (P:=Tryz.prog) w 138 4 0 (.bool false) Tryz.underlying138 (fun _=>by kernel_rfl) rfl rfl b 0 10 10 (by decide) (fun j hj=>by rw[Nat.zero_add,h.1.at hj];rfl) (fun j _=>by rw[Nat.zero_add];exact h.2 j)
 exact h1
theorem zp2 (a:Option Addr) (c n:Nat) (l:List Sn) (ra:Option Addr) (rc rn:Nat) (rs:List Bs) (w:World) (h:RdS w a l) (hn:n=l.length) (hR:aP l) (hr:aU w ra rs) (hrn:rn=rs.length) (hrl:rs.length≤1048576) :
  Calls Tryz.prog 76 #[.slice a n c,.slice ra rn rc] w fun r w'=>r=.returned (tK (fX l (dA l rs)))∧Below w.heap.size w w':=by
 subst hn;subst hrn;have hl:=hR.len;have HRd:=aA h;have HRs:=aA hR;have X4:=aA (eV.new w (fun _=>false) 136)
 have B0:=aA (aC w (.cells #[.bool false,.bool false,.bool false,.bool false,.bool false,.bool false,.bool false,.bool false,.bool false,.bool false] 136));have HC:=aA (zi2 a c l.length l ra rc rs.length rs (w.alloc (.cells #[.bool false,.bool false,.bool false,.bool false,.bool false,.bool false,.bool false,.bool false,.bool false,.bool false] 136)) (h.below B0.out) rfl hl (hr.below B0.out) rfl hrl);unfold tK at HC;have HM0:Hid (yH l rs (fX l (dN rs))):=aA ⟨fun i s hi hh=>by rw[jU hi];exact hh,fun i s hi hm=>by
  rw[jU hi]at hm;exact (iS hR.rise (List.mem_of_getElem? hi)).2 (qZ (List.mem_of_getElem? hi) hm),fun i hi=>qY hi⟩
 generalize fX l (dN rs)=M0 at HC HM0;clear h hr hR;go_enter Tryz.func76,Tryz.ntmps76;go_wp2_with fail
 refine HC.out.mono ?_;rintro e w1 ⟨rfl,hb1⟩;have hz1:w.heap.size<w1.heap.size:=by have:=hb1.size;simp at this;omega
 have B1:=aA (aB B0.out hb1);have X41:=aA (X4.out.below hb1);have A1:=aA (aC w1 (.cells #[.bool (M0 0),.bool (M0 1),.bool (M0 2),.bool (M0 3),.bool (M0 4),.bool (M0 5),.bool (M0 6),.bool (M0 7),.bool (M0 8),.bool (M0 9)] 136));have A2:=aA (aB A1.out (aC _ (.cells #[.bool (M0 0),.bool (M0 1),.bool (M0 2),.bool (M0 3),.bool (M0 4),.bool (M0 5),.bool (M0 6),.bool (M0 7),.bool (M0 8),.bool (M0 9)] 136)));have X5:=aA ((eV.new w1 M0 136).below (aC _ (.cells #[.bool (M0 0),.bool (M0 1),.bool (M0 2),.bool (M0 3),.bool (M0 4),.bool (M0 5),.bool (M0 6),.bool (M0 7),.bool (M0 8),.bool (M0 9)] 136)))
 have X6:=aA (eV.new (w1.alloc (.cells #[.bool (M0 0),.bool (M0 1),.bool (M0 2),.bool (M0 3),.bool (M0 4),.bool (M0 5),.bool (M0 6),.bool (M0 7),.bool (M0 8),.bool (M0 9)] 136)) M0 136);have X42:=aA (X41.out.below A2.out);have B2:=aA (aB B1.out A2.out);simp only[World.size_alloc]at X6;clear hb1 X4 X41 HC A1 B1 B0;go_wp2_with fail
 have hsz2:((w1.alloc (.cells #[.bool (M0 0),.bool (M0 1),.bool (M0 2),.bool (M0 3),.bool (M0 4),.bool (M0 5),.bool (M0 6),.bool (M0 7),.bool (M0 8),.bool (M0 9)] 136)).alloc (.cells #[.bool (M0 0),.bool (M0 1),.bool (M0 2),.bool (M0 3),.bool (M0 4),.bool (M0 5),.bool (M0 6),.bool (M0 7),.bool (M0 8),.bool (M0 9)] 136)).heap.size=w1.heap.size+2:=by simp
 generalize (w1.alloc (.cells #[.bool (M0 0),.bool (M0 1),.bool (M0 2),.bool (M0 3),.bool (M0 4),.bool (M0 5),.bool (M0 6),.bool (M0 7),.bool (M0 8),.bool (M0 9)] 136)).alloc (.cells #[.bool (M0 0),.bool (M0 1),.bool (M0 2),.bool (M0 3),.bool (M0 4),.bool (M0 5),.bool (M0 6),.bool (M0 7),.bool (M0 8),.bool (M0 9)] 136)=W0 at *;have O0:Hid (rC l rs M0 M0):=aA ⟨HM0.out,fun i hi=>hi,fun i s hi hm=>.inl hm⟩
 go_loopg [7] 21 (fun g v wr=>∃ M F:Nat→Bool,Hid (rC l rs M F)∧Hid (eV wr w.heap.size (fun _=>false))∧Hid (eV wr w1.heap.size M)∧Hid (eV wr (w1.heap.size+1) F)∧Hid (Below w.heap.size w wr)∧Hid (w1.heap.size+2≤wr.heap.size)∧Hid (((∀ i,F i=false)∧2 * mL M≤g)∨2 * mL M+1≤g))
 case atStart=>exact ⟨M0,M0,O0,X42,X5,X6,B2,aA (by omega),aA (.inr (by have:=zyf M0;omega))⟩
 case round =>
  obtain ⟨M,F,HO,H4,H5,H6,HB,HS,HG⟩:=hrel;obtain ⟨f0,f1,f2,f3,f4,f5,f6,f7,f8,f9⟩:=H6.out.1;have hEQ:=fun u:World=>zhh (F 0) (F 1) (F 2) (F 3) (F 4) (F 5) (F 6) (F 7) (F 8) (F 9) u
  cases hq:(F 0||F 1||F 2||F 3||F 4||F 5||F 6||F 7||F 8||F 9) with
  | false =>
   rw[hq]at hEQ;have hFa:∀ i,F i=false:=fun i=>by
    by_cases hi:i<10
    ·exact zsi hq hi
    ·cases hqi:F i with
     | false=>rfl
     | true=>have:=HO.out.sub i hqi;rw[HO.out.good.out i (by omega)]at this;cases this
   have HD:Hid (M=fX l (dA l rs)):=aA (by
    funext i
    by_cases hi:i<l.length
    ·obtain ⟨s,hs⟩:∃ s,l[i]?=some s:=⟨_,List.getElem?_eq_getElem hi⟩
     rw[jU hs];exact HO.out.done HRs.out hFa i s hs
    ·rw[qY (by omega)]
     exact HO.out.good.out i (by omega))
   clear hFa hq;obtain ⟨m0,m1,m2,m3,m4,m5,m6,m7,m8,m9⟩:=H5.out.1;obtain ⟨⟨r0,r1,r2,r3,r4,r5,r6,r7,r8,r9⟩,rf⟩:=H4.out;have rf0:=rf 0;have rf1:=rf 1;have rf2:=rf 2;have rf3:=rf 3;have rf4:=rf 4;have rf5:=rf 5;have rf6:=rf 6;have rf7:=rf 7;have rf8:=rf 8;have rf9:=rf 9;have S4:=aA (H4.out.1.set M);clear rf;go_wp2_with fail
   obtain ⟨q0,q1,q2,q3,q4,q5,q6,q7,q8,q9⟩:=S4.out;refine bodyPost_ret (v:=tK M) (by simp[results,Tryz.results76,go_sem,tK,q0,q1,q2,q3,q4,q5,q6,q7,q8,q9]) rfl ⟨by rw[HD.out],((((((((((HB.out.setCell (p:=⟨w.heap.size,0,none⟩) (Nat.le_refl _) _).setCell (p:=⟨w.heap.size,1,none⟩) (Nat.le_refl _) _).setCell (p:=⟨w.heap.size,2,none⟩) (Nat.le_refl _) _).setCell (p:=⟨w.heap.size,3,none⟩) (Nat.le_refl _) _).setCell (p:=⟨w.heap.size,4,none⟩) (Nat.le_refl _) _).setCell (p:=⟨w.heap.size,5,none⟩) (Nat.le_refl _) _).setCell (p:=⟨w.heap.size,6,none⟩) (Nat.le_refl _) _).setCell (p:=⟨w.heap.size,7,none⟩) (Nat.le_refl _) _).setCell (p:=⟨w.heap.size,8,none⟩) (Nat.le_refl _) _).setCell (p:=⟨w.heap.size,9,none⟩) (Nat.le_refl _) _)⟩
  | true =>
   rw[hq]at hEQ;obtain ⟨g',rfl⟩:∃ g',gk=g'+1:=by
    rcases HG.out with ⟨h1,-⟩ | h1
    ·simp[h1]at hq
    ·exact ⟨gk - 1,by omega⟩
   have HG1:Hid (2 * mL M≤g'):=aA (by
    rcases HG.out with ⟨h1,-⟩ | h1
    ·simp[h1]at hq
    ·omega)
   clear HG hq;have A7:=aA (aC wr (.cells #[.bool (F 0),.bool (F 1),.bool (F 2),.bool (F 3),.bool (F 4),.bool (F 5),.bool (F 6),.bool (F 7),.bool (F 8),.bool (F 9)] 136));have X7:=aA (eV.new wr F 136);have X46:=aA (H6.out.below A7.out);have X45:=aA (H5.out.below A7.out);have X44:=aA (H4.out.below A7.out);have B7:=aA (aB HB.out A7.out);have hs7:=HS.out;have hlt7:w1.heap.size+2≤wr.heap.size:=HS.out;go_upto_region 5 with fail
   clear f0 f1 f2 f3 f4 f5 f6 f7 f8 f9 hEQ H4 H5 H6 HB HS A7;generalize wr.alloc (.cells #[.bool (F 0),.bool (F 1),.bool (F 2),.bool (F 3),.bool (F 4),.bool (F 5),.bool (F 6),.bool (F 7),.bool (F 8),.bool (F 9)] 136)=W1 at *;generalize wr.heap.size=b7 at *;have hCL:=zfh X46.out;have S6:=aA (X46.out.1.set (fun _=>false))
   have K6:=aA (zgi W1 (w1.heap.size+1) (fun _=>false))
   have Y6:=aA (show eV (zL W1 (w1.heap.size+1) (fun _=>false)) (w1.heap.size+1) (fun _=>false) from ⟨S6.out,fun i=>by unfold zL;simp only[World.frozen?_setCell];exact X46.out.2 i⟩)
   have Y5:=aA (X45.out.kept K6.out (by omega))
   have Y4:=aA (X44.out.kept K6.out (by omega))
   have Y7:=aA (X7.out.kept K6.out (by omega))
   have BY:=aA (B7.out.trans (K6.out.below (B:=w.heap.size) B7.out.size (fun q hq e=>by omega)))
   have hsY:=K6.out.size;have hl7:=X7.out.lt;clear X44 X45 X46 X7 S6 B7;go_wp2_with fail
   generalize zL W1 (w1.heap.size+1) (fun _=>false)=W2 at *
   clear hCL K6;have I0:=aA (iO.start HO.out);have hb7:b7<W2.heap.size:=by omega
   go_loopw [22] (fun i wx=>∃ (k:Nat) (N G:Nat→Bool),k≤l.length∧i=.int .i64 k∧Hid (iO l rs F N G k)∧Hid (eV wx w.heap.size (fun _=>false))∧Hid (eV wx w1.heap.size N)∧Hid (eV wx (w1.heap.size+1) G)∧Hid (eV wx b7 F)∧Hid (Below w.heap.size w wx)∧Hid (((∀ i,G i=false)∧N=M)∨mL N+1≤mL M)) (fun i _=>l.length - (intOf i).toNat)
   case atStart=>exact ⟨0,M,_,Nat.zero_le _,rfl,I0,Y4,Y5,Y6,Y7,BY,aA (.inl ⟨fun _=>rfl,rfl⟩)⟩
   case round =>
    obtain ⟨k,N,G,hk,rfl,HI,Z4,Z5,Z6,Z7,ZB,ZG⟩:=hrel;by_cases hlt:k<l.length
    ·have hlt':(k:Int)<(l.length:Int):=by omega
     have hk10:k<10:=by omega
     have hk10':(k:Int)<10:=by omega
     have hk0:¬ (k:Int)<0:=by omega
     obtain ⟨b,off,s,x,cc,rfl,hb,hs,c0,c1,c2,c3,c4,hr⟩:=(HRd.out.below ZB.out).at hlt;have HX:=aA hs;clear hs hr;have BA:=aA (aC wr (.cells #[.string (str s.name),.string (str s.parent),.int .i64 s.kind,.bool s.lease,.slice x s.layer.length cc] 42));have F5:=aA (fF.new wr (.string (str s.name)) (.string (str s.parent)) (.int .i64 s.kind) (.bool s.lease) (.slice x s.layer.length cc) 42);obtain ⟨e0,e1,e2,e3,e4⟩:=F5.out;go_upto_region 9 with fail
     have V4:=aA (Z4.out.below BA.out);have V5:=aA (Z5.out.below BA.out);have V6:=aA (Z6.out.below BA.out);have V7:=aA (Z7.out.below BA.out);have VB:=aA (aB ZB.out BA.out);clear c0 c1 c2 c3 c4 F5 Z4 Z5 Z6 Z7 ZB BA;generalize wr.alloc (.cells #[.string (str s.name),.string (str s.parent),.int .i64 s.kind,.bool s.lease,.slice x s.layer.length cc] 42)=V1 at *;generalize wr.heap.size=b9 at *;go_wp2_with fail
     refine (zh7 (some ⟨b,off,none⟩) c l.length l s.parent w V1 VB.out HRd.out rfl (by omega)).mono ?_
     rintro e V2 ⟨rfl,hv2⟩;have U4:=aA (V4.out.below hv2);have U5:=aA (V5.out.below hv2);have U6:=aA (V6.out.below hv2);have U7:=aA (V7.out.below hv2);have UB:=aA (aB VB.out hv2);clear hv2 V4 V5 V6 V7 VB e0 e1 e2 e3 e4;obtain ⟨o,ho⟩:∃ o,o=l.findIdx? (fun y=>y.name==s.parent):=⟨_,rfl⟩
     rw[←ho];have HPO:Hid (plS l s.parent=o):=aA ho.symm;clear ho;have t7:=U7.out.1.at hk10;cases hck:F k with
     | false =>
      rw[hck]at t7;have HN:=aA (HI.out.next HX.out (fun h=>by rw[hck]at h;cases h))
      clear hck;go_wp2_with fail
      go_roundw
      case rel=>exact ⟨k+1,N,G,by omega,by go_num,HN,U4,U5,U6,U7,UB,ZG⟩
      case measure=>simp[intOf];omega
     | true =>
      rw[hck]at t7;have HCK:=aA hck;clear hck;cases o with
      | none =>
       have HN:=aA (HI.out.next HX.out (fun _ j hj=>by rw[HPO.out]at hj;cases hj))
       simp only[cD];go_wp2_with fail
       go_roundw
       case rel=>exact ⟨k+1,N,G,by omega,by go_num,HN,U4,U5,U6,U7,UB,ZG⟩
       case measure=>simp[intOf];omega
      | some j =>
       have hjl:j<l.length:=by
        obtain ⟨y,hy,-⟩:=gW HPO.out;exact (List.getElem?_eq_some_iff.1 hy).1
       have hj10:j<10:=by omega
       have hj10':(j:Int)<10:=by omega
       have hj0:¬ (j:Int)<0:=by omega
       have hj0':(0:Int)≤(j:Int):=by omega
       have t5:=U5.out.1.at hj10;simp only[cD];cases hnj:N j with
       | true =>
        rw[hnj]at t5;have HN:=aA (HI.out.next HX.out (fun _ q hq=>by rw[HPO.out]at hq;cases hq;exact hnj))
        clear hnj;go_wp2_with fail
        go_roundw
        case rel=>exact ⟨k+1,N,G,by omega,by go_num,HN,U4,U5,U6,U7,UB,ZG⟩
        case measure=>simp[intOf];omega
       | false =>
        rw[hnj]at t5;have HOM:=aA (zjd hj10 hnj);have HN:Hid (iO l rs F (upM N j true) (upM G j true) (k+1)):=aA (iO.mark HRs.out HI.out HX.out HCK.out HPO.out);clear hnj;have t5f:=U5.out.2 j;have t6:=U6.out.1.at hj10;have t6f:=U6.out.2 j;go_wp2_with fail
        go_roundw
        case rel =>
         refine ⟨k+1,upM N j true,upM G j true,by omega,by go_num,HN,aA ?_,aA ?_,aA ?_,aA ?_,aA ?_,aA ?_⟩
         ·exact U4.out.kept (aE.setCell (S:=fun q=>q=w1.heap.size∨q=w1.heap.size+1) (p:=⟨w1.heap.size+1,j,none⟩) (aE.setCell (S:=fun q=>q=w1.heap.size∨q=w1.heap.size+1) (p:=⟨w1.heap.size,j,none⟩) (aE.refl _ V2) (fun _=>.inl rfl) _) (fun _=>.inr rfl) _) (by omega)
         ·exact (U5.out.set hj10 true).kept (aE.setCell (S:=fun q=>q=w1.heap.size+1) (p:=⟨w1.heap.size+1,j,none⟩) (aE.refl _ _) (fun _=>rfl) _) (by omega)
         ·exact (U6.out.kept (aE.setCell (S:=fun q=>q=w1.heap.size) (p:=⟨w1.heap.size,j,none⟩) (aE.refl _ V2) (fun _=>rfl) _) (by omega)).set hj10 true
         ·exact U7.out.kept (aE.setCell (S:=fun q=>q=w1.heap.size∨q=w1.heap.size+1) (p:=⟨w1.heap.size+1,j,none⟩) (aE.setCell (S:=fun q=>q=w1.heap.size∨q=w1.heap.size+1) (p:=⟨w1.heap.size,j,none⟩) (aE.refl _ V2) (fun _=>.inl rfl) _) (fun _=>.inr rfl) _) (by omega)
         ·exact (UB.out.setCell (p:=⟨w1.heap.size,j,none⟩) (by simp;omega) _).setCell (p:=⟨w1.heap.size+1,j,none⟩) (by simp;omega) _
         ·refine .inr ?_
          have e1:mL (upM N j true)+1=mL N:=HOM.out;rcases ZG.out with ⟨-,h1⟩ | h1
          ·rw[h1]at e1 ⊢;omega
          ·omega
        case measure=>simp[intOf];omega
    ·have hlt':¬ (k:Int)<(l.length:Int):=by omega
     have HE:=aA (HI.out.stop (by omega))
     go_wp2_with fail
     go_roundg g'
     case measure=>omega
     case rel =>
      refine ⟨N,G,HE,Z4,Z5,Z6,ZB,aA (by have:=Z7.out.lt;omega),aA ?_⟩
      rcases ZG.out with ⟨h1,rfl⟩ | h1
      ·exact .inl ⟨h1,HG1.out⟩
      ·exact .inr (by have:=HG1.out;omega)
def eM (l:List Sn) (rs:List Bs):Int:=if snF l=0 then (if 20<rs.length then 2 else 0) else snF l
theorem oJ {l:List Sn} {rs:List Bs}:eM l rs=0↔aP l∧rs.length≤20:=by
 unfold eM;by_cases h:snF l=0
 ·rw[if_pos h]
  have:=kO.1 h;by_cases h2:20<rs.length
  ·rw[if_pos h2];exact ⟨fun e=>absurd e (by decide),fun e=>absurd e.2 (by omega)⟩
  ·rw[if_neg h2];exact ⟨fun _=>⟨this,by omega⟩,fun _=>rfl⟩
 ·rw[if_neg h];exact ⟨fun e=>absurd e h,fun e=>absurd (kO.2 e.1) h⟩
def Far (u v:Value):Prop:=∀ g,u.ownBlock=some g→v.ownBlock≠some g
theorem Far.symm {u v:Value} (h:Far u v):Far v u:=fun g h1 h2=>h g h2 h1
theorem Far.nil (v:Value) (n c:Nat):Far (.slice none n c) v:=fun g h=>by simp[Value.ownBlock]at h
theorem sM (a:Option Addr) (c n:Nat) (l:List Sn) (ra:Option Addr) (rc rn:Nat) (rs:List Bs) (w:World) (h:RdS w a l) (hn:n=l.length) (hs:bW l) (hrn:rn=rs.length) (hq:eM l rs≠0) :
  Calls Tryz.prog 28 #[.slice a n c,.slice ra rn rc] w fun r w'=>r=.returned (.tuple #[.slice none 0 0,.slice none 0 0,.int .i64 (eM l rs)])∧Below w.heap.size w w':=by
 subst hn;subst hrn;have HC:=aA (iQ a c l.length l w h rfl hs.1 hs);by_cases hz:snF l=0
 ·have hlt:20<rs.length:=by
   rcases Nat.lt_or_ge 20 rs.length with h1 | h1
   ·exact h1
   ·exact absurd (oJ.2 ⟨kO.1 hz,h1⟩) hq
  have hA:eM l rs=2:=by unfold eM;rw[if_pos hz,if_pos hlt]
  rw[hA];rw[hz]at HC;have hlt':(20:Int)<(rs.length:Int):=by omega
  clear h hs hq hz hA;go_enter Tryz.func28,Tryz.ntmps28;go_wp2_with fail
  refine HC.out.mono ?_;rintro r w1 ⟨rfl,hb1⟩;have B1:=aA hb1;clear hb1;go_wp2_with fail
  exact bodyPost_ret (v:=.tuple #[.slice none 0 0,.slice none 0 0,.int .i64 2]) (by simp[results,Tryz.results28,go_sem]) rfl ⟨rfl,B1.out⟩
 ·have hA:eM l rs=snF l:=by unfold eM;rw[if_neg hz]
  rw[hA];obtain ⟨q,hqe⟩:∃ q,q=snF l:=⟨_,rfl⟩;rw[←hqe]at HC hz ⊢;have hqb:(q==0)=false:=by simpa using hz
  clear h hs hq hA hqe;go_enter Tryz.func28,Tryz.ntmps28;go_wp2_with fail
  refine HC.out.mono ?_;rintro r w1 ⟨rfl,hb1⟩;have B1:=aA hb1;clear hb1;go_wp2_with fail
  exact bodyPost_ret (v:=.tuple #[.slice none 0 0,.slice none 0 0,.int .i64 q]) (by simp[results,Tryz.results28,go_sem]) rfl ⟨rfl,B1.out⟩
theorem qC (a:Option Addr) (c n:Nat) (l:List Sn) (ra:Option Addr) (rc rn:Nat) (rs:List Bs) (w:World) (h:RdS w a l) (hn:n=l.length) (hR:aP l) (hs:bW l) (hr:aU w ra rs) (hrn:rn=rs.length) (hrl:rs.length≤20) :
  Calls Tryz.prog 28 #[.slice a n c,.slice ra rn rc] w fun r w'=>∃ x1 c1 x2 c2,r=.returned (.tuple #[.slice x1 (bX l rs).length c1,.slice x2 (kE l rs).length c2,.int .i64 0])∧LN w.heap.size w w' (.slice x1 (bX l rs).length c1) (bX l rs)∧LN w.heap.size w w' (.slice x2 (kE l rs).length c2) (kE l rs)∧Below w.heap.size w w':=by
 subst hn;subst hrn;obtain ⟨i1,ki,kz0,kz1,kz2⟩:=info_parts Tryz.infoSn;have hl:=hR.len;have HC:=aA (iQ a c l.length l w h rfl hs.1 hs);rw[kO.2 hR]at HC;have HM:=aA (fun (u:World) (hu:Below w.heap.size w u)=>zp2 a c l.length l ra rc rs.length rs u (h.below hu) rfl hR (hr.below hu) rfl (by omega))
 unfold tK at HM;have HMO:=aA (fun (i:Nat) (s:Sn) (hi:l[i]?=some s)=>jU (q:=dA l rs) hi)
 generalize fX l (dA l rs)=M at HM HMO;have HRd:=aA h;have hlt':¬ (20:Int)<(rs.length:Int):=by omega
 clear h hR hs hr;go_enter Tryz.func28,Tryz.ntmps28;go_wp2_with fail
 refine HC.out.mono ?_;rintro r w1 ⟨rfl,hb1⟩;have B1:=aA hb1;clear hb1;go_wp2_with fail
 refine (HM.out _ B1.out).mono ?_;rintro r w2 ⟨rfl,hb2⟩;have B2:=aA (aB B1.out (aB hb2 (aC w2 (.cells #[.bool (M 0),.bool (M 1),.bool (M 2),.bool (M 3),.bool (M 4),.bool (M 5),.bool (M 6),.bool (M 7),.bool (M 8),.bool (M 9)] 136))));have X2:=aA (eV.new w2 M 136);have hs2:w.heap.size≤w2.heap.size:=(aB B1.out hb2).size;clear hb2 HM HC;go_wp2_with fail
 generalize w2.alloc (.cells #[.bool (M 0),.bool (M 1),.bool (M 2),.bool (M 3),.bool (M 4),.bool (M 5),.bool (M 6),.bool (M 7),.bool (M 8),.bool (M 9)] 136)=W2 at *;generalize w2.heap.size=b2 at *;have hl2:=X2.out.lt;go_loopw [4,5,23] (fun v4 v5 i wr=>∃ k:Nat,k≤l.length∧i=.int .i64 k∧Hid (LN W2.heap.size w wr v4 ((l.take k).filter (dA l rs)))∧Hid (LN W2.heap.size w wr v5 ((l.take k).filter fun s=>!dA l rs s))∧Hid (Far v4 v5)∧Hid (Below W2.heap.size W2 wr)) (fun _ _ i _=>l.length - (intOf i).toNat)
 case atStart=>exact ⟨0,Nat.zero_le _,rfl,aA (LN.nil _ _ _),aA (LN.nil _ _ _),aA (Far.nil _ _ _),aA (Below.refl _ _)⟩
 case round =>
  obtain ⟨k,hk,rfl,HL,HD,HF,HW⟩:=hrel;have hsz:=HW.out.size;obtain ⟨lv,lc,hv4⟩:=HL.out.shape;subst hv4;obtain ⟨dv,dc,hv5⟩:=HD.out.shape;subst hv5;have hrl1:=List.length_filter_le (dA l rs) (l.take k);have hrl2:=List.length_filter_le (fun s=>!dA l rs s) (l.take k)
  rw[List.length_take]at hrl1 hrl2;by_cases hlt:k<l.length
  ·have hltk:(k:Int)<(l.length:Int):=by omega
   have hk10:k<10:=by omega
   have hk10':(k:Int)<10:=by omega
   have hk0:¬ (k:Int)<0:=by omega
   obtain ⟨b,off,s,x,cc,rfl,hb,he,c0,c1,c2,c3,c4,hr⟩:=(HRd.out.below (aB B2.out HW.out)).at hlt;obtain ⟨b',off',s',x',cc',hbb,hb',he',d0,d1,d2,d3,d4,hr'⟩:=HRd.out.at hlt;simp only[Option.some.injEq,Addr.mk.injEq,and_true]at hbb;obtain ⟨rfl,rfl⟩:=hbb;have:s'=s:=Option.some.inj (he'.symm.trans he);subst this;have d1':=((aB B2.out HW.out).cell (p:=⟨b,off+k * 5+4,none⟩) hb').trans d4;rw[c4]at d1';simp only[Option.some.injEq,Value.slice.injEq,true_and]at d1';obtain ⟨rfl,rfl⟩:=d1';have HX:=aA he;have HRc:=aA hr';have HMk:=aA (HMO.out k s' he);clear he hr hr' he' d0 d1 d2 d3 d4;have BA:=aA (aC wr (.cells #[.string (str s'.name),.string (str s'.parent),.int .i64 s'.kind,.bool s'.lease,.slice x s'.layer.length cc] 42))
   have F5:=aA (fF.new wr (.string (str s'.name)) (.string (str s'.parent)) (.int .i64 s'.kind) (.bool s'.lease) (.slice x s'.layer.length cc) 42);have TX:=aA ((X2.out.below (aB HW.out BA.out)).1.at hk10);rw[HMk.out]at TX;obtain ⟨f0,f1,f2,f3,f4⟩:=F5.out;go_upto_region 10 with fail
   have BB5:=aA (aB HW.out BA.out);have HL1:=aA (HL.out.below BA.out);have HD1:=aA (HD.out.below BA.out);clear c0 c1 c2 c3 c4 HL HD HW BA F5;generalize wr.alloc (.cells #[.string (str s'.name),.string (str s'.parent),.int .i64 s'.kind,.bool s'.lease,.slice x s'.layer.length cc] 42)=W5 at *;generalize wr.heap.size=b9 at *;have hsz5:=BB5.out.size;have hbs:W2.heap.size≤W5.heap.size:=BB5.out.size;have tx:=TX.out;cases hq:dA l rs s' with
   | true =>
    rw[hq]at tx;have HN:=aA (oN HX.out hq);have HO:=aA (nF (f:=fun y=>!dA l rs y) HX.out (by simp[hq]))
    clear hq;obtain ⟨rr,g1,g2,g3⟩:=HL1.out;have G1:=aA g1;have G2:=aA g2;have G3:=aA g3;clear g1 g2 g3;obtain ⟨L,hL⟩:∃ L,L=((l.take k).filter (dA l rs)).length:=⟨_,rfl⟩;rw[←hL]at hrl1 G2 HF ⊢;have HLn:=aA hL;clear hL;have hm1:L+1≤maxLen:=by unfold maxLen;omega
    have hm1':(L+1) * 72≤140737488355328:=by omega
    go_wp2_with (at_builtin;refine eE rfl (.tmp 31) (.tmp 33) 24 rfl W2.heap.size 42 i1 (.agg #[.string ⟨#[]⟩,.string ⟨#[]⟩,.int .i64 0,.bool false,.slice none 0 0]) 5 72 Tryz.underlying24 ki kz0 kz1 kz2 rfl (by decide) _ _ _ rfl G2.out rfl rfl (by intro u hu;simp at hu;rcases hu with rfl | rfl | rfl | rfl | rfl <;> rfl) hm1 hm1' hbs ?_;intro v6 w6 hown6 hk6 hat6;have O6:=aA hown6;have K6:=aA hk6;have A6:=aA hat6;clear hown6 hk6 hat6)
    obtain ⟨av6,cv6,hv6⟩:=aR O6.out;subst hv6;go_roundw
    case rel =>
     refine ⟨k+1,by omega,by go_num,aA ?_,aA ?_,aA ?_,aA ?_⟩
     ·rw[HN.out]
      exact LN.push (s:=s') (a:=x) (c:=cc) G1.out HLn.out G3.out HRc.out O6.out
     ·rw[HO.out]
      obtain ⟨r2,g1,g2,g3⟩:=HD1.out;exact ⟨r2,g1,aK g2 K6.out (fun q hq e=>HF.out q e hq),g3⟩
     ·intro g hg he
      rcases A6.out with h1 | ⟨g2,h1,h2⟩
      ·exact HF.out g (h1.symm.trans hg) he
      ·rw[h1]at hg
       obtain rfl:=Option.some.inj hg;obtain ⟨r2,g1,g2',g3⟩:=HD1.out;have:=(g2'.lt _ he).2;omega
     ·exact BB5.out.trans (K6.out.below (by omega) (fun q hq hS=>by have:=(G2.out.lt q hS).1;omega))
    case measure=>simp[intOf];omega
   | false =>
    rw[hq]at tx;have HO:=aA (nF (f:=dA l rs) HX.out hq);have HN:=aA (oN (f:=fun y=>!dA l rs y) HX.out (by simp[hq]))
    clear hq;obtain ⟨rr,g1,g2,g3⟩:=HD1.out;have G1:=aA g1;have G2:=aA g2;have G3:=aA g3;clear g1 g2 g3;obtain ⟨L,hL⟩:∃ L,L=((l.take k).filter fun y=>!dA l rs y).length:=⟨_,rfl⟩
    rw[←hL]at hrl2 G2 HF ⊢;have HLn:=aA hL;clear hL;have hm1:L+1≤maxLen:=by unfold maxLen;omega
    have hm1':(L+1) * 72≤140737488355328:=by omega
    go_wp2_with (at_builtin;refine eE rfl (.tmp 35) (.tmp 37) 24 rfl W2.heap.size 42 i1 (.agg #[.string ⟨#[]⟩,.string ⟨#[]⟩,.int .i64 0,.bool false,.slice none 0 0]) 5 72 Tryz.underlying24 ki kz0 kz1 kz2 rfl (by decide) _ _ _ rfl G2.out rfl rfl (by intro u hu;simp at hu;rcases hu with rfl | rfl | rfl | rfl | rfl <;> rfl) hm1 hm1' hbs ?_;intro v6 w6 hown6 hk6 hat6;have O6:=aA hown6;have K6:=aA hk6;have A6:=aA hat6;clear hown6 hk6 hat6)
    obtain ⟨av6,cv6,hv6⟩:=aR O6.out;subst hv6;go_roundw
    case rel =>
     refine ⟨k+1,by omega,by go_num,aA ?_,aA ?_,aA ?_,aA ?_⟩
     ·rw[HO.out]
      obtain ⟨r2,g1,g2,g3⟩:=HL1.out;exact ⟨r2,g1,aK g2 K6.out (fun q hq e=>HF.out q hq e),g3⟩
     ·rw[HN.out]
      exact LN.push (s:=s') (a:=x) (c:=cc) G1.out HLn.out G3.out HRc.out O6.out
     ·refine Far.symm ?_
      intro g hg he;rcases A6.out with h1 | ⟨g2,h1,h2⟩
      ·exact HF.out g he (h1.symm.trans hg)
      ·rw[h1]at hg
       obtain rfl:=Option.some.inj hg;obtain ⟨r2,g1,g2',g3⟩:=HL1.out;have:=(g2'.lt _ he).2;omega
     ·exact BB5.out.trans (K6.out.below (by omega) (fun q hq hS=>by have:=(G2.out.lt q hS).1;omega))
    case measure=>simp[intOf];omega
  ·have hltk:¬ (k:Int)<(l.length:Int):=by omega
   have HE:=aA (show l.take k=l from List.take_of_length_le (by omega))
   rw[HE.out]at HL HD ⊢;clear HE;have BE:=aA (aB B2.out HW.out);have hsB:=B2.out.size;go_wp2_with fail
   exact bodyPost_ret (v:=.tuple #[.slice lv (l.filter (dA l rs)).length lc,.slice dv (l.filter fun s=>!dA l rs s).length dc,.int .i64 0]) (by simp[results,Tryz.results28,go_sem]) rfl ⟨lv,lc,dv,dc,rfl,HL.out.mono hsB,HD.out.mono hsB,BE.out⟩
end Go.Proofs.YtgaeikgoknoamaaGreat
namespace Go.Proofs.YtgaeikgoknoamaaGreat
open Go.RowKit
def zs4 (d:Int) (zs:List Int):Int :=
 if 0≤d∧d≤4294967295 then (if 1≤zs.length∧zs.length≤8 then (if nT zs=d then 0 else 6) else 2) else 3
def zzg (D:Nat→Int) (P:Nat→List Int) (i:Nat):Option Int :=
 if zs4 (D i) (P i)≠0 then some (zs4 (D i) (P i)) else if 0<i∧D i≤D (i - 1) then some 1 else none
def zo3 (f:Nat→Option Int):Nat→Nat→Int
 | _,0=>0
 | i,m+1=>match f i with | some c=>c | none=>zo3 f (i+1) m
def zij (D:Nat→Int) (P:Nat→List Int) (n:Nat):Int:=if 40<n then 2 else zo3 (zzg D P) 0 n
end Go.Proofs.YtgaeikgoknoamaaGreat
namespace Go.Proofs.YtgaeikgoknoamaaGreat
open Go.RowKit Go.Maps
abbrev Ch:=Int × List Int
def zcj (L:List Ch) (k:Int):List Int:=((L.find? fun p=>p.1==k).map Prod.snd).getD []
def zfj (L:List Ch) (ks:List Int):List Ch:=ks.map fun k=>(k,zcj L k)
def zhi (L:List Ch):List Int:=(L.map Prod.fst).mergeSort fun x y=>decide (x≤y)
def up (L:List Ch):List Ch:=zfj L (zhi L)
end Go.Proofs.YtgaeikgoknoamaaGreat
namespace Go.Proofs.YtgaeikgoknoamaaGreat
open Go.RowKit Go.Maps
attribute [local go_sem ↓] Go.wp_at_zero Go.wp_at_succ
theorem zM {P:Program} {w:World} {ops:Array Oper} {o:Oper} {a:Act} {K:Act→World→Prop} {Q:Exit→Act→World→Prop} {E:Prop} (hgd:o.guard=none) (s x:Operand) (t:TypeId)
  (ho:o.op=.call { callee:=.builtin .append,args:=#[s,x],argTypes:=#[t,t] })
  (base:Nat) (e:TypeId) (i:TypeInfo) (z:Value) (size bytes:Nat) (ht:P.underlying t=some (.slice e)) (hi:P.info? e=some i) (hz:i.zero=some z)
  (hsize:i.size=size) (hby:i.bytes=bytes) (hzs:z.cells.size=size) (hsz:0<size)
  (v:Value) (n:Nat) (xs:List Value) (hs:a.eval s=v) (hown:w.ownsRow base e size v n xs)
  (ad:Addr) (m c:Nat) (news:List Value) (hx:a.eval x=.slice (some ad) m c) (hl:news.length=m * size) (hnews:∀ j u,news[j]?=some u→w.cell? (ad.add j)=some u) (h1:∀ u∈news,u.oneCell'=true)
  (N:Nat) (hN:n+m=N) (h63:n+m≤maxLen) (hbytes:(n+m) * bytes≤140737488355328) (hbase:base≤w.heap.size)
  (h:∀ av cv w',w'.ownsRow base e size (.slice av N cv) N (xs++news)→aE (fun b=>v.ownBlock=some b) w w'→K (a.put o.dst (.slice av N cv)) w') :
  if Region.wanted o (yielded ops a.tmps)=true then Oper.wp P o a w K Q else E:=by
 have hw:Region.wanted o (yielded ops a.tmps)=true:=by simp[Region.wanted,hgd]
 rw[if_pos hw];refine wp_append_own w s x t ho base e i z size bytes ht hi hz hsize hby hzs hsz v n xs hs hown ad m c news hx hl hnews h1 h63 hbytes hbase fun v' w' h2 h3 _=>?_
 rw[hN]at h2;obtain ⟨av,cv,rfl⟩:=aR h2;exact h av cv w' h2 ⟨h3.os,h3.tape,h3.output,h3.size,fun q hq hn=>h3.block q hq (fun e=>hn e.symm)⟩
theorem zaj {w:World} {g:Nat} {p:ByteArray} (h:w.cell? ⟨g,0,none⟩=some (.string p)):∀ j u,[Value.string p][j]?=some u→w.cell? ((⟨g,0,none⟩:Addr).add j)=some u:=by
 intro j u hj;cases j with
 | zero =>
  simp only[List.getElem?_cons_zero,Option.some.injEq]at hj;subst hj;exact h
 | succ j=>simp at hj
theorem Box.set1 {w:World} {b:Nat} {u v:Value} (h:Box w b u v) (v':Value):Box (w.setCell ⟨b,1,none⟩ v') b u v' :=
 ⟨⟨(aD (by simp)).trans h.1.1,bK h.1.2⟩,by simpa using h.2.1,by simpa using h.2.2⟩
theorem pK (a:Option Addr) (c n:Nat) (l:List Sn) (ra:Option Addr) (rc rn:Nat) (rs:List Bs) (w:World) (h:RdS w a l) (hn:n=l.length) (hs:bW l) (hg:oH l) (hrn:rn=rs.length) :
  Calls Tryz.prog 31 #[.slice a n c,.slice ra rn rc] w fun r w'=>r=.returned (.int .i64 (eM l rs))∧Below w.heap.size w w':=by
 subst hn;subst hrn;have HC:=aA (iH a c l.length l w h rfl hs.1 hs);rw[zl5 hg]at HC;clear h hs hg;by_cases h0:snF l=0
 ·by_cases h20:20<rs.length
  ·have hA:eM l rs=2:=by unfold eM;rw[if_pos h0,if_pos h20]
   have h20':(20:Int)<(rs.length:Int):=by omega
   rw[hA];rw[h0]at HC;clear hA h0;go_enter Tryz.func31,Tryz.ntmps31;go_wp2_with fail
   refine HC.out.mono ?_;rintro r w1 ⟨rfl,hb1⟩;have B1:=aA hb1;clear hb1 HC;go_wp2_with fail
   go_ret
   exact ⟨rfl,B1.out⟩
  ·have hA:eM l rs=0:=by unfold eM;rw[if_pos h0,if_neg h20]
   have h20':¬ (20:Int)<(rs.length:Int):=by omega
   rw[hA];rw[h0]at HC;clear hA h0;go_enter Tryz.func31,Tryz.ntmps31;go_wp2_with fail
   refine HC.out.mono ?_;rintro r w1 ⟨rfl,hb1⟩;have B1:=aA hb1;clear hb1 HC;go_wp2_with fail
   go_ret
   exact ⟨rfl,B1.out⟩
 ·have hA:eM l rs=snF l:=by unfold eM;rw[if_neg h0]
  rw[hA];clear hA;obtain ⟨q,hq⟩:∃ q,q=snF l:=⟨_,rfl⟩;rw[←hq]at HC h0 ⊢;have hqb:(q==0)=false:=by simpa using h0
  clear hq;go_enter Tryz.func31,Tryz.ntmps31;go_wp2_with fail
  refine HC.out.mono ?_;rintro r w1 ⟨rfl,hb1⟩;have B1:=aA hb1;clear hb1 HC;go_wp2_with fail
  go_ret
  exact ⟨rfl,B1.out⟩
theorem sZ (a:Option Addr) (c n:Nat) (l:List Sn) (ra:Option Addr) (rc rn:Nat) (rs:List Bs) (w:World) (h:RdS w a l) (hn:n=l.length) (hs:bW l) (hg:oH l) (hrn:rn=rs.length) (hq:eM l rs≠0) :
  Calls Tryz.prog 10 #[.slice a n c,.slice ra rn rc] w (zm8 (eM l rs) w):=by
 subst hn;subst hrn;have X0:=aA (dE.new w (.int .i64 0) (.int .i64 0) (.slice none 0 0) 29);have B0:=aA (aC w (.cells #[.int .i64 0,.int .i64 0,.slice none 0 0] 29));have HC:=aA (pK a c l.length l ra rc rs.length rs _ (h.below B0.out) rfl hs hg rfl);obtain ⟨q,hqe⟩:∃ q,q=eM l rs:=⟨_,rfl⟩;rw[←hqe]at HC hq ⊢;have hqb:(q==0)=false:=by simpa using hq
 clear h hs hg hqe;go_enter Tryz.func10,Tryz.ntmps10;go_wp2_with fail
 refine HC.out.mono ?_;rintro r w1 ⟨rfl,hb1⟩;have B1:=aA (aB B0.out hb1);obtain ⟨⟨t0,t1,t2⟩,t3,t4,t5⟩:=X0.out.below hb1;clear hb1;go_wp2_with fail
 exact bodyPost_ret (v:=.agg #[.int .i64 q,.int .i64 0,.slice none 0 0]) (by simp[results,Tryz.results10,go_sem,t0,t1,t2]) rfl (zm8.of (Nat.le_refl _) B1.out)
theorem zu6 (a:Option Addr) (c n:Nat) (l:List Sn) (ra:Option Addr) (rc rn:Nat) (rs:List Bs) (w:World) (h:RdS w a l) (hn:n=l.length) (hR:aP l) (hs:bW l) (hr:aU w ra rs) (hrn:rn=rs.length) (hrl:rs.length≤20) :
  Calls Tryz.prog 37 #[.slice a n c,.slice ra rn rc,.bool true] w (mD 0 ((bX l rs).map Sn.name) w):=by
 subst hn;subst hrn;obtain ⟨i1,ki,kz0,kz1,kz2⟩:=info_parts mI;have hl:=hR.len;have X0:=aA (Box.new w (.int .i64 0) (.slice none 0 0) 32);have B0:=aA (aC w (.cells #[.int .i64 0,.slice none 0 0] 32));have HC:=aA (pK a c l.length l ra rc rs.length rs _ (h.below B0.out) rfl hs (fun s hs=>by rw[mZ.2 (dM.1 (hR.own s hs).2.2),(hR.own s hs).2.2]) rfl)
 rw[oJ.2 ⟨hR,hrl⟩]at HC;have RD:=aA h;have HRs:=aA hr;have HRT:=aA hR;clear h hr hR hs;go_enter Tryz.func37,Tryz.ntmps37;go_wp2_with fail
 refine HC.out.mono ?_;rintro r w1 ⟨rfl,hb1⟩;have hz1:w.heap.size<w1.heap.size:=by have:=hb1.size;simp at this;omega
 have A1:=aA (aC w1 (.cells #[.int .i64 0,.slice none 0 0] 32));have X8:=aA (Box.new w1 (.int .i64 0) (.slice none 0 0) 32);have B1:=aA (aB B0.out (aB hb1 A1.out));have X1:=aA (X0.out.below (aB hb1 A1.out));clear hb1 HC X0 B0 A1;go_wp2_with fail
 have hw2:(w1.alloc (.cells #[.int .i64 0,.slice none 0 0] 32)).heap.size=w1.heap.size+1:=by simp
 generalize w1.alloc (.cells #[.int .i64 0,.slice none 0 0] 32)=W2 at *;generalize w1.heap.size=b8 at *;have HW2:=aA hw2;clear hw2;refine (wO a c l.length l ra rc rs.length rs W2 (RD.out.below B1.out) rfl HRT.out (HRs.out.below B1.out) rfl (by omega)).mono ?_
 rintro r w3 ⟨rfl,⟨M,hM,hML⟩,hb3⟩;have HM:=aA hM;have HML:=aA hML;have B3:=aA (aB B1.out hb3);have X13:=aA (X1.out.below hb3);have X83:=aA (X8.out.below hb3);have hs3:=hb3.size;have h83:b8<w3.heap.size:=X83.out.1.lt;have hg2:∀ g,(Value.slice (some ⟨W2.heap.size,0,none⟩) l.length l.length).ownBlock=some g→g≠b8:=fun g hg e=>by
  have h1:=HW2.out;simp[Value.ownBlock]at hg
  omega
 have HG2:=aA hg2;clear hM hML hb3 X1 X8 hg2;go_wp2_with fail
 go_loopw [10] (fun i wr=>∃ (k:Nat) (va:Option Addr) (vc:Nat),k≤l.length∧i=.int .i64 k∧Hid (bR w3.heap.size wr (.slice va (((l.take k).filter (dA l rs)).map Sn.name).length vc) (((l.take k).filter (dA l rs)).map Sn.name))∧Hid (Box wr b8 (.int .i64 0) (.slice va (((l.take k).filter (dA l rs)).map Sn.name).length vc))∧Hid (aE (fun b=>b=b8) w3 wr)) (fun i _=>l.length - (intOf i).toNat)
 case atStart=>exact ⟨0,none,0,Nat.zero_le _,rfl,aA (bR.nil _ _),X83,aA (aE.refl _ _)⟩
 case round =>
  obtain ⟨k,va,vc,hk,rfl,HO,HX,HK⟩:=hrel;have hszK:=HK.out.size;have BK:=aA (show Below w.heap.size w wr from B3.out.trans (HK.out.below (B:=w.heap.size) B3.out.size (fun b hb e=>by omega)))
  by_cases hlt:k<l.length
  ·have hlt':(k:Int)<(l.length:Int):=by omega
   have hk0:¬ (k:Int)<0:=by omega
   obtain ⟨b,off,s,x,cc,rfl,hb,hs,c0,c1,c2,c3,c4,hr⟩:=(RD.out.below BK.out).at hlt;have HS:=aA hs;have hMk:=HML.out k s hs;clear hs hr c1 c2 c3 c4;have t5:=((aK HM.out HK.out (fun g hg e=>HG2.out g hg e)).cellAt k (by omega)).trans (nA hlt)
   rw[hMk]at t5;cases hq:dA l rs s with
   | false =>
    rw[hq]at t5;have HN:=aA (nF (f:=dA l rs) HS.out hq);clear hq hMk;go_wp2_with fail
    go_roundw
    case rel=>exact ⟨k+1,va,vc,by omega,by go_num,by rw[HN.out];exact HO,by rw[HN.out];exact HX,HK⟩
    case measure=>simp[intOf];omega
   | true =>
    rw[hq]at t5;have HN:=aA (show ((l.take (k+1)).filter (dA l rs)).map Sn.name=((l.take k).filter (dA l rs)).map Sn.name ++ [s.name] by rw[oN HS.out hq,List.map_append];rfl)
    clear hq hMk;have hfl:(((l.take k).filter (dA l rs)).map Sn.name).length≤10:=by
     rw[List.length_map];exact Nat.le_trans (List.length_filter_le ..) (by rw[List.length_take];omega)
    generalize ((l.take k).filter (dA l rs)).map Sn.name=F at *;have hm1:F.length+1≤maxLen:=by unfold maxLen;omega
    have hm2:(F.length+1) * 16≤140737488355328:=by omega
    have h8:b8<wr.heap.size:=HX.out.1.lt;have hfo:∀ g,(Value.slice va F.length vc).ownBlock=some g→w3.heap.size≤g:=fun g hg=>(HO.out.lt g hg).1
    obtain ⟨⟨x0,x1⟩,x2,x3⟩:=HX.out;go_upto_region 10 with fail
    clear t5;go_region_law
     ((refine zM (by rfl) (.tmp 35) (.tmp 41) 25 (by rfl) w3.heap.size 9 i1 (.string ⟨#[]⟩) 1 16 Tryz.underlying25 ki kz0 kz1 kz2 rfl (by decide) (.slice va F.length vc) F.length (F.map vS) (by rfl) (show _ from (show wr.ownsRow _ _ _ _ _ _ from HO.out).alloc _) ⟨wr.heap.size,0,none⟩ 1 1 [.string (str s.name)] (by rfl) (by rfl) (zaj (by simp)) (by intro u hu;simp at hu;subst hu;rfl) (F.length+1) rfl hm1 hm2 (by simp;omega) ?_;intro a' c' w5 hrow5 hk5;have O5:=aA hrow5;have K5:=aA hk5;have X5:=aA (((HX.out.below (Below.refl _ _).drew).below (aC _ _)).kept hk5 (fun e=>by have:=hfo _ e;omega));clear hrow5 hk5;obtain ⟨⟨y0,y1⟩,y2,y3⟩:=X5.out))
    all_goals
     have BA:=aA ((aC wr (.cells #[.string (str s.name)] 9)).drew);have hk6:=aE.setCell (S:=fun x=>x=b8) (p:=⟨b8,1,none⟩) (aE.refl _ w5) (fun _=>rfl) (.slice a' (F.length+1) c')
     have O6:Hid (bR w3.heap.size w5 (.slice a' (F.length+1) c') (F ++ [s.name])):=aA (bR.snoc O5.out rfl);have O7:=aA (O6.out.kept hk6 (fun g hg e=>by have:=(O6.out.lt g hg).1;omega))
     have X7:=aA (X5.out.set1 (.slice a' (F.length+1) c'));have K7:=aA (show aE (fun b=>b=b8) w3 (w5.setCell ⟨b8,1,none⟩ (.slice a' (F.length+1) c')) from (HK.out.trans_own ((aE.of_below (S:=fun g=>(Value.slice va F.length vc).ownBlock=some g) BA.out).trans K5.out) (fun g hg e=>by have:=hfo g e;omega)).trans hk6)
     clear x0 x1 x2 x3 y0 y1 y2 y3 hk6 O6 X5 K5 O5 BA;generalize w5.setCell ⟨b8,1,none⟩ (.slice a' (F.length+1) c')=W6 at *;go_wp2_with fail
     go_roundw
     case rel=>exact ⟨k+1,a',c',by omega,by go_num,by rw[HN.out];simpa using O7,by rw[HN.out];simpa using X7,K7⟩
     case measure=>simp[intOf];omega
  ·have hlt':¬ (k:Int)<(l.length:Int):=by omega
   have HE:=aA (show l.take k=l from List.take_of_length_le (by omega))
   rw[HE.out]at HO HX;clear HE;have X9:=aA (X13.out.kept HK.out (by omega))
   obtain ⟨⟨x0,x1⟩,x2,x3⟩:=HX.out;obtain ⟨⟨t0,t1⟩,t2,t3⟩:=X9.out;go_wp2_with fail
   exact bodyPost_ret (v:=.agg #[.int .i64 0,.slice va ((l.filter (dA l rs)).map Sn.name).length vc]) (by simp[results,Tryz.results37,go_sem,t0,t1]) rfl (mD.of (B:=w3.heap.size) (by omega) (Nat.le_refl _) rfl HO.out BK.out)
end Go.Proofs.YtgaeikgoknoamaaGreat
