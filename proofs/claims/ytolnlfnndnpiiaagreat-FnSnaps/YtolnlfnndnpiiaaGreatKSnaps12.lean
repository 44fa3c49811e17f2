/-
  Texts put together: TreB TreM TreR EntH TreN TreC TreD SeeS SeeT EntY EntT.
-/
import Derived.Test.YtolnlfnndnpiiaaGreatKSnaps8
import Derived.Test.YtolnlfnndnpiiaaGreatKSnaps4
import Derived.Shelf.Abstract
import Derived.Test.YtolnlfnndnpiiaaGreatKSnaps2
import Derived.Test.YtolnlfnndnpiiaaGreatKSnaps1
import Derived.Test.YtolnlfnndnpiiaaGreatKSnaps5
import Derived.Test.YtolnlfnndnpiiaaGreatKSnaps6
import Derived.Test.YtolnlfnndnpiiaaGreatKSnaps11
import Derived.Test.YtolnlfnndnpiiaaGreatKSnaps10
set_option linter.unusedVariables false
set_option maxHeartbeats 3200000
set_option maxRecDepth 100000
namespace Go.Proofs.YtolnlfnndnpiiaaGreat
open Go.RowKit Go.Maps
attribute [local go_sem ↓] Go.wp_at_zero Go.wp_at_succ
theorem zh0 (a:Option Addr) (c n:Nat) (es:List En) (fn:FuncId) (cap:Array Value) (f:En→Bool) (w:World) (h:RdI w a es) (hn:n=es.length) (hl:es.length≤1048576) (hs:aV es) (hf:mY w fn cap f) :
  Calls Tryz.prog 128 #[.slice a n c,.func (.func fn) #[] cap] w fun r w'=>r=.returned (.bool (es.any f))∧Below w.heap.size w w':=by
 subst hn;have HC:=aA (zqg a c es.length es fn cap f w h rfl hl hs hf);clear h hf hs;go_enter Tryz.func128,Tryz.ntmps128;go_wp2_with fail
 refine HC.out.mono ?_;rintro r w1 ⟨(⟨e,x,cc,hq,rfl,-⟩ | ⟨hq,rfl⟩),hb1⟩
 ·have HA:=aA (show es.any f=true from List.any_eq_true.2 ⟨e,List.mem_of_find?_eq_some hq,List.find?_some hq⟩)
  have B1:=aA hb1;clear hb1 hq;go_wp2_with fail
  go_ret
  exact ⟨bQ HA.out.symm,aB B1.out (aC _ _)⟩
 ·have HA:=aA (show es.any f=false from List.any_eq_false.2 (fun x hx=>List.find?_eq_none.1 hq x hx))
  have B1:=aA hb1;clear hb1 hq;go_wp2_with fail
  go_ret
  exact ⟨bQ HA.out.symm,aB B1.out (aC _ _)⟩
theorem zjg {es:List En} {f:En→Bool} {k:Nat} {e:En} (he:es[k]?=some e) (h:f e=true):(es.take (k+1)).filter f=(es.take k).filter f ++ [e]:=by
 rw[bY he,List.filter_append];simp[h]
theorem zld {es:List En} {f:En→Bool} {k:Nat} {e:En} (he:es[k]?=some e) (h:f e=false):(es.take (k+1)).filter f=(es.take k).filter f:=by
 rw[bY he,List.filter_append];simp[h]
theorem zl5 (a:Option Addr) (c n:Nat) (es:List En) (fn:FuncId) (cap:Array Value) (f:En→Bool) (w:World) (h:RdI w a es) (hn:n=es.length) (hl:es.length≤1048576) (hs:aV es) (hf:mY w fn cap f) :
  Calls Tryz.prog 180 #[.slice a n c,.func (.func fn) #[] cap] w fun r w'=>∃ av cv,r=.returned (.slice av (es.filter f).length cv)∧LI w w' (.slice av (es.filter f).length cv) (es.filter f)∧Below w.heap.size w w':=by
 subst hn;obtain ⟨i1,ki,kz0,kz1,kz2⟩:=info_parts Tryz.infoIt;have eg:=hf.1;have HF:=aA hf;have HR:=aA h;have HS:=aA hs;clear h hf hs;go_enter Tryz.func180,Tryz.ntmps180;go_wp2_with fail
 go_loopw [5,10] (fun v i wr=>∃ k:Nat,k≤es.length∧i=.int .i64 k∧Hid (LI w wr v ((es.take k).filter f))∧Hid (Below w.heap.size w wr)) (fun _ i _=>es.length - (intOf i).toNat)
 case atStart=>exact ⟨0,Nat.zero_le _,rfl,aA (LI.nil _ _),aA (Below.refl _ _)⟩
 case round =>
  obtain ⟨k,hk,rfl,HL,HW⟩:=hrel;have hsz:=HW.out.size;obtain ⟨lv,lc,hv⟩:=HL.out.shape;subst hv;have hrl:=List.length_filter_le f (es.take k);rw[List.length_take]at hrl;by_cases hlt:k<es.length
  ·obtain ⟨b,off,e,x,cc,rfl,hb,he,c0,c1,c2,c3,hr⟩:=(HR.out.below HW.out).at hlt
   obtain ⟨b',off',e',x',cc',hbb,hb',he',d0,d1,d2,d3,hr'⟩:=HR.out.at hlt;simp only[Option.some.injEq,Addr.mk.injEq,and_true]at hbb;obtain ⟨rfl,rfl⟩:=hbb;have:e'=e:=Option.some.inj (he'.symm.trans he);subst this;have d1':=(HW.out.cell (p:=⟨b,off+k * 4+1,none⟩) hb').trans d1;rw[c1]at d1';simp only[Option.some.injEq,Value.slice.injEq,true_and]at d1';obtain ⟨rfl,rfl⟩:=d1';have hsm:=HS.out e' (List.mem_of_getElem? he);have HX:=aA he;have HRc:=aA hr';clear he hr hr' he' d0 d1 d2 d3;have BA:=aA (aC wr (.cells #[.int .i64 e'.size,.slice x e'.chunks.length cc,.string (str e'.path),.int .i64 e'.kind] 88))
   have F4:=aA (cI.new wr (.int .i64 e'.size) (.slice x e'.chunks.length cc) (.string (str e'.path)) (.int .i64 e'.kind) 88);go_wp2_with fail
   refine (HF.out.2 e' x cc _ hsm.1 hsm.2 (HRc.out.below (aB HW.out BA.out)) (aB HW.out BA.out)).mono ?_;rintro r w3 ⟨rfl,hb3⟩;have BB5:=aA (aB BA.out hb3);obtain ⟨f0,f1,f2,f3⟩:=F4.out.below hb3;clear hb3 c0 c1 c2 c3;cases hq:f e'
   ·have HN:=aA (zld HX.out hq)
    clear hq;go_wp2_with fail
    go_roundw
    case rel=>exact ⟨k+1,by omega,by go_num,aA (by rw[HN.out];exact HL.out.below BB5.out),aA (aB HW.out BB5.out)⟩
    case measure=>simp[intOf];omega
   ·have HN:=aA (zjg HX.out hq)
    clear hq;obtain ⟨rs,g1,g2,g3⟩:=HL.out;have G1:=aA g1;have G2:=aA (aI g2 BB5.out);have G3:=aA g3;clear g1 g2 g3;obtain ⟨L,hL⟩:∃ L,L=((es.take k).filter f).length:=⟨_,rfl⟩;rw[←hL]at hrl G2 ⊢;have HLn:=aA hL;clear hL;have hm1:L+1≤maxLen:=by unfold maxLen;omega
    have hm1':(L+1) * 56≤140737488355328:=by omega
    have hsz5:=BB5.out.size;go_wp2_with (at_builtin;refine dB rfl (.tmp 17) (.tmp 19) 116 rfl w.heap.size 88 i1 (.agg #[.int .i64 0,.slice none 0 0,.string ⟨#[]⟩,.int .i64 0]) 4 56 Tryz.underlying116 ki kz0 kz1 kz2 rfl (by decide) _ _ _ rfl G2.out _ rfl rfl rfl (by intro u hu;simp at hu;rcases hu with rfl | rfl | rfl | rfl <;> rfl) hm1 hm1' (by omega) ?_;intro av6 cv6 w6 hown6 hk6;have O6:=aA hown6;have K6:=aA hk6;clear hown6 hk6)
    go_roundw
    case rel =>
     refine ⟨k+1,by omega,by go_num,aA ?_,aA ?_⟩
     ·rw[HN.out]
      exact LI.push (e:=e') (a:=x) (c:=cc) G1.out HLn.out G3.out HRc.out O6.out
     ·exact (aB HW.out BB5.out).trans (K6.out.below (by omega) (fun q hq hS=>by have:=(G2.out.lt q hS).1;omega))
    case measure=>simp[intOf];omega
  ·have HE:=aA (show es.take k=es from List.take_of_length_le (by omega))
   rw[HE.out]at HL ⊢;clear HE;go_wp2_with fail
   go_ret
   exact ⟨lv,lc,rfl,HL.out,HW.out⟩
theorem zpa (p:Bs) (b:Nat) (e:En) (a:Option Addr) (c:Nat) (w:World) (h:w.cell? ⟨b,0,none⟩=some (.string (str p))) :
  Calls Tryz.prog 251 #[.agg #[.int .i64 e.size,.slice a e.chunks.length c,.string (str e.path),.int .i64 e.kind],.pointer (some ⟨b,0,none⟩)] w fun r w'=>r=.returned (.bool (decide (e.path=p)))∧Below w.heap.size w w':=by
 have hb:=World.block_lt_of_cell? w ⟨b,0,none⟩ h;have hs:=rB e.path p;generalize decide (e.path=p)=Z at *;have hbw:(w.alloc (.cells #[.int .i64 e.size,.slice a e.chunks.length c,.string (str e.path),.int .i64 e.kind] 88)).cell? ⟨b,0,none⟩=some (.string (str p)):=((aC w _).cell (p:=⟨b,0,none⟩) hb).trans h;go_enter Tryz.func251,Tryz.ntmps251;go_wp2_with fail
 go_ret
 exact ⟨rfl,aC _ _⟩
theorem zl7 (p:Bs) (w:World) :
  Calls Tryz.prog 223 #[.string (str p)] w fun r w'=>r=.returned (.func (.func 251) #[] #[.pointer (some ⟨w.heap.size,0,none⟩)])∧Below w.heap.size w w'∧mY w' 251 #[.pointer (some ⟨w.heap.size,0,none⟩)] (fun e=>decide (e.path=p)):=by
 have hmf:∀ (fn:Fn) (first cap:Array Value) (w:World),(Instr.makeFunc fn first cap).run Tryz.prog w=.ok (.func fn first cap) w:=fun _ _ _ _=>rfl
 go_enter Tryz.func223,Tryz.ntmps223;go_wp2_with fail
 go_ret
 refine ⟨rfl,aC _ _,enters_of Tryz.func251 (by kernel_rfl) rfl,fun e a c w' he _ _ hb=>?_⟩
 exact zpa p w.heap.size e a c w' ((hb.cell (p:=⟨w.heap.size,0,none⟩) (by simp)).trans (by simp))
def inP (p:Bs) (e:En):Bool:=if nE e.path=4 then decide (p=[47]) else decide (kZ e.path=p)
theorem zra (p:Bs) (b:Nat) (e:En) (a:Option Addr) (c:Nat) (w:World) (h:w.cell? ⟨b,0,none⟩=some (.string (str p))) (hl:e.path.length≤1048576) :
  Calls Tryz.prog 238 #[.agg #[.int .i64 e.size,.slice a e.chunks.length c,.string (str e.path),.int .i64 e.kind],.pointer (some ⟨b,0,none⟩)] w fun r w'=>r=.returned (.bool (inP p e))∧Below w.heap.size w w':=by
 have HB0:=aA (aC w (.cells #[.int .i64 e.size,.slice a e.chunks.length c,.string (str e.path),.int .i64 e.kind] 88));have hb:=World.block_lt_of_cell? w ⟨b,0,none⟩ h;have KC:Hid (∀ w':World,Below w.heap.size w w'→w'.cell? ⟨b,0,none⟩=some (.string (str p))):=aA (fun w' hb'=>(hb'.cell (p:=⟨b,0,none⟩) hb).trans h)
 have HPC:=aA (fun (u:World)=>gB (str e.path) u (by rw[aK];omega))
 rw[aT]at HPC;have hs1:((str p).toList == [47])=decide (p=[47]):=by rw[aN];by_cases h47:p=[47] <;> simp[h47]
 have hs2:=rB (kZ e.path) p;have HI:=aA (show inP p e=if nE e.path=4 then decide (p=[47]) else decide (kZ e.path=p) from rfl)
 generalize inP p e=Z at *;generalize decide (p=[47])=Z1 at *;generalize decide (kZ e.path=p)=Z2 at *;generalize kZ e.path=PT at *;generalize nE e.path=PC at *;clear h;go_enter Tryz.func238,Tryz.ntmps238;go_wp2_with fail
 refine (HPC.out _).mono ?_;rintro r w1 ⟨rfl,hb1⟩;have B1:=aA (aB HB0.out hb1);have B2:=aA (aB B1.out (aC w1 (.cells #[.int .i64 PC,.string (str PT)] 188)));have hc:=KC.out _ B2.out;clear hb1;by_cases h4:PC=4
 ·have hb4:(PC==4)=true:=by simp[h4]
  have HZ:=aA (show Z=Z1 from by rw[HI.out,if_pos h4])
  clear h4;go_wp2_with fail
  go_ret
  exact ⟨bQ HZ.out.symm,B2.out⟩
 ·have hb4:(PC==4)=false:=by simp[h4]
  have HZ:=aA (show Z=Z2 from by rw[HI.out,if_neg h4])
  clear h4;go_wp2_with fail
  go_ret
  exact ⟨bQ HZ.out.symm,B2.out⟩
theorem zsj (p:Bs) (w:World) :
  Calls Tryz.prog 199 #[.string (str p)] w fun r w'=>r=.returned (.func (.func 238) #[] #[.pointer (some ⟨w.heap.size,0,none⟩)])∧Below w.heap.size w w'∧mY w' 238 #[.pointer (some ⟨w.heap.size,0,none⟩)] (inP p):=by
 have hmf:∀ (fn:Fn) (first cap:Array Value) (w:World),(Instr.makeFunc fn first cap).run Tryz.prog w=.ok (.func fn first cap) w:=fun _ _ _ _=>rfl
 go_enter Tryz.func199,Tryz.ntmps199;go_wp2_with fail
 go_ret
 refine ⟨rfl,aC _ _,enters_of Tryz.func238 (by kernel_rfl) rfl,fun e a c w' he _ _ hb=>?_⟩
 exact zra p w.heap.size e a c w' ((hb.cell (p:=⟨w.heap.size,0,none⟩) (by simp)).trans (by simp)) he
theorem zm7 (p:ByteArray) (k z:Int) (a:Option Addr) (n c:Nat) (w:World) :
  Calls Tryz.prog 130 #[.agg #[.int .i64 z,.slice a n c,.string p,.int .i64 k]] w fun r w'=>r=.returned (.bool (jH k))∧Below w.heap.size w w':=by
 by_cases h0:k=1
 ·have e:jH k=true:=decide_eq_true (.inl h0)
  have hb:(k==1)=true:=by simp[h0]
  rw[e];clear e h0;go_enter Tryz.func130,Tryz.ntmps130;go_wp2
  go_ret
  exact ⟨rfl,aC _ _⟩
 ·have hb:(k==1)=false:=by simp[h0]
  by_cases h1:k=2
  ·have e:jH k=true:=decide_eq_true (.inr h1)
   have hb1:(k==2)=true:=by simp[h1]
   rw[e];clear e h0 h1;go_enter Tryz.func130,Tryz.ntmps130;go_wp2
   go_ret
   exact ⟨rfl,aC _ _⟩
  ·have e:jH k=false:=decide_eq_false (fun h=>h.elim h0 h1)
   have hb1:(k==2)=false:=by simp[h1]
   rw[e];clear e h0 h1;go_enter Tryz.func130,Tryz.ntmps130;go_wp2
   go_ret
   exact ⟨rfl,aC _ _⟩
theorem zne (e:En) (a:Option Addr) (c:Nat) (w:World) :
  Calls Tryz.prog 129 #[.agg #[.int .i64 e.size,.slice a e.chunks.length c,.string (str e.path),.int .i64 e.kind]] w fun r w'=>r=.returned (.bool (!jH e.kind))∧Below w.heap.size w w':=by
 have HC:=aA (fun (u:World)=>zm7 (str e.path) e.kind e.size a e.chunks.length c u)
 generalize jH e.kind=Z at *;go_enter Tryz.func129,Tryz.ntmps129;go_wp2_with fail
 refine (HC.out _).mono ?_;rintro r w1 ⟨rfl,hb1⟩;have B1:=aA (aB (aC w (.cells #[.int .i64 e.size,.slice a e.chunks.length c,.string (str e.path),.int .i64 e.kind] 88)) hb1);clear hb1;go_wp2_with fail
 go_ret
 exact ⟨rfl,B1.out⟩
theorem zgb (w:World):mY w 129 #[] (fun e=>!jH e.kind) :=
 ⟨enters_of Tryz.func129 (by kernel_rfl) rfl,fun e a c w' _ _ _ _=>zne e a c w'⟩
theorem zs3 (b:Nat) (fn:FuncId) (cap:Array Value) (f:En→Bool) (W0:World) (hf:mY W0 fn cap f) (e:En) (a:Option Addr) (c:Nat) (w:World) (he:e.path.length≤1048576) (hec:e.chunks.length≤1048576) (hre:aP .i64 w a e.chunks) (hw:Below W0.heap.size W0 w) (h:w.cell? ⟨b,0,none⟩=some (.func (.func fn) #[] cap)) :
  Calls Tryz.prog 181 #[.agg #[.int .i64 e.size,.slice a e.chunks.length c,.string (str e.path),.int .i64 e.kind],.pointer (some ⟨b,0,none⟩)] w fun r w'=>r=.returned (.bool (!f e))∧Below w.heap.size w w':=by
 have eg:=hf.1;have B0:=aA (aC w (.cells #[.int .i64 e.size,.slice a e.chunks.length c,.string (str e.path),.int .i64 e.kind] 88));have hb:=World.block_lt_of_cell? w ⟨b,0,none⟩ h;have hc:=(B0.out.cell (p:=⟨b,0,none⟩) hb).trans h;have HF:=aA (hf.2 e a c _ he hec (hre.below B0.out) (aB hw B0.out));generalize f e=Z at *;clear h hf hre;go_enter Tryz.func181,Tryz.ntmps181;go_wp2_with fail
 refine HF.out.mono ?_;rintro r w1 ⟨rfl,hb1⟩;have B1:=aA (aB B0.out hb1);clear hb1;go_wp2_with fail
 go_ret
 exact ⟨rfl,B1.out⟩
theorem mS (a:Option Addr) (c n:Nat) (es:List En) (fn:FuncId) (cap:Array Value) (f:En→Bool) (w:World) (h:RdI w a es) (hn:n=es.length) (hl:es.length≤1048576) (hs:aV es) (hf:mY w fn cap f) :
  Calls Tryz.prog 131 #[.slice a n c,.func (.func fn) #[] cap] w fun r w'=>∃ av cv w1,r=.returned (.slice av (es.filter fun e=>!f e).length cv)∧LI w1 w' (.slice av (es.filter fun e=>!f e).length cv) (es.filter fun e=>!f e)∧Below w.heap.size w w1∧Below w1.heap.size w1 w':=by
 have hmf:∀ (fn:Fn) (first cap:Array Value) (w:World),(Instr.makeFunc fn first cap).run Tryz.prog w=.ok (.func fn first cap) w:=fun _ _ _ _=>rfl
 subst hn;have B0:=aA (aC w (.cells #[.func (.func fn) #[] cap] 90));have HA:Hid (mY (w.alloc (.cells #[.func (.func fn) #[] cap] 90)) 181 #[.pointer (some ⟨w.heap.size,0,none⟩)] (fun e=>!f e)):=aA ⟨enters_of Tryz.func181 (by kernel_rfl) rfl,fun e a c w' he hec hre hb =>
  zs3 w.heap.size fn cap f w hf e a c w' he hec hre (aB B0.out hb) ((hb.cell (p:=⟨w.heap.size,0,none⟩) (by simp)).trans (by simp))⟩
 have HC:=aA (zl5 a c es.length es _ _ (fun e=>!f e) _ (h.below B0.out) rfl hl hs HA.out)
 clear h hf hs HA;go_enter Tryz.func131,Tryz.ntmps131;go_wp2_with fail
 generalize w.alloc (.cells #[.func (.func fn) #[] cap] 90)=W0 at *;refine HC.out.mono ?_;rintro r w1 ⟨av,cv,rfl,hL,hb1⟩;have HL:=aA hL;have B1:=aA hb1;clear hL hb1 HC;go_wp2_with fail
 go_ret
 exact ⟨av,cv,W0,rfl,HL.out,B0.out,B1.out⟩
theorem zdc {es:List En} {q:Bs} {k:Nat} {e:En} (ha:atE es q=some k) (he:es[k]?=some e):aG es q=some e:=by rw[oV,ha];exact he
end Go.Proofs.YtolnlfnndnpiiaaGreat
namespace Go.Proofs.YtolnlfnndnpiiaaGreat
open Go.RowKit Go.Maps
def cC (w:World) (b:Nat) (u0 u1 u2:Value):Prop:=(w.cell? ⟨b,0,none⟩=some u0∧w.cell? ⟨b,1,none⟩=some u1∧w.cell? ⟨b,2,none⟩=some u2)∧w.frozen? ⟨b,0,none⟩=false∧w.frozen? ⟨b,1,none⟩=false∧w.frozen? ⟨b,2,none⟩=false
theorem cC.new (w:World) (u0 u1 u2:Value) (t:TypeId):cC (w.alloc (.cells #[u0,u1,u2] t)) w.heap.size u0 u1 u2:=⟨⟨by simp,by simp,by simp⟩,by simp,by simp,by simp⟩
theorem cC.lt {w:World} {b:Nat} {u0 u1 u2:Value} (h:cC w b u0 u1 u2):b<w.heap.size:=World.block_lt_of_cell? w ⟨b,0,none⟩ h.1.1
theorem cC.kept {S:Nat→Prop} {w w':World} {b:Nat} {u0 u1 u2:Value} (h:cC w b u0 u1 u2) (hk:aD S w w') (hn:¬ S b):cC w' b u0 u1 u2 :=
 ⟨⟨(hk.cell (p:=⟨b,0,none⟩) h.lt hn).trans h.1.1,(hk.cell (p:=⟨b,1,none⟩) h.lt hn).trans h.1.2.1,(hk.cell (p:=⟨b,2,none⟩) h.lt hn).trans h.1.2.2⟩,(hk.frozen (p:=⟨b,0,none⟩) h.lt hn).trans h.2.1,(hk.frozen (p:=⟨b,1,none⟩) h.lt hn).trans h.2.2.1,(hk.frozen (p:=⟨b,2,none⟩) h.lt hn).trans h.2.2.2⟩
theorem cC.below {w w':World} {b:Nat} {u0 u1 u2:Value} (h:cC w b u0 u1 u2) (hk:Below w.heap.size w w'):cC w' b u0 u1 u2:=h.kept (S:=fun _=>False) (aD.of_below hk) id
theorem aD.three (w:World) (b:Nat) (u0 u1 u2:Value):aD (fun x=>x=b) w (((w.setCell ⟨b,0,none⟩ u0).setCell ⟨b,1,none⟩ u1).setCell ⟨b,2,none⟩ u2) :=
 aD.setCell (S:=fun x=>x=b) (p:=⟨b,2,none⟩) (aD.two w b 0 1 u0 u1) (fun _=>rfl) u2
def oS (q rep:Int) (es:List En) (w:World) (r:Ending) (w':World):Prop :=
 ∃ av cv,r=.returned (.agg #[.int .i64 q,.int .i64 rep,.slice av es.length cv])∧GE w.heap.size w'.heap.size w' (.slice av es.length cv) es∧Below w.heap.size w w'
theorem oS.of {q rep:Int} {es:List En} {w w3:World} {B b n:Nat} {av:Option Addr} {cv:Nat} {u0 u1 u2:Value} (hB:b<B) (hw:w.heap.size≤b) (hn:n=es.length) (hG:GE B w3.heap.size w3 (.slice av n cv) es) (hb:Below w.heap.size w w3) :
  oS q rep es w (.returned (.agg #[.int .i64 q,.int .i64 rep,.slice av n cv])) (((w3.setCell ⟨b,0,none⟩ u0).setCell ⟨b,1,none⟩ u1).setCell ⟨b,2,none⟩ u2):=by
 subst hn;refine ⟨av,cv,rfl,?_,((hb.setCell hw _).setCell hw _).setCell hw _⟩;have hs:(((w3.setCell ⟨b,0,none⟩ u0).setCell ⟨b,1,none⟩ u1).setCell ⟨b,2,none⟩ u2).heap.size=w3.heap.size:=by simp[World.setCell]
 rw[hs];exact (hG.kept (aD.three w3 b u0 u1 u2) (fun x h1 _ h2=>by omega)).mono (by omega)
theorem oS.bad {q rep:Int} {w w3:World} {b:Nat} {u0 u1 u2:Value} (hw:w.heap.size≤b) (hb:Below w.heap.size w w3) :
  oS q rep [] w (.returned (.agg #[.int .i64 q,.int .i64 rep,.slice none 0 0])) (((w3.setCell ⟨b,0,none⟩ u0).setCell ⟨b,1,none⟩ u1).setCell ⟨b,2,none⟩ u2) :=
 ⟨none,0,rfl,GE.nil _ _ _,((hb.setCell hw _).setCell hw _).setCell hw _⟩
def zb0 (q:Int) (ns:List Bs) (w:World) (r:Ending) (w':World):Prop :=
 ∃ av cv,r=.returned (.agg #[.int .i64 q,.slice av ns.length cv])∧cT w.heap.size w' (.slice av ns.length cv) ns∧Below w.heap.size w w'
theorem zb0.of {q:Int} {ns:List Bs} {w w3:World} {B b n:Nat} {av:Option Addr} {cv:Nat} {u v:Value} (hB:b<B) (hw:w.heap.size≤b) (hn:n=ns.length) (hG:cT B w3 (.slice av n cv) ns) (hb:Below w.heap.size w w3) :
  zb0 q ns w (.returned (.agg #[.int .i64 q,.slice av n cv])) ((w3.setCell ⟨b,0,none⟩ u).setCell ⟨b,1,none⟩ v):=by
 subst hn;exact ⟨av,cv,rfl,(hG.kept (aD.two w3 b 0 1 u v) (fun x h1 h2=>by have:=(hG.lt x h1).1;omega)).mono (by omega),(hb.setCell hw _).setCell hw _⟩
theorem zb0.bad {q:Int} {w w3:World} {b:Nat} {u v:Value} (hw:w.heap.size≤b) (hb:Below w.heap.size w w3) :
  zb0 q [] w (.returned (.agg #[.int .i64 q,.slice none 0 0])) ((w3.setCell ⟨b,0,none⟩ u).setCell ⟨b,1,none⟩ v) :=
 ⟨none,0,rfl,cT.nil _ _,(hb.setCell hw _).setCell hw _⟩
theorem lL {e:En} (h:aH e=0):e.chunks.length≤3:=by
 have hp:=bM h;cases h1:iJ e
 ·rw[gU hp h1]at h;omega
 ·cases h2:lM e
  ·rw[vO hp h1 h2]at h;omega
  ·cases h3:mF e
   ·rw[vN hp h1 h2 h3]at h;omega
   ·have h2':0≤e.size∧e.size≤24:=by simpa [lM] using h2
    have h3':(e.chunks.length:Int)=(e.size+7) / 8:=by simpa [mF] using h3
    omega
end Go.Proofs.YtolnlfnndnpiiaaGreat
namespace Go.Proofs.YtolnlfnndnpiiaaGreat
open Go.RowKit Go.Maps
attribute [local go_sem ↓] Go.wp_at_zero Go.wp_at_succ
def cE (p:Bs):Bs:=kY (aX p.tail)
def eK (es:List En) (q:Bs):List Bs:=(cL es q).map fun e=>cE e.path
theorem zri {es:List En} (h:40<es.length):dX es=2:=by simp[dX,h]
theorem zqi {es:List En} (h:¬ 40<es.length) (hk:(es.any fun e=>!jH e.kind)=true):dX es=1:=by
 have:es.all (fun e=>jH e.kind)=false:=by
  rw[List.all_eq_false];obtain ⟨e,he,h1⟩:=List.any_eq_true.1 hk;exact ⟨e,he,by simpa using h1⟩
 simp[dX,h,this]
theorem zpl {es:List En} (h:¬ 40<es.length) (hk:(es.any fun e=>!jH e.kind)=false):dX es=cP (cR es) none es:=by
 have:es.all (fun e=>jH e.kind)=true:=by
  rw[List.all_eq_true];intro e he;have:=List.any_eq_false.1 hk e he;simpa using this
 rw[dX,if_neg h,this,if_pos rfl]
theorem yV (a:Option Addr) (c n:Nat) (es:List En) (w:World) (h:RdE w a es) (hn:n=es.length) (hl:es.length≤1048576) (hs:aV es) :
  Calls Tryz.prog 87 #[.slice a n c] w fun r w'=>r=.returned (.int .i64 (dX es))∧Below w.heap.size w w':=by
 subst hn;by_cases hm:40<es.length
 ·have HE:=aA (zri hm)
  have hm2:(40:Int)<(es.length:Int):=by omega
  go_enter Tryz.func87,Tryz.ntmps87;go_wp2_with fail
  go_ret
  exact ⟨aO HE.out.symm,Below.refl _ _⟩
 ·have hm2:¬ (40:Int)<(es.length:Int):=by omega
  have HK:=aA (zqi (es:=es) hm);have HE:=aA (zpl (es:=es) hm);have HR:=aA h;have HS:=aA hs;clear h hs;generalize dX es=F at *;go_enter Tryz.func87,Tryz.ntmps87;go_wp2_with fail
  refine (zo2 a c es.length es _ HR.out rfl hl).mono ?_;rintro r w1 ⟨av,cv,rfl,hL,hb1⟩;have RI:=aA (hL.rd hb1);have B1:=aA hb1;clear hL hb1;go_wp2_with fail
  refine (zh0 av cv es.length es _ _ _ _ RI.out rfl hl HS.out (zgb w1)).mono ?_;rintro r w2 ⟨rfl,hb2⟩;have B2:=aA (aB B1.out hb2);clear hb2;cases hk:es.any fun e=>!jH e.kind
  ·have HF:=aA (HE.out hk)
   clear hk;go_wp2_with fail
   refine (rJ a c es.length es _ (HR.out.below B2.out) rfl hl HS.out).mono ?_;rintro r w3 ⟨rfl,hb3⟩;rw[←HF.out];have B3:=aA (aB B2.out hb3);clear hb3;go_wp2_with fail
   go_ret
   exact ⟨rfl,B3.out⟩
  ·have HF:=aA (HK.out hk)
   clear hk;go_wp2_with fail
   go_ret
   exact ⟨aO HF.out.symm,B2.out⟩
theorem qU {p:Bs} (h:aF p=0):kZ p=aE p:=by unfold kZ bG aE;rw[if_pos h]
theorem oH {p:Bs} (h:aF p=0):nE p=if aE p=[] then 4 else 0:=by
 unfold nE;rw[if_pos h];unfold bG;rw[if_pos h];by_cases h0:aE p=[]
 ·rw[if_pos h0,if_pos (kC.1 h0)]
 ·rw[if_neg h0,if_neg (fun e=>h0 (kC.2 e))]
theorem zbb {p:Bs} (h:aF p=0):pJ p=cE p:=by unfold pJ cE;simp[h]
def rX (p:Bs):Bs:=if p=[47] then [] else p
theorem zhg:aF [47]≠0:=by decide
theorem zah {p:Bs} {e:En} (hp:p=[47]∨aF p=0) (he:aF e.path=0):inP p e=decide (aE e.path=rX p):=by
 unfold inP rX;rw[oH he,qU he];by_cases h0:aE e.path=[]
 ·rw[if_pos h0,if_pos rfl,h0]
  by_cases h1:p=[47]
  ·simp[h1]
  ·have h2:p≠[]:=by
    rintro rfl;rcases hp with hp | hp
    ·exact h1 hp
    ·exact zp1 hp
   simp[h1,Ne.symm h2]
 ·rw[if_neg h0,if_neg (by decide)]
  by_cases h1:p=[47]
  ·have h3:=(cU he h0).1
   have h4:aE e.path≠[47]:=fun e=>zhg (e ▸ h3)
   simp[h1,h0,h4]
  ·simp[h1]
theorem qP {S:Nat→Bs→Option En} {i:Nat} {p:Bs} {e:En}:yK S i p=some e↔dW S p 4=some i∧S i p=some e:=by
 unfold yK nX;by_cases h:dW S p 4=some i <;> simp[h]
theorem zdk {ls:List (List En)}:zoc (yK (dM ls)):=by
 intro i j p q e f h1 h2 hpe;obtain ⟨s1,e1⟩:=qP.1 h1;obtain ⟨s2,e2⟩:=qP.1 h2;obtain ⟨_,_,_,p1⟩:=kG e1;obtain ⟨_,_,_,p2⟩:=kG e2;have hpq:p=q:=by rw[←p1,←p2,hpe]
 subst hpq;rw[s1]at s2;rw[Option.some.inj s2]
theorem zt0 {ls:List (List En)} (hsm:eJ ls) (e:En):(∃ i p,i≤100∧p.length≤1048576∧yK (dM ls) i p=some e)↔∃ k,gY ls e.path=some k∧dM ls k e.path=some e:=by
 constructor
 ·rintro ⟨i,p,-,-,h⟩
  obtain ⟨s1,e1⟩:=qP.1 h;obtain ⟨_,_,_,p1⟩:=kG e1;rw[p1];exact ⟨i,s1,e1⟩
 ·rintro ⟨k,s1,e1⟩
  obtain ⟨es,hes,he,-⟩:=kG e1;have hk:=(kU (show dW (dM ls) e.path 4=some k from s1)).1
  exact ⟨k,e.path,by omega,((hsm es hes).2 e he).1,qP.2 ⟨s1,e1⟩⟩
theorem zyb {ls:List (List En)} (h:∀ es∈ls,aU es):∀ n,n≤ls.length→(aJ (ls.take n)).length≤12 * n
 | 0,_=>by simp[aJ]
 | n+1,hn=>by
  have ih:=zyb h n (by omega)
  have hL:ls[n]?=some (ls[n]'(by omega)):=List.getElem?_eq_getElem (by omega)
  have hm:=(h _ (List.mem_of_getElem? hL)).len;generalize ls[n]'(by omega)=L at *
  have ht:ls.take (n+1)=ls.take n ++ [L]:=by rw[List.take_add_one,hL];rfl
  rw[ht,kP];have:=xF L (aJ (ls.take n));omega
def iD (es:List (List En)) (p:Bs):Int :=
 if p=[47] then bV es else if fB es p=0 then (match aG (aJ es) p with | some e=>if e.kind=2 then 0 else 9 | none=>0) else fB es p
def rN (es:List (List En)) (p:Bs):List Bs:=if iD es p=0 then eK (aJ es) (rX p) else []
theorem zic {es:List (List En)} {p:Bs} (h:fB es p=0):bJ es p=0:=by
 unfold fB at h;by_cases h0:bJ es p=0
 ·exact h0
 ·rw[if_neg h0]at h;exact h
theorem zmh {es:List (List En)} {p:Bs} (h:fB es p=0):∃ e,aG (aJ es) p=some e∧oF es p=[e]:=by
 obtain ⟨h1,h2⟩:=pB (zic h);rw[h1]at h;cases hf:aG (aJ es) p with
 | none=>rw[hf]at h;simp at h
 | some e=>exact ⟨e,rfl,by rw[h2,hf];rfl⟩
theorem oU {es:List (List En)} {p:Bs} (h:bJ es p=0):bV es=0∧aF p=0:=by
 unfold bJ at h;by_cases h1:bV es=0
 ·rw[if_pos h1]at h;exact ⟨h1,h⟩
 ·rw[if_neg h1]at h;exact absurd h h1
theorem zek {es:List (List En)} {p:Bs} (h:iD es p=0):bV es=0∧(p=[47]∨aF p=0):=by
 unfold iD at h;by_cases h0:p=[47]
 ·rw[if_pos h0]at h;exact ⟨h,.inl h0⟩
 ·rw[if_neg h0]at h
  by_cases h1:fB es p=0
  ·have:=oU (zic h1)
   exact ⟨this.1,.inr this.2⟩
  ·rw[if_neg h1]at h;exact absurd h h1
theorem zqm (p:Bs) (e:En):inP p (asT e)=inP p e:=by unfold inP;rw[gH]
theorem zdn {rs T:List En} {p:Bs} (h:rs.map asT=T) (hT:iW T) (hp:p=[47]∨aF p=0):((rs.filter (inP p)).map fun e=>cE e.path)=eK T (rX p):=by
 have h1:T.filter (inP p)=cL T (rX p):=List.filter_congr fun x hx=>zah hp (hT.fit.path hx)
 have h2:T.filter (inP p)=(rs.filter (inP p)).map asT:=by
  rw[←h,List.filter_map]
  congr 1
  exact List.filter_congr fun x _=>zqm p x
 unfold eK;rw[←h1,h2,List.map_map];exact List.map_congr_left fun e _=>by simp[gH]
theorem mK (a:Option Addr) (c n:Nat) (es:List (List En)) (p:Bs) (w:World) (h:RdL w a es) (hn:n=es.length) (hl:es.length≤1048576) (hs:eJ es) (hp:p.length≤1048576) :
  Calls Tryz.prog 147 #[.slice a n c,.string (str p)] w fun r w'=>r=.returned (.int .i64 (iD es p))∧Below w.heap.size w w':=by
 subst hn;have HR:=aA h;have HS:=aA hs;clear h hs;have hs1:((str p).toList == [47])=decide (p=[47]):=by rw[aN];by_cases h47:p=[47] <;> simp[h47]
 by_cases h0:p=[47]
 ·rw[decide_eq_true h0]at hs1
  have HC:=aA (show iD es p=bV es from by rw[iD,if_pos h0])
  clear h0;go_enter Tryz.func147,Tryz.ntmps147;go_wp2_with fail
  refine (lH a c es.length es w HR.out rfl hl HS.out).mono ?_;rintro r w1 ⟨rfl,hb1⟩;rw[←HC.out];have B1:=aA hb1;clear hb1;go_wp2_with fail
  go_ret
  exact ⟨rfl,B1.out⟩
 ·rw[decide_eq_false h0]at hs1
  have HC:=aA (show iD es p=if fB es p=0 then (match aG (aJ es) p with | some e=>if e.kind=2 then 0 else 9 | none=>0) else fB es p from by rw[iD,if_neg h0])
  clear h0;go_enter Tryz.func147,Tryz.ntmps147;go_wp2_with fail
  refine (kW a c es.length es p w HR.out rfl hl HS.out hp).mono ?_;rintro r w1 ⟨av,cv,rfl,hG,hb1⟩;by_cases hz:fB es p=0
  ·obtain ⟨e,hfe,hsl⟩:=zmh hz
   have hll:(oF es p).length=1:=by rw[hsl];rfl
   rw[hll,hsl]at hG;rw[hz,hll];have HC2:=aA (show iD es p=if e.kind=2 then 0 else 9 from by rw[HC.out,if_pos hz,hfe])
   obtain ⟨g,rfl,-⟩:=hG.addr rfl (.inl (by decide))
   have B0:=aA (aC w1 (.cells #[.int .i64 0,.slice (some ⟨g,0,none⟩) 1 cv] 131));have B1:=aA (aB hb1 B0.out);obtain ⟨b,off,e',x,cc,hbb,hb,he,c0,c1,c2,c3,hr⟩:=hG.rd.at (k:=0) (by simp)
   simp only[Option.some.injEq,Addr.mk.injEq,and_true]at hbb;obtain ⟨rfl,rfl⟩:=hbb;simp only[List.getElem?_cons_zero,Option.some.injEq]at he;subst he;have c1':=(B0.out.cell (p:=⟨g,1,none⟩) hb).trans (show w1.cell? ⟨g,1,none⟩=some (.int .i64 e.kind) by simpa using c1)
   clear hr c0 c1 c2 c3 hz hfe hsl hll hG hb1 HC;by_cases hk:e.kind=2
   ·have hb2:(e.kind != 2)=false:=by simp[hk]
    have HZ:=aA (show iD es p=0 from by rw[HC2.out,if_pos hk])
    clear hk HC2;go_wp2_with fail
    go_ret
    exact ⟨aO HZ.out.symm,B1.out⟩
   ·have hb2:(e.kind != 2)=true:=by simp[hk]
    have HZ:=aA (show iD es p=9 from by rw[HC2.out,if_neg hk])
    clear hk HC2;go_wp2_with fail
    go_ret
    exact ⟨aO HZ.out.symm,B1.out⟩
  ·have HZ:=aA (show iD es p=fB es p from by rw[HC.out,if_neg hz])
   have hz2:(fB es p != 0)=true:=by simp;exact hz
   generalize fB es p=F at *;generalize oF es p=L at *;have B1:=aA (aB hb1 (aC w1 (.cells #[.int .i64 F,.slice av L.length cv] 131)));clear hz HC hG hb1;go_wp2_with fail
   go_ret
   exact ⟨aO HZ.out.symm,B1.out⟩
theorem zn0 (a:Option Addr) (c n:Nat) (es:List (List En)) (p:Bs) (w:World) (h:RdL w a es) (hn:n=es.length) (hl:es.length≤1048576) (hs:eJ es) (hp:p.length≤1048576) :
  Calls Tryz.prog 150 #[.slice a n c,.string (str p)] w (zb0 (iD es p) (rN es p) w):=by
 subst hn;obtain ⟨i1,ki,kz0,kz1,kz2⟩:=info_parts sF;have X0:=aA (Box.new w (.int .i64 0) (.slice none 0 0) 164);have B0:=aA (aC w (.cells #[.int .i64 0,.slice none 0 0] 164));have HR:=aA h;have HS:=aA hs;clear h hs;go_enter Tryz.func150,Tryz.ntmps150;go_wp2_with fail
 refine (mK a c es.length es p _ (HR.out.below B0.out) rfl hl HS.out hp).mono ?_;rintro r w1 ⟨rfl,hb1⟩;have B1:=aA (aB B0.out hb1);have X1:=aA (X0.out.below hb1);clear hb1 X0 B0;by_cases hz:iD es p=0
 ·obtain ⟨hz0,hpp⟩:=zek hz
  obtain ⟨h4,hRs⟩:=dR.1 hz0;have HCC:=aA (show iD es p=0∧rN es p=eK (aJ es) (rX p) from ⟨hz,by rw[rN,if_pos hz]⟩)
  have HRr:=aA hRs;have HRs:=aA (xN hRs HS.out);have HPP:=aA hpp;rw[hz];clear hz hz0 hRs hpp;have hb0:w.heap.size<w1.heap.size:=X1.out.1.lt;go_wp2_with fail
  refine (zY a c es.length es w1 (HR.out.below B1.out) rfl h4 HRs.out).mono ?_;rintro r w2 ⟨b,N,rfl,hbb,hN,hM,hb2⟩;have HM:=aA hM;have BB2:=aA hb2;clear hM hb2;go_wp2_with fail
  refine (zkl b N (dM es) w1 w2 HM.out).mono ?_;rintro r w3 ⟨b3,rfl,hb3b,hM3,hb3⟩;have HM3:=aA hM3;have BB3:=aA (aB BB2.out hb3);clear hM3 hb3 HM BB2;go_wp2_with fail
  refine (zwe b3 N (yK (dM es)) w1 w3 HM3.out (by omega) zdk BB3.out).mono ?_
  rintro r w4 ⟨av,cv,rs,rfl,hri,hmem,hRI,hb4⟩;have BB4:=aA (aB BB3.out hb4);have hall:=zbj HRr.out h4 hri (fun e=>(hmem e).trans (zt0 HS.out e))
  have HKN:=aA (zdn hall (oT (gA HRr.out)) HPP.out);have HKM:=aA (show aV rs∧∀ e∈rs,aF e.path=0 from ⟨fun e he=>by
   obtain ⟨k,s1,e1⟩:=(zt0 HS.out e).1 ((hmem e).1 he);obtain ⟨es',hes,hee,-⟩:=kG e1;exact (HS.out es' hes).2 e hee,fun e he=>by
   obtain ⟨k,s1,e1⟩:=(zt0 HS.out e).1 ((hmem e).1 he);obtain ⟨es',hes,hee,-⟩:=kG e1;exact (gA HRr.out es' hes).path hee⟩)
  have hrl:rs.length≤48:=by
   have h1:=zyb HRr.out es.length (Nat.le_refl _);rw[List.take_length,←hall,List.length_map]at h1;omega
  have RI:=aA hRI;clear hri hmem hRI hb4 HM3 BB3 hall;go_wp2_with fail
  refine (zsj p _).mono ?_;rintro r w5 ⟨rfl,hb5,hA⟩;have HA:=aA hA;have RI3:=aA (RI.out.below hb5);have BB5:=aA (aB BB4.out hb5);clear hA hb5 RI BB4;go_wp2_with fail
  refine (zl5 av cv rs.length rs _ _ _ _ RI3.out rfl (by omega) HKM.out.1 HA.out).mono ?_
  obtain ⟨ks,hks⟩:∃ ks,ks=rs.filter (inP p):=⟨_,rfl⟩;rw[←hks];have HN:=aA (show eK (aJ es) (rX p)=ks.map fun e=>cE e.path from by rw[hks];exact HKN.out.symm)
  have HKS:=aA (show ∀ e∈ks,aF e.path=0∧e.path.length≤1048576 from fun e he=>by
   rw[hks]at he;have:=(List.mem_filter.1 he).1;exact ⟨HKM.out.2 e this,(HKM.out.1 e this).1⟩)
  have hkl:ks.length≤48:=by rw[hks];have:=List.length_filter_le (inP p) rs;omega
  clear hks HKN HKM;rintro r w4 ⟨av4,cv4,rfl,hL4,hb4⟩;have RK:=aA (hL4.rd hb4);have BB6:=aA (aB BB5.out hb4);have hs4:=BB6.out.size;clear hL4 hb4 BB5 RI3 HA;go_wp2_with fail
  go_loopw [6,24] (fun v i wr=>∃ k:Nat,k≤ks.length∧i=.int .i64 k∧Hid (cT w4.heap.size wr v ((ks.take k).map fun e=>cE e.path))∧Hid (Below w4.heap.size w4 wr)) (fun _ i _=>ks.length - (intOf i).toNat)
  case atStart=>exact ⟨0,Nat.zero_le _,rfl,aA (cT.nil _ _),aA (Below.refl _ _)⟩
  case round =>
   obtain ⟨k,hk,rfl,HO,HW⟩:=hrel;have hsz:=HW.out.size;obtain ⟨lv,lc,hv⟩:=HO.out.shape;have hln:((ks.take k).map fun e=>cE e.path).length=k:=by rw[List.length_map,List.length_take];omega
   rw[hln]at hv;subst hv;by_cases hlt:k<ks.length
   ·obtain ⟨b,off,e,x,cc,rfl,hb,he,c0,c1,c2,c3,hr⟩:=(RK.out.below HW.out).at hlt
    obtain ⟨hpf,hpl⟩:=HKS.out e (List.mem_of_getElem? he);have HX:=aA he;have HLA:=aA (show pJ (str e.path).data.toList=cE e.path from by rw[aT];exact zbb hpf)
    clear he hr hpf;have BA:=aA (aC wr (.cells #[.int .i64 e.size,.slice x e.chunks.length cc,.string (str e.path),.int .i64 e.kind] 88));go_wp2_with fail
    refine (ze3 (str e.path) _ (by rw[aK];omega)).mono ?_
    rintro r w5 ⟨rfl,hb5⟩;rw[HLA.out];generalize aF (str e.path).data.toList=FP;have hfd:∀ (w:World),(Instr.field 188 (.agg #[.int .i64 FP,.string (str (cE e.path))]) 1).run Tryz.prog w=.ok (.string (str (cE e.path))) w:=fun _=>by kernel_rfl
    have HW5:=aA (aB HW.out (aB BA.out hb5));have O5:Hid (w5.ownsRow w4.heap.size 9 1 (.slice lv k lc) k (((ks.take k).map fun e=>cE e.path).map vS)):=by have:=HO.out.below (aB BA.out hb5);unfold cT at this;rw[hln]at this;exact this
    have hsz5:=HW5.out.size;have HLn:=aA hln;have hm1:k+1≤maxLen:=by unfold maxLen;omega
    have hm2:(k+1) * 16≤140737488355328:=by omega
    clear hb5 hln HO HW BA c0 c1 c2 c3;go_wp2_with (at_builtin;refine cS rfl (.tmp 28) (.tmp 33) 100 rfl w4.heap.size 9 i1 (.string ⟨#[]⟩) 1 16 Tryz.underlying100 ki kz0 kz1 kz2 rfl (by decide) _ _ _ rfl O5.out rfl rfl (by intro u hu;simp at hu;subst hu;rfl) hm1 hm2 hsz5 ?_;intro v' w6 hown6 hkept;have O6:=aA (show cT w4.heap.size w6 v' (((ks.take k).map fun e=>cE e.path) ++ [cE e.path]) from cT.snoc (by rw[HLn.out];exact hown6) rfl);have K6:=aA hkept;clear hown6 hkept)
    go_roundw
    case rel =>
     refine ⟨k+1,by omega,by go_num,aA ?_,aA ?_⟩
     ·rw[bY HX.out,List.map_append];exact O6.out
     ·exact aD.below_own HW5.out hsz5 O5.out K6.out
    case measure=>simp[intOf];omega
   ·have hke:k=ks.length:=by omega
    have HO2:Hid (cT w4.heap.size wr (.slice lv k lc) (eK (aJ es) (rX p))):=by have:=HO.out;rw[List.take_of_length_le (by omega)]at this;rw[HN.out];exact this
    have HLn:=aA (show k=(eK (aJ es) (rX p)).length from by rw[HN.out,List.length_map];exact hke)
    have BB5:=aA (aB BB6.out HW.out);obtain ⟨⟨t0,t1⟩,t2,t3⟩:=X1.out.below BB5.out;have B5:=aA (aB B1.out BB5.out);clear hke hln;go_wp2_with fail
    exact bodyPost_ret (v:=.agg #[.int .i64 0,.slice lv k lc]) (by simp[results,Tryz.results150,go_sem,t0,t1]) rfl (by rw[HCC.out.1,HCC.out.2];exact zb0.of (by omega) (Nat.le_refl _) HLn.out HO2.out B5.out)
 ·have HCC:=aA (show rN es p=[] from by rw[rN,if_neg hz])
  generalize iD es p=F at *;have hz2:(F != 0)=true:=by simp;exact hz
  clear hz;obtain ⟨⟨t0,t1⟩,t2,t3⟩:=X1.out;go_wp2_with fail
  exact bodyPost_ret (v:=.agg #[.int .i64 F,.slice none 0 0]) (by simp[results,Tryz.results150,go_sem,t0,t1]) rfl (by rw[HCC.out];exact zb0.bad (Nat.le_refl _) B1.out)
end Go.Proofs.YtolnlfnndnpiiaaGreat
namespace Go.Proofs.YtolnlfnndnpiiaaGreat
open Go.RowKit Go.Maps
theorem zg5:∀ (rs:List Rw) (j:Nat) (r:Rw) (e':En),rs[j]?=some r→e'.chunks.length=r.e.chunks.length →
  (((aY rs).set (j * 4) (.string (str e'.path))).set (j * 4+1) (.int .i64 e'.kind)).set (j * 4+2) (.int .i64 e'.size)=aY (rs.set j ⟨e',r.a,r.c⟩)
 | [],j,r,e',h,_=>by simp at h
 | x :: rs,0,r,e',h,hl=>by
  simp only[List.getElem?_cons_zero,Option.some.injEq]at h;subst h;simp[aY,cM,hl]
 | x :: rs,j+1,r,e',h,hl=>by
  have ih:=zg5 rs j r e' (by simpa using h) hl
  have e1:aY (x :: rs)=cM x++aY rs:=rfl;have e2:aY ((x :: rs).set (j+1) ⟨e',r.a,r.c⟩)=cM x++aY (rs.set j ⟨e',r.a,r.c⟩):=rfl;have hx:(cM x).length=4:=rfl;rw[e1,e2,←ih,List.set_append_right _ _ (by omega),List.set_append_right _ _ (by omega),List.set_append_right _ _ (by omega),hx]
  rw[show (j+1) * 4 - 4=j * 4 by omega,show (j+1) * 4+1 - 4=j * 4+1 by omega,show (j+1) * 4+2 - 4=j * 4+2 by omega]
theorem GE.open {B T:Nat} {w:World} {a:Option Addr} {n c:Nat} {es:List En} {j:Nat} {e:En} (h:GE B T w (.slice a n c) es) (he:es[j]?=some e) :
  ∃ (G:Nat) (x:Option Addr) (y:Nat),a=some ⟨G,0,none⟩∧B≤G∧G<T∧w.cell? ⟨G,j * 4,none⟩=some (.string (str e.path))∧w.cell? ⟨G,j * 4+1,none⟩=some (.int .i64 e.kind)∧w.cell? ⟨G,j * 4+2,none⟩=some (.int .i64 e.size)∧w.cell? ⟨G,j * 4+3,none⟩=some (.slice x e.chunks.length y) ∧
   (∀ i,w.frozen? ⟨G,i,none⟩=false)∧Own .i64 w x e.chunks∧(∀ b,zvc x b→B≤b∧b<T∧b≠G) ∧
   ∀ (e':En) (w2:World),e'.chunks.length=e.chunks.length→Own .i64 w2 x e'.chunks→aD (zvc x) (((w.setCell ⟨G,j * 4,none⟩ (.string (str e'.path))).setCell ⟨G,j * 4+1,none⟩ (.int .i64 e'.kind)).setCell ⟨G,j * 4+2,none⟩ (.int .i64 e'.size)) w2 →
    zu3 (((w.setCell ⟨G,j * 4,none⟩ (.string (str e'.path))).setCell ⟨G,j * 4+1,none⟩ (.int .i64 e'.kind)).setCell ⟨G,j * 4+2,none⟩ (.int .i64 e'.size)) w2 →
    GE B T w2 (.slice a n c) (es.set j e'):=by
 obtain ⟨rs,hrs,h1,h2,h3,h4,h5⟩:=h;have hj:=(List.getElem?_eq_some_iff.1 he).1;have hl:rs.length=es.length:=by rw[←hrs,List.length_map]
 obtain ⟨r,hr⟩:∃ r,rs[j]?=some r:=⟨rs[j]'(by omega),List.getElem?_eq_getElem (by omega)⟩
 have hre:r.e=e:=by
  have:(rs.map Rw.e)[j]?=some r.e:=by rw[List.getElem?_map,hr];rfl
  rw[hrs,he]at this;exact (Option.some.inj this).symm
 rcases h1.2 with ⟨_,h0⟩ | ⟨G,cap,cur,h',hb,hh,hnc,hcm,hcs,htake⟩
 ·omega
 ·simp only[Value.slice.injEq]at h'
  obtain ⟨rfl,rfl,rfl⟩:=h';have hc:=fun q hq=>(h1.cellAt (j * 4+q) (by omega)).trans (lA rs j q r hr hq)
  have hm:=List.mem_of_getElem? hr;have hne:∀ b,zvc r.a b→b≠G:=fun b hb e=>cW h1 (h2 r hm) (by decide) (by subst e;rfl) (nI hb)
  refine ⟨G,r.a,r.c,rfl,hb,h5 G rfl,?_,?_,?_,?_,fun i=>h1.frozenAt i,?_,fun b hb=>⟨((h2 r hm).lt b (nI hb)).1,h4 r hm b hb,hne b hb⟩,?_⟩
  ·have:=hc 0 (by decide);rw[←hre];first | (simp[cM];done) | (simpa [cM] using this)
  ·have:=hc 1 (by decide);rw[←hre];first | (simp[cM];done) | (simpa [cM] using this)
  ·have:=hc 2 (by decide);rw[←hre];first | (simp[cM];done) | (simpa [cM] using this)
  ·have:=hc 3 (by decide);rw[←hre];first | (simp[cM];done) | (simpa [cM] using this)
  ·rw[←hre];exact zW (h2 r hm) rfl
  ·intro e' w2 hlen ho hk hs
   have hlen':e'.chunks.length=r.e.chunks.length:=by rw[hre];exact hlen
   have s1:=(((h1.stored (j * 4) (.string (str e'.path))).1.stored (j * 4+1) (.int .i64 e'.kind)).1.stored (j * 4+2) (.int .i64 e'.size)).1;rw[zg5 rs j r e' hr hlen']at s1;have hmapa:(rs.set j ⟨e',r.a,r.c⟩).map Rw.a=rs.map Rw.a:=by
    rw[List.map_set];apply List.ext_getElem?
    intro i;by_cases hi:i=j
    ·subst hi;rw[List.getElem?_set_self (by simp;omega),List.getElem?_map,hr];rfl
    ·rw[List.getElem?_set_ne (fun e=>hi e.symm)]
   have hk1:aD (fun b=>b=G) w (((w.setCell ⟨G,j * 4,none⟩ (.string (str e'.path))).setCell ⟨G,j * 4+1,none⟩ (.int .i64 e'.kind)).setCell ⟨G,j * 4+2,none⟩ (.int .i64 e'.size)) :=
    aD.setCell (S:=fun b=>b=G) (p:=⟨G,j * 4+2,none⟩) (aD.two _ _ _ _ _ _) (fun _=>rfl) _
   refine ⟨rs.set j ⟨e',r.a,r.c⟩,by rw[List.map_set,hrs],?_,?_,?_,?_,h5⟩
   ·rw[List.length_set]
    exact aL s1 hk (fun b hb hS=>hne b hS (by simpa [Value.ownBlock,eq_comm] using hb))
   ·intro r0 hr0
    obtain ⟨i,hi⟩:=List.mem_iff_getElem?.1 hr0;by_cases e:i=j
    ·subst e
     rw[List.getElem?_set_self (by omega)]at hi
     simp only[Option.some.injEq]at hi;subst hi;have r1:(((w.setCell ⟨G,i * 4,none⟩ (.string (str e'.path))).setCell ⟨G,i * 4+1,none⟩ (.int .i64 e'.kind)).setCell ⟨G,i * 4+2,none⟩ (.int .i64 e'.size)).ownsRow B 2 1 (.slice r.a r.e.chunks.length r.c) r.e.chunks.length (r.e.chunks.map (Value.int .i64)) :=
      aL (h2 r hm) hk1 (fun b hb e=>cW h1 (h2 r hm) (by decide) (by subst e;rfl) hb)
     show w2.ownsRow B 2 1 (.slice r.a e'.chunks.length r.c) e'.chunks.length (e'.chunks.map (Value.int .i64))
     rw[hlen'];rcases (h2 r hm).2 with ⟨h',h0⟩ | ⟨g,cap',cur',h',_⟩
     ·simp only[Value.slice.injEq]at h'
      have e1:e'.chunks=[]:=List.eq_nil_of_length_eq_zero (by omega)
      rw[h'.1,h'.2.2,h0,e1];exact World.ownsRow_nil _ _ _ _
     ·simp only[Value.slice.injEq,true_and]at h'
      obtain ⟨hA,hC⟩:=h';rw[hA]at r1 ho ⊢;refine ztk r1 hs (by simp[hlen']) (fun t ht=>?_)
      obtain ⟨b,off,e1,hb,hc⟩:=ho (by intro e;rw[e]at hlen';simp at hlen';omega)
      simp only[Option.some.injEq,Addr.mk.injEq,and_true]at e1;obtain ⟨rfl,rfl⟩:=e1;have:=(hc t (by omega)).1
      rw[Nat.zero_add]at this;rw[this];have ht2:t<e'.chunks.length:=by omega
      simp[List.getD_eq_getElem?_getD,ht2]
    ·rw[List.getElem?_set_ne (fun x=>e x.symm)]at hi
     have hm0:=List.mem_of_getElem? hi;have r1:=aL (h2 r0 hm0) hk1 (fun b hb e=>cW h1 (h2 r0 hm0) (by decide) (by subst e;rfl) hb)
     refine aL r1 hk (fun b hb hS=>?_)
     have hi':=(List.getElem?_eq_some_iff.1 hi);have hj':=(List.getElem?_eq_some_iff.1 hr);have hb0:=zw4 hb;rcases Nat.lt_or_gt_of_ne e with hlt | hlt
     ·have:=List.pairwise_iff_getElem.1 h3 i j hi'.1 hj'.1 hlt b (by rw[hi'.2];exact hb0)
      rw[hj'.2]at this;exact this hS
     ·have:=List.pairwise_iff_getElem.1 h3 j i hj'.1 hi'.1 hlt b (by rw[hj'.2];exact hS)
      rw[hi'.2]at this;exact this hb0
   ·have:(rs.map Rw.a).Pairwise (fun x y=>∀ g,x.map Addr.block=some g→y.map Addr.block≠some g):=List.pairwise_map.2 h3
    rw[←hmapa]at this;exact List.pairwise_map.1 this
   ·intro r0 hr0 g hg
    have:r0.a∈(rs.set j ⟨e',r.a,r.c⟩).map Rw.a:=List.mem_map_of_mem hr0;rw[hmapa]at this;obtain ⟨r2,hr2,e2⟩:=List.mem_map.1 this;exact h4 r2 hr2 g (by rw[e2];exact hg)
end Go.Proofs.YtolnlfnndnpiiaaGreat
namespace Go.Proofs.YtolnlfnndnpiiaaGreat
open Go.ChangeShapes Go.WideShapes Go.ChangeAt Go.RowKit
def zEn:En:=⟨[],0,0,[]⟩
theorem xP:∀ (rs:List Rw) (j:Nat) (r:Rw),j<rs.length →
  ((((aY rs).set (j * 4) (.string (str r.e.path))).set (j * 4+1) (.int .i64 r.e.kind)).set (j * 4+2) (.int .i64 r.e.size)).set (j * 4+3) (.slice r.a r.e.chunks.length r.c)=aY (rs.set j r)
 | [],j,r,h=>by simp at h
 | x :: rs,0,r,h=>by simp[aY,cM]
 | x :: rs,j+1,r,h=>by
  have ih:=xP rs j r (by simpa using h)
  have e1:aY (x :: rs)=cM x++aY rs:=rfl;have e2:aY ((x :: rs).set (j+1) r)=cM x++aY (rs.set j r):=rfl;have hx:(cM x).length=4:=rfl;rw[e1,e2,←ih,List.set_append_right _ _ (by omega),List.set_append_right _ _ (by omega),List.set_append_right _ _ (by omega),List.set_append_right _ _ (by omega),hx]
  rw[show (j+1) * 4 - 4=j * 4 by omega,show (j+1) * 4+1 - 4=j * 4+1 by omega,show (j+1) * 4+2 - 4=j * 4+2 by omega,show (j+1) * 4+3 - 4=j * 4+3 by omega]
theorem zwi (n:Nat):(madeCells (Value.agg #[.string ⟨#[]⟩,.int .i64 0,.int .i64 0,.slice none 0 0]).cells (n * 4)).toList=aY (List.replicate n ⟨zEn,none,0⟩):=by
 have hl:=fE (List.replicate n ⟨zEn,none,0⟩);rw[List.length_replicate]at hl;apply List.ext_getElem?
 intro p;by_cases hp:p<n * 4
 ·have e:p=p / 4 * 4+p % 4:=by omega
  have h1:p / 4<n:=by omega
  have h2:p % 4<4:=by omega
  rw[e,lA _ (p / 4) (p % 4) ⟨zEn,none,0⟩ (by simp[h1]) h2,←e]
  have hm:p % 4=0∨p % 4=1∨p % 4=2∨p % 4=3:=by omega
  rcases hm with hm | hm | hm | hm <;> simp[madeCells,hp,hm,cM,zEn,Value.cells,str]
 ·rw[List.getElem?_eq_none (by simp[madeCells];omega),List.getElem?_eq_none (by omega)]
theorem GE.zeros {B n T:Nat} {w:World} {v:Value} (h:w.ownsRow B 50 4 v n (madeCells (Value.agg #[.string ⟨#[]⟩,.int .i64 0,.int .i64 0,.slice none 0 0]).cells (n * 4)).toList) (hT:∀ b,v.ownBlock=some b→b<T):GE B T w v (List.replicate n zEn):=by
 refine ⟨List.replicate n ⟨zEn,none,0⟩,by simp,by rw[List.length_replicate,←zwi];exact h,fun r hr=>?_,?_,fun r hr g hg=>?_,hT⟩
 ·rw[(List.mem_replicate.1 hr).2];exact World.ownsRow_nil _ _ _ _
 ·rw[List.pairwise_iff_getElem]
  intro i i' hi hi' hlt g hg;simp at hg
 ·rw[(List.mem_replicate.1 hr).2]at hg
  simp at hg
end Go.Proofs.YtolnlfnndnpiiaaGreat
