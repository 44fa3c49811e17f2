/-
  Texts put together: IteD EntX IteE EntQ LayR LayG Digest Parts IntsR Digests EntI TreL.
-/
import Derived.Test.YtgaeikgoknoamaaGreatKKeeps5
import Derived.Test.YtgaeikgoknoamaaGreatKKeeps4
import Derived.Test.YtgaeikgoknoamaaGreatKKeeps3
import Derived.Deep.SlicePairs
import Derived.ProofKit
import Derived.ChangeOld
set_option linter.unusedVariables false
set_option maxHeartbeats 3200000
set_option maxRecDepth 100000
namespace Go.Proofs.YtgaeikgoknoamaaGreat
open Go.RowKit Go.Maps
attribute [local go_sem ↓] Go.wp_at_zero Go.wp_at_succ
theorem RdI.fresh {w:World} {e:En} {x:Option Addr} {c:Nat} {t:TypeId} (h:aO .i64 w x e.chunks):RdI (w.alloc (.cells #[.int .i64 e.size,.slice x e.chunks.length c,.string (str e.path),.int .i64 e.kind] t)) (some ⟨w.heap.size,0,none⟩) [e]:=by
 intro _;obtain ⟨f0,f1,f2,f3⟩:=dI.new w (.int .i64 e.size) (.slice x e.chunks.length c) (.string (str e.path)) (.int .i64 e.kind) t;refine ⟨w.heap.size,0,fun _=>x,fun _=>c,rfl,by simp,fun i y hy=>?_⟩
 have hi:i=0:=by
  have:=(List.getElem?_eq_some_iff.1 hy).1;simp at this
  exact this
 subst hi;simp only[List.getElem?_cons_zero,Option.some.injEq]at hy;subst hy;simp only[Nat.zero_mul,Nat.add_zero,Nat.zero_add];exact ⟨f0,f1,f2,f3,h.below (aC _ _)⟩
theorem zj4 (a:Option Addr) (c n:Nat) (es:List En) (w:World) (h:RdI w a es) (hn:n=es.length) (hl:es.length≤1048576) (hs:cG es) :
  Calls Tryz.prog 93 #[.slice a n c] w fun r w'=>∃ av cv,r=.returned (.slice av n cv)∧GE w.heap.size w'.heap.size w' (.slice av n cv) es∧Below w.heap.size w w':=by
 subst hn;obtain ⟨i1,ki,kz0,kz1,kz2⟩:=info_parts Tryz.infoEn;have HA:=aA h;have HS:=aA hs;clear h hs;go_enter Tryz.func93,Tryz.ntmps93;go_wp2_with fail
 go_loopw [3,8] (fun v i wr=>∃ j:Nat,j≤es.length∧i=.int .i64 j∧Hid (GE w.heap.size wr.heap.size wr v (es.take j))∧Hid (Below w.heap.size w wr)) (fun _ i _=>es.length - (intOf i).toNat)
 case atStart=>exact ⟨0,Nat.zero_le _,rfl,aA (GE.nil _ _ _),aA (Below.refl _ _)⟩
 case round =>
  obtain ⟨j,hj,rfl,HG,HW⟩:=hrel;obtain ⟨lv,lc,hv⟩:=HG.out.shape;rw[gN hj]at hv;subst hv;have HA1:=aA (HA.out.below HW.out);have hsz:=HW.out.size;by_cases hlt:j<es.length
  ·obtain ⟨b,off,e,x,cc,rfl,hb,he,c0,c1,c2,c3,hr⟩:=HA1.out.at hlt
   have HX:=aA he;have HRc:=aA (hr.below (aC wr (.cells #[.int .i64 e.size,.slice x e.chunks.length cc,.string (str e.path),.int .i64 e.kind] 91)));have hsm:=HS.out e (List.mem_of_getElem? he);have BW2:=aA (aC wr (.cells #[.int .i64 e.size,.slice x e.chunks.length cc,.string (str e.path),.int .i64 e.kind] 91));have F4:=aA (dI.new wr (.int .i64 e.size) (.slice x e.chunks.length cc) (.string (str e.path)) (.int .i64 e.kind) 91);clear he hr;obtain ⟨rs,g1,g2,g3,g4,g5,g6⟩:=HG.out;have G1:=aA g1;have G2:=aA g2;have G3:=aA g3;have G4:=aA g4;clear g1 g2 g3 g4 g5 g6 HG
   have hj1:(es.take j).length=j:=gN hj;have hm1:j+1≤maxLen:=by unfold maxLen;omega
   have hm1':(j+1) * 56≤140737488355328:=by omega
   have G2':Hid (wr.ownsRow w.heap.size 87 4 (.slice lv j lc) j (aZ rs)):=by have:=G2.out;rw[hj1]at this;exact this
   have HJ:=aA hj1;clear hj1;go_wp2_with fail
   clear c0 c1 c2 c3;have hbk:wr.heap.size<(wr.alloc (.cells #[.int .i64 e.size,.slice x e.chunks.length cc,.string (str e.path),.int .i64 e.kind] 91)).heap.size:=F4.out.lt;generalize wr.alloc (.cells #[.int .i64 e.size,.slice x e.chunks.length cc,.string (str e.path),.int .i64 e.kind] 91)=W2 at *;obtain ⟨bk,hbke⟩:∃ bk,bk=wr.heap.size:=⟨_,rfl⟩;rw[←hbke]at F4 hbk ⊢;have HBK:=aA hbke;clear hbke;have KC:Hid (∀ w':World,Below W2.heap.size W2 w'→w'.cell? ⟨bk,0,none⟩=some (.int .i64 e.size)∧w'.cell? ⟨bk,1,none⟩=some (.slice x e.chunks.length cc)∧w'.cell? ⟨bk,2,none⟩=some (.string (str e.path))∧w'.cell? ⟨bk,3,none⟩=some (.int .i64 e.kind)):=aA (fun w' hb'=>F4.out.below hb')
   have KD:Hid (∀ w2 w3:World,Below W2.heap.size W2 w2→aD (fun q=>(Value.slice lv j lc).ownBlock=some q) w2 w3→w3.cell? ⟨bk,0,none⟩=some (.int .i64 e.size)∧w3.cell? ⟨bk,1,none⟩=some (.slice x e.chunks.length cc)∧w3.cell? ⟨bk,2,none⟩=some (.string (str e.path))∧w3.cell? ⟨bk,3,none⟩=some (.int .i64 e.kind)):=aA (fun w2 w3 hb' hk'=>by
    have hn:¬ (Value.slice lv j lc).ownBlock=some bk:=fun hq=>by have:=(G2'.out.lt bk hq).2;have:=HBK.out;omega
    have hlt2:bk<w2.heap.size:=Nat.lt_of_lt_of_le hbk hb'.size;obtain ⟨q0,q1,q2,q3⟩:=KC.out w2 hb';exact ⟨(hk'.cell (p:=⟨bk,0,none⟩) hlt2 hn).trans q0,(hk'.cell (p:=⟨bk,1,none⟩) hlt2 hn).trans q1,(hk'.cell (p:=⟨bk,2,none⟩) hlt2 hn).trans q2,(hk'.cell (p:=⟨bk,3,none⟩) hlt2 hn).trans q3⟩)
   obtain ⟨f0,f1,f2,f3⟩:=F4.out;go_region_held3 (fun w'=>w'.cell? ⟨bk,0,none⟩=some (.int .i64 e.size)∧w'.cell? ⟨bk,1,none⟩=some (.slice x e.chunks.length cc)∧w'.cell? ⟨bk,2,none⟩=some (.string (str e.path))∧w'.cell? ⟨bk,3,none⟩=some (.int .i64 e.kind)) (first | exact KC.out _ BB1.out | exact KC.out _ BB2.out | exact KD.out _ _ BB2.out K3.out | go_keep)
    ((
     first
     | (go_at_call 70;refine (vG _ _ (by rw[aP];omega)).mono ?_;rintro r w1 ⟨rfl,hb1⟩;have BB1:=aA ((Below.refl W2.heap.size W2).drew.trans hb1);clear hb1)
     | (go_at_call 143;refine (zr1 _ _ _ _ _ (HRc.out.below BB1.out) hsm.2).mono ?_;rintro r w2 ⟨av2,cv2,rfl,ho2,hb2⟩;have O2:=aA ho2;have BB2:=aA (aB BB1.out hb2);clear ho2 hb2)
     | (refine bB (by rfl) (.tmp 12) (.tmp 25) 40 (by rfl) w.heap.size 87 i1 (.agg #[.string ⟨#[]⟩,.int .i64 0,.int .i64 0,.slice none 0 0]) 4 56 Tryz.underlying40 ki kz0 kz1 kz2 rfl (by decide) (.slice lv j lc) j (aZ rs) (by rfl) ((aG G2'.out (aB BW2.out BB2.out)).alloc _) ⟨w2.heap.size,0,none⟩ 1 1 (cA ⟨e,av2,cv2⟩) (by rfl) (by rfl) (wB rfl) (jN [⟨e,av2,cv2⟩]) (j+1) rfl hm1 hm1' (by have:=BW2.out.size;have:=BB2.out.size;simp;omega) ?_;intro av3 cv3 w3 hown3 hk3;have O3:=aA hown3;have K3:=aA (((aD.refl (fun q=>(Value.slice lv j lc).ownBlock=some q) w2).alloc _).trans hk3);clear hown3 hk3)))
   go_wp2_with fail
   go_roundw
   case rel =>
    have hs1:=BW2.out.size;have hs2:=BB1.out.size;have hs3:=BB2.out.size;refine ⟨j+1,by omega,by go_num,aA ?_,aA ?_⟩
    ·rw[cT HX.out]
     exact GE.push G1.out G2.out G3.out G4.out hsz (aB BW2.out BB2.out) (aS O2.out (by omega)) (by rw[HJ.out];exact O3.out) K3.out
    ·exact (aB HW.out (aB BW2.out BB2.out)).trans (K3.out.below (by omega) (fun k hk hx=>by have:=(G2'.out.lt k hx).1;omega))
   case measure=>simp[intOf];omega
  ·have hje:j=es.length:=by omega
   have HE:=aA (show es.take j=es from List.take_of_length_le (by omega))
   have HG2:Hid (GE w.heap.size wr.heap.size wr (.slice lv j lc) es):=by have:=HG.out;rw[HE.out]at this;exact this
   clear HG HE;subst hje;go_wp2_with fail
   go_ret
   exact ⟨_,_,rfl,HG2.out,HW.out⟩
end Go.Proofs.YtgaeikgoknoamaaGreat
namespace Go.Proofs.YtgaeikgoknoamaaGreat
open Go.ChangeShapes Go.WideShapes Go.ChangeAt Go.RowKit
def nA (w:World) (b:Nat) (u0 u1 u2 u3:Value):Prop:=dI w b u0 u1 u2 u3∧∀ i,w.frozen? ⟨b,i,none⟩=false
theorem nA.new (w:World) (u0 u1 u2 u3:Value) (t:TypeId):nA (w.alloc (.cells #[u0,u1,u2,u3] t)) w.heap.size u0 u1 u2 u3:=⟨dI.new w u0 u1 u2 u3 t,fun i=>by simp⟩
theorem nA.below {w w':World} {b:Nat} {u0 u1 u2 u3:Value} (h:nA w b u0 u1 u2 u3) (hk:Below w.heap.size w w'):nA w' b u0 u1 u2 u3 :=
 ⟨h.1.below hk,fun i=>(hk.frozen (p:=⟨b,i,none⟩) h.1.lt).trans (h.2 i)⟩
end Go.Proofs.YtgaeikgoknoamaaGreat
namespace Go.Proofs.YtgaeikgoknoamaaGreat
open Go.RowKit Go.Maps
attribute [local go_sem ↓] Go.wp_at_zero Go.wp_at_succ
def sO (p t:Bs):Bool:=decide (p=t)||iX p t
def zyc (es:List En) (p:Bs):List En:=es.filter fun e=>!(sO e.path p)
theorem zrf (es:List En) (p:Bs):(zyc es p).length≤es.length:=List.length_filter_le _ _
end Go.Proofs.YtgaeikgoknoamaaGreat
namespace Go.Proofs.YtgaeikgoknoamaaGreat
open Go.RowKit Go.Maps
def dY (es:List En) (e:En):Int :=
 if cD es=0 then (if aI e=0 then (if eI es e.path then (if 12<(dC es e).length then 2 else 0) else 9) else aI e) else cD es
def gF (es:List En) (e:En):List En:=if dY es e=0 then dC es e else []
theorem zT (a:Option Addr) (c n:Nat) (es:List En) (e:En) (x:Option Addr) (m cc:Nat) (w:World) (h:RdE w a es) (hn:n=es.length) (hl:es.length<1048576) (hs:cG es) (hm:m=e.chunks.length) (hr:aO .i64 w x e.chunks) (hp:e.path.length≤1048576) (hcl:e.chunks.length≤1048576) :
  Calls Tryz.prog 192 #[.slice a n c,.agg #[.string (str e.path),.int .i64 e.kind,.int .i64 e.size,.slice x m cc]] w (nE (dY es e) (gF es e) w):=by
 subst hn;subst hm;have HF:=aA (fun u hb=>mB a c es.length es u (h.below hb) rfl (by omega) hs)
 have HEf:=aA (fun u (hb:Below w.heap.size w u)=>lK e x cc e.chunks.length u (hr.below hb) rfl hp hcl)
 have HHo:=aA (fun u hb h1=>tO a c es.length es e.path u (h.below hb) rfl (by omega) h1 hp)
 have HPu:=aA (fun u hb=>pC a c es.length es e x e.chunks.length cc u (h.below hb) rfl hl hs rfl (hr.below hb) hp hcl)
 clear h hs hr;go_enter Tryz.func192,Tryz.ntmps192;go_wp2_with fail
 have B0:=aA (aB (aC w (.cells #[.string (str e.path),.int .i64 e.kind,.int .i64 e.size,.slice x e.chunks.length cc] 87)) (aC _ (.cells #[.int .i64 0,.slice none 0 0] 190)));have F0:=aA ((dI.new w (.string (str e.path)) (.int .i64 e.kind) (.int .i64 e.size) (.slice x e.chunks.length cc) 87).below (aC _ (.cells #[.int .i64 0,.slice none 0 0] 190)));have X0:=aA (Box.new (w.alloc (.cells #[.string (str e.path),.int .i64 e.kind,.int .i64 e.size,.slice x e.chunks.length cc] 87)) (.int .i64 0) (.slice none 0 0) 190);have hsz0:(w.alloc (.cells #[.string (str e.path),.int .i64 e.kind,.int .i64 e.size,.slice x e.chunks.length cc] 87)).heap.size=w.heap.size+1:=by simp
 rw[hsz0]at X0;clear hsz0;generalize (w.alloc (.cells #[.string (str e.path),.int .i64 e.kind,.int .i64 e.size,.slice x e.chunks.length cc] 87)).alloc (.cells #[.int .i64 0,.slice none 0 0] 190)=w0 at *;have hrb:w.heap.size≤w.heap.size+1:=Nat.le_succ _;generalize hbk:w.heap.size+1=rb at *;have HRB:=aA hrb;clear hrb hbk;refine (HF.out _ B0.out).mono ?_;rintro r w1 ⟨rfl,hb1⟩;have B1:=aA (aB B0.out hb1);have F1:=aA (F0.out.below hb1);have X1:=aA (X0.out.below hb1);clear hb1 B0 F0 X0 HF;by_cases hz:cD es=0
 ·rw[hz]
  obtain ⟨f0,f1,f2,f3⟩:=F1.out;go_wp2_with fail
  refine (HEf.out _ B1.out).mono ?_;rintro r w2 ⟨rfl,hb2⟩;have B2:=aA (aB B1.out hb2);have X2:=aA (X1.out.below hb2);have F2:=aA (F1.out.below hb2);clear hb2 f0 f1 f2 f3 F1 X1 B1 HEf;by_cases he:aI e=0
  ·rw[he]
   have hpos:=tZ (bQ he);obtain ⟨f0,f1,f2,f3⟩:=F2.out;go_wp2_with fail
   refine (HHo.out _ B2.out hpos).mono ?_;rintro r w3 ⟨rfl,hb3⟩;have B3:=aA (aB B2.out hb3);have X3:=aA (X2.out.below hb3);have F3:=aA (F2.out.below hb3);clear hb3 f0 f1 f2 f3 F2 X2 B2 HHo;cases hh:eI es e.path
   ·have HC:=aA (show dY es e=9∧gF es e=[] from by
     have:dY es e=9:=by simp[dY,hz,he,hh]
     exact ⟨this,by simp[gF,this]⟩)
    clear hh hz he;obtain ⟨⟨t0,t1⟩,t2,t3⟩:=X3.out;go_wp2_with fail
    exact bodyPost_ret (v:=.agg #[.int .i64 9,.slice none 0 0]) (by simp[results,Tryz.results192,go_sem,t0,t1]) rfl (by rw[HC.out.1,HC.out.2];exact nE.bad HRB.out B3.out)
   ·have HC0:=aA (show dY es e=(if 12<(dC es e).length then 2 else 0) from by simp[dY,hz,he,hh])
    clear hh hz he;obtain ⟨f0,f1,f2,f3⟩:=F3.out;go_wp2_with fail
    refine (HPu.out _ B3.out).mono ?_;rintro r w4 ⟨g,cv,rfl,hG,hb4⟩;have hlt0:=X3.out.1.lt;have B4:=aA (aB B3.out hb4);obtain ⟨⟨t0,t1⟩,t2,t3⟩:=X3.out.below hb4;have GG:=aA hG;clear hG hb4 f0 f1 f2 f3 F3 X3 HPu;by_cases hq:12<(dC es e).length
    ·have HC:=aA (show dY es e=2∧gF es e=[] from by
      have:dY es e=2:=by rw[HC0.out,if_pos hq]
      exact ⟨this,by simp[gF,this]⟩)
     have hq2:(12:Int)<((dC es e).length:Int):=by omega
     go_wp2_with fail
     exact bodyPost_ret (v:=.agg #[.int .i64 2,.slice none 0 0]) (by simp[results,Tryz.results192,go_sem,t0,t1]) rfl (by rw[HC.out.1,HC.out.2];exact nE.bad HRB.out B4.out)
    ·have HC:=aA (show dY es e=0∧gF es e=dC es e from by
      have:dY es e=0:=by rw[HC0.out,if_neg hq]
      exact ⟨this,by simp[gF,this]⟩)
     have hq2:¬ (12:Int)<((dC es e).length:Int):=by omega
     go_wp2_with fail
     exact bodyPost_ret (v:=.agg #[.int .i64 0,.slice (some ⟨g,0,none⟩) (dC es e).length cv]) (by simp[results,Tryz.results192,go_sem,t0,t1]) rfl (by rw[HC.out.1,HC.out.2];exact nE.of (w2:=w3) hlt0 HRB.out rfl GG.out B4.out)
  ·have HC:=aA (show dY es e=aI e∧gF es e=[] from by
    have:dY es e=aI e:=by simp[dY,hz,he]
    exact ⟨this,by simp[gF,this,he]⟩)
   generalize aI e=F at *;have hz2:(F != 0)=true:=by simp;exact he
   clear he hz;obtain ⟨⟨t0,t1⟩,t2,t3⟩:=X2.out;go_wp2_with fail
   exact bodyPost_ret (v:=.agg #[.int .i64 F,.slice none 0 0]) (by simp[results,Tryz.results192,go_sem,t0,t1]) rfl (by rw[HC.out.1,HC.out.2];exact nE.bad HRB.out B2.out)
 ·have HC:=aA (show dY es e=cD es∧gF es e=[] from by
   have:dY es e=cD es:=by simp[dY,hz]
   exact ⟨this,by simp[gF,this,hz]⟩)
  generalize cD es=F at *;have hz2:(F != 0)=true:=by simp;exact hz
  clear hz;obtain ⟨⟨t0,t1⟩,t2,t3⟩:=X1.out;go_wp2_with fail
  exact bodyPost_ret (v:=.agg #[.int .i64 F,.slice none 0 0]) (by simp[results,Tryz.results192,go_sem,t0,t1]) rfl (by rw[HC.out.1,HC.out.2];exact nE.bad HRB.out B1.out)
end Go.Proofs.YtgaeikgoknoamaaGreat
namespace Go.Proofs.YtgaeikgoknoamaaGreat
theorem iQ:∀ a:Bs,Op.bytesLess a a=false
 | []=>rfl
 | c :: a=>by simp[Op.bytesLess,iQ a]
theorem iG:∀ a b c:Bs,Op.bytesLess a b=true→Op.bytesLess b c=true→Op.bytesLess a c=true
 | a,[],c,h,_=>by cases a <;> simp[Op.bytesLess]at h
 | [],b :: bs,[],_,h2=>by simp[Op.bytesLess]at h2
 | [],b :: bs,c :: cs,_,_=>by simp[Op.bytesLess]
 | a :: xs,b :: ys,[],_,h2=>by simp[Op.bytesLess]at h2
 | a :: xs,b :: ys,c :: zs,h1,h2=>by
  simp only[Op.bytesLess,Bool.or_eq_true,decide_eq_true_eq,Bool.and_eq_true,beq_iff_eq]at h1 h2 ⊢;rcases h1 with h1 | ⟨rfl,h1⟩
  ·rcases h2 with h2 | ⟨rfl,h2⟩
   ·exact .inl (UInt8.lt_trans h1 h2)
   ·exact .inl h1
  ·rcases h2 with h2 | ⟨rfl,h2⟩
   ·exact .inl h2
   ·exact .inr ⟨rfl,iG xs ys zs h1 h2⟩
theorem iS:∀ a b:Bs,Op.bytesLess a b=false→a≠b→Op.bytesLess b a=true
 | [],[],_,h=>absurd rfl h
 | [],b :: bs,h,_=>by simp[Op.bytesLess]at h
 | a :: xs,[],_,_=>by simp[Op.bytesLess]
 | a :: xs,b :: ys,h,hn=>by
  simp only[Op.bytesLess,Bool.or_eq_false_iff,decide_eq_false_iff_not,Bool.and_eq_false_iff,beq_eq_false_iff_ne]at h;simp only[Op.bytesLess,Bool.or_eq_true,decide_eq_true_eq,Bool.and_eq_true,beq_iff_eq];by_cases e:a=b
  ·subst e
   refine .inr ⟨rfl,iS xs ys ?_ (fun x=>hn (by rw[x]))⟩
   rcases h.2 with h2 | h2
   ·exact absurd rfl h2
   ·exact h2
  ·refine .inl ?_
   have h1:=h.1;rw[UInt8.lt_iff_toNat_lt]at h1 ⊢;have:a.toNat≠b.toNat:=fun x=>e (UInt8.toNat_inj.1 x)
   omega
theorem iR {a b:Bs} (h:Op.bytesLess a b=true):Op.bytesLess b a=false:=by
 cases h2:Op.bytesLess b a
 ·rfl
 ·have:=iG a b a h h2
  rw[iQ]at this;cases this
theorem kB {a b:Bs} (h:Op.bytesLess a b=true):a≠b:=fun e=>by rw[e,iQ]at h;cases h
def eL (es:List En):Prop:=es.Pairwise fun x y=>Op.bytesLess x.path y.path=true
theorem ze3 {q e:En} (h:gY (some q) e=false):Op.bytesLess q.path e.path=true:=by
 simp only[gY,Bool.or_eq_false_iff,beq_eq_false_iff_ne]at h;exact iS _ _ h.1 h.2
theorem zxj {q e:En} (h:Op.bytesLess q.path e.path=true):gY (some q) e=false:=by
 simp only[gY,Bool.or_eq_false_iff,beq_eq_false_iff_ne];exact ⟨iR h,fun x=>kB h x.symm⟩
theorem pJ {H:Bs→Bool}:∀ {l:List En} {prev:Option En},cL H prev l=0↔(∀ e∈l,aI e=0∧H e.path=true)∧eL l∧∀ q,prev=some q→∀ e∈l,Op.bytesLess q.path e.path=true
 | [],prev=>by simp[cL,eL]
 | x :: r,prev=>by
  have ih:=pJ (H:=H) (l:=r) (prev:=some x);have hx:dJ H prev x=0↔aI x=0∧gY prev x=false∧H x.path=true:=by
   unfold dJ;by_cases h1:aI x=0
   ·simp only[h1,if_true,true_and]
    cases h2:gY prev x
    ·cases h3:H x.path <;> simp
    ·simp
   ·simp[h1]
  simp only[cL];by_cases hb:dJ H prev x=0
  ·rw[if_pos hb,ih]
   obtain ⟨h1,h2,h3⟩:=hx.1 hb;constructor
   ·rintro ⟨a1,a2,a3⟩
    refine ⟨fun e he=>?_,List.pairwise_cons.2 ⟨fun e he=>a3 x rfl e he,a2⟩,fun q hq e he=>?_⟩
    ·rcases List.mem_cons.1 he with rfl | he
     ·exact ⟨h1,h3⟩
     ·exact a1 e he
    ·subst hq
     have:=ze3 h2;rcases List.mem_cons.1 he with rfl | he
     ·exact this
     ·exact iG _ _ _ this (a3 x rfl e he)
   ·rintro ⟨a1,a2,a3⟩
    refine ⟨fun e he=>a1 e (List.mem_cons_of_mem _ he),(List.pairwise_cons.1 a2).2,fun q hq e he=>?_⟩
    cases hq
    exact (List.pairwise_cons.1 a2).1 e he
  ·rw[if_neg hb]
   constructor
   ·intro h;exact absurd h hb
   ·rintro ⟨a1,a2,a3⟩
    exfalso
    refine hb (hx.2 ⟨(a1 x List.mem_cons_self).1,?_,(a1 x List.mem_cons_self).2⟩);cases prev with
    | none=>rfl
    | some q=>exact zxj (a3 q rfl x List.mem_cons_self)
theorem eA {es:List En} (h:eL es) {e:En} (he:e∈es):aK es e.path=some e:=by
 induction es with
 | nil=>simp at he
 | cons x r ih =>
  have hp:=List.pairwise_cons.1 h;rcases List.mem_cons.1 he with rfl | he
  ·simp[aK]
  ·have:=hp.1 e he
   rw[aK,List.find?_cons];have hn:x.path≠e.path:=kB this;simp only[hn,decide_false];exact ih hp.2 he
theorem eN {es:List En} {p:Bs} {e:En} (h:aK es p=some e):e∈es∧e.path=p:=by
 refine ⟨List.mem_of_find?_eq_some h,?_⟩
 have:=List.find?_some h;simpa using this
theorem iZ {es:List En} {p:Bs} (h:∀ e∈es,e.path≠p):aK es p=none:=by
 rw[aK,List.find?_eq_none];intro e he;simpa using h e he
theorem dH {es:List En} {p:Bs}:cQ es p=true↔aE p=[]∨∃ d∈es,d.path=aE p∧bX d.kind=true:=by
 unfold cQ dG;by_cases h:aE p=[]
 ·simp[h]
 ·simp[h]
theorem mL {es:List En} (h:eL es) (p:Bs):cQ es p=eI es p:=by
 unfold cQ eI;by_cases h0:aE p=[]
 ·simp[h0]
 ·rw[if_neg h0,if_neg h0]
  cases hf:aK es (aE p) with
  | none =>
   rw[dG,List.any_eq_false];intro x hx;have:=List.find?_eq_none.1 hf x hx;simp only[decide_eq_true_eq]at this;simp[this]
  | some d =>
   obtain ⟨hd,hdp⟩:=eN hf;cases hk:bX d.kind
   ·show dG es (aE p)=bX d.kind
    rw[hk,dG,List.any_eq_false];intro x hx;by_cases hxp:x.path=aE p
    ·have:=eA h hx
     rw[hxp,hf]at this;cases this
     simp[hk]
    ·simp[hxp]
   ·show dG es (aE p)=bX d.kind
    rw[hk,dG,List.any_eq_true];exact ⟨d,hd,by simp[hdp,hk]⟩
structure aV (es:List En):Prop where
 len:es.length≤12
 ent:∀ e∈es,aI e=0
 rise:eL es
 home:∀ e∈es,cQ es e.path=true
theorem eE {es:List En}:bE es=0↔aV es:=by
 unfold bE;by_cases h:12<es.length
 ·rw[if_pos h]
  exact ⟨fun x=>(by cases x),fun x=>(by have:=x.len;omega)⟩
 ·rw[if_neg h,pJ]
  exact ⟨fun ⟨a,b,_⟩=>⟨by omega,fun e he=>(a e he).1,b,fun e he=>(a e he).2⟩,fun x=>⟨fun e he=>⟨x.ent e he,x.home e he⟩,x.rise,fun q hq=>by cases hq⟩⟩
theorem oD {H H':Bs→Bool}:∀ {l:List En} {prev:Option En},(∀ e∈l,aI e=0→H e.path=H' e.path)→cL H prev l=cL H' prev l
 | [],_,_=>rfl
 | x :: r,prev,h=>by
  have hx:dJ H prev x=dJ H' prev x:=by
   unfold dJ;by_cases h1:aI x=0
   ·rw[h x List.mem_cons_self h1]
   ·simp[h1]
  simp only[cL];rw[hx,oD (l:=r) (prev:=some x) (fun e he=>h e (List.mem_cons_of_mem _ he))]
theorem xJ {es:List En}:cD es=0↔aV es:=by
 unfold cD;by_cases h:12<es.length
 ·rw[if_pos h]
  exact ⟨fun x=>(by cases x),fun x=>(by have:=x.len;omega)⟩
 ·rw[if_neg h,vX,pJ]
  exact ⟨fun ⟨a,b,_⟩=>⟨by omega,fun e he=>(a e he).1,b,fun e he=>by rw[mL b];exact (a e he).2⟩,fun x=>⟨fun e he=>⟨x.ent e he,by rw[←mL x.rise];exact x.home e he⟩,x.rise,fun q hq=>by cases hq⟩⟩
theorem nH {p t:Bs}:bG p t=true↔∃ r,r≠[]∧p=t++47 :: r:=by
 simp only[bG,Bool.and_eq_true,decide_eq_true_eq,beq_iff_eq];constructor
 ·rintro ⟨⟨hl,ht⟩,hh⟩
  cases e:p.drop t.length with
  | nil=>rw[e]at hh;simp at hh
  | cons c r =>
   rw[e]at hh;simp at hh
   subst hh;refine ⟨r,?_,?_⟩
   ·intro h0
    have:=congrArg List.length e;rw[List.length_drop,h0]at this;simp at this
    omega
   ·rw[←e]
    conv=>lhs;rw[←List.take_append_drop t.length p,ht]
 ·rintro ⟨r,hr,rfl⟩
  have:=List.length_pos_iff.2 hr;simp
  first | done | omega
theorem oJ {p q t:Bs} (h1:bG p q=true) (h2:bG q t=true):bG p t=true:=by
 obtain ⟨r,hr,rfl⟩:=nH.1 h1;obtain ⟨s,hs,rfl⟩:=nH.1 h2;exact nH.2 ⟨s++47 :: r,by simp,by simp⟩
theorem eV {p t:Bs} (h:bG p t=true):t.length<p.length:=by
 obtain ⟨r,hr,rfl⟩:=nH.1 h;simp
theorem eD {p:Bs} (hp:aF p=0) (h:aE p≠[]):aF (aE p)=0∧bG p (aE p)=true:=by
 have hm:aE p∈bJ (bF p.tail):=by
  have hne:bJ (bF p.tail)≠[]:=fun e=>h (mD.2 e)
  unfold aE;rw[List.getLastD_eq_getLast?,List.getLast?_eq_some_getLast hne];exact List.getLast_mem _
 exact (jT hp).1 hm
theorem tK {p t:Bs} (hp:aF p=0) (ht:aF t=0):iX p t=bG p t:=by
 rw[lE hp];cases h:bG p t <;> simp[ht]
theorem mW {bs:List En} {e x:En}:x∈gI bs e↔x=e∨x∈bs:=by
 have hb:x∈bs↔x∈bs.take (lV bs e.path)∨x∈bs.drop (lV bs e.path):=by
  conv=>lhs;rw[←List.take_append_drop (lV bs e.path) bs]
  exact List.mem_append
 unfold gI;rw[List.mem_append,List.mem_cons,hb];exact ⟨fun h=>h.elim (fun h=>.inr (.inl h)) (fun h=>h.elim .inl (fun h=>.inr (.inr h))),fun h=>h.elim (fun h=>.inr (.inl h)) (fun h=>h.elim .inl (fun h=>.inr (.inr h)))⟩
theorem jJ {es:List En} {e x:En}:x∈dC es e↔x=e∨(x∈es∧jB e x=true):=by
 rw[dC,mW,iL,List.mem_filter]
theorem zn6 {p:Bs}:∀ (bs:List En),∀ x∈bs.take (lV bs p),Op.bytesLess x.path p=true
 | [],x,hx=>by simp[lV]at hx
 | b :: bs,x,hx=>by
  unfold lV at hx;rw[List.takeWhile_cons]at hx;cases h:Op.bytesLess b.path p
  ·rw[h]at hx;simp at hx
  ·rw[h]at hx
   simp only[if_true,List.length_cons,List.take_succ_cons,List.mem_cons]at hx;rcases hx with rfl | hx
   ·exact h
   ·exact zn6 bs x hx
theorem zG {p:Bs}:∀ (bs:List En),eL bs→(∀ x∈bs,x.path≠p)→∀ x∈bs.drop (lV bs p),Op.bytesLess p x.path=true
 | [],_,_,x,hx=>by simp at hx
 | b :: bs,hr,hn,x,hx=>by
  unfold lV at hx;rw[List.takeWhile_cons]at hx;cases h:Op.bytesLess b.path p
  ·rw[h]at hx
   simp only[if_false,Bool.false_eq_true,List.length_nil,List.drop_zero]at hx;have hb:=iS _ _ h (hn b List.mem_cons_self);rcases List.mem_cons.1 hx with rfl | hx
   ·exact hb
   ·exact iG _ _ _ hb ((List.pairwise_cons.1 hr).1 x hx)
  ·rw[h]at hx
   simp only[if_true,List.length_cons,List.drop_succ_cons]at hx;exact zG bs (List.pairwise_cons.1 hr).2 (fun y hy=>hn y (List.mem_cons_of_mem _ hy)) x hx
theorem uF {bs:List En} {e:En} (h:eL bs) (hn:∀ x∈bs,x.path≠e.path):eL (gI bs e):=by
 unfold gI eL;rw[List.pairwise_append];refine ⟨h.sublist (List.take_sublist _ _),List.pairwise_cons.2 ⟨fun x hx=>zG bs h hn x hx,h.sublist (List.drop_sublist _ _)⟩,fun x hx y hy=>?_⟩
 have h1:=zn6 bs x hx;rcases List.mem_cons.1 hy with rfl | hy
 ·exact h1
 ·exact iG _ _ _ h1 (zG bs h hn y hy)
theorem zzf {es:List En} {e:En} (h:eL es):eL (dC es e):=by
 refine uF (h.sublist List.filter_sublist) (fun x hx=>?_)
 have:=(List.mem_filter.1 hx).2;simp only[jB,Bool.and_eq_true,Bool.not_eq_true',decide_eq_false_iff_not]at this;exact this.1
theorem zu3 {es:List En} {e:En} (h:aV es) (he:aI e=0) (hh:cQ es e.path=true) (hl:(dC es e).length≤12):aV (dC es e):=by
 have hpe:=bQ he;refine ⟨hl,fun x hx=>?_,zzf h.rise,fun x hx=>?_⟩
 ·rcases jJ.1 hx with rfl | ⟨hx,_⟩
  ·exact he
  ·exact h.ent x hx
 ·rw[dH]
  rcases jJ.1 hx with rfl | ⟨hx,hk⟩
  ·rcases dH.1 hh with h0 | ⟨d,hd,hdp,hdk⟩
   ·exact .inl h0
   ·by_cases h0:aE x.path=[]
    ·exact .inl h0
    ·have hb:=(eD hpe h0).2
     have hlen:=eV hb;refine .inr ⟨d,jJ.2 (.inr ⟨hd,?_⟩),hdp,hdk⟩;have h1:d.path≠x.path:=fun e=>by rw[hdp]at e;rw[e]at hlen;omega
     have h2:bG d.path x.path=false:=by
      cases h3:bG d.path x.path
      ·rfl
      ·have:=eV h3;rw[hdp]at this;omega
     simp[jB,h1,h2]
  ·have hpx:=bQ (h.ent x hx)
   rcases dH.1 (h.home x hx) with h0 | ⟨d,hd,hdp,hdk⟩
   ·exact .inl h0
   ·by_cases h0:aE x.path=[]
    ·exact .inl h0
    ·have hb:=(eD hpx h0).2
     rw[←hdp]at hb;simp only[jB,Bool.and_eq_true,Bool.not_eq_true',decide_eq_false_iff_not,Bool.or_eq_true]at hk;by_cases hde:d.path=e.path
     ·rcases hk.2 with hk2 | hk2
      ·exact .inr ⟨e,jJ.2 (.inl rfl),by rw[←hde];exact hdp,hk2⟩
      ·rw[hde]at hb;rw[hb]at hk2;cases hk2
     ·refine .inr ⟨d,jJ.2 (.inr ⟨hd,?_⟩),hdp,hdk⟩
      simp only[jB,Bool.and_eq_true,Bool.not_eq_true',decide_eq_false_iff_not,Bool.or_eq_true];refine ⟨hde,hk.2.elim .inl (fun hk2=>.inr ?_)⟩
      cases h3:bG d.path e.path
      ·rfl
      ·rw[oJ hb h3]at hk2;cases hk2
theorem zad {es:List En} {p:Bs} (h:aV es) (hp:aF p=0):aV (zyc es p):=by
 refine ⟨Nat.le_trans (zrf es p) h.len,fun x hx=>h.ent x (List.mem_filter.1 hx).1,h.rise.sublist List.filter_sublist,fun x hx=>?_⟩
 obtain ⟨hx,hk⟩:=List.mem_filter.1 hx;have hpx:=bQ (h.ent x hx);rw[dH];rcases dH.1 (h.home x hx) with h0 | ⟨d,hd,hdp,hdk⟩
 ·exact .inl h0
 ·by_cases h0:aE x.path=[]
  ·exact .inl h0
  ·have hb:=(eD hpx h0).2
   rw[←hdp]at hb;have hpd:=bQ (h.ent d hd);refine .inr ⟨d,List.mem_filter.2 ⟨hd,?_⟩,hdp,hdk⟩;simp only[sO,tK hpx hp,Bool.not_eq_true',Bool.or_eq_false_iff,decide_eq_false_iff_not]at hk;simp only[sO,tK hpd hp,Bool.not_eq_true',Bool.or_eq_false_iff,decide_eq_false_iff_not];refine ⟨fun e=>?_,?_⟩
   ·rw[e]at hb;rw[hb]at hk;exact absurd hk.2 (by simp)
   ·cases h3:bG d.path p
    ·rfl
    ·rw[oJ hb h3]at hk;exact absurd hk.2 (by simp)
theorem zt3:aV []:=⟨by simp,fun e he=>by simp at he,List.Pairwise.nil,fun e he=>by simp at he⟩
def fA (es:List En) (e:En):Int :=
 if bE es=0 then (if aI e=0 then (if cQ es e.path then (if 12<(dC es e).length then 2 else 0) else 9) else aI e) else bE es
def gM (es:List En) (e:En):List En:=if fA es e=0 then dC es e else []
theorem wG {es:List En} {e:En} (h:fA es e=0):aV es∧aI e=0∧cQ es e.path=true∧(dC es e).length≤12∧aV (dC es e):=by
 unfold fA at h;by_cases h1:bE es=0
 ·rw[if_pos h1]at h
  by_cases h2:aI e=0
  ·rw[if_pos h2]at h
   cases h3:cQ es e.path
   ·rw[h3]at h;simp at h
   ·rw[h3]at h
    by_cases h4:12<(dC es e).length
    ·rw[if_pos rfl,if_pos h4]at h;cases h
    ·have hR:=eE.1 h1
     exact ⟨hR,h2,rfl,by omega,zu3 hR h2 h3 (by omega)⟩
  ·rw[if_neg h2]at h;exact absurd h h2
 ·rw[if_neg h1]at h;exact absurd h h1
def zr4 (es:List En):Prop:=bE es=cD es
theorem zme {es:List En} (h:12<es.length):zr4 es:=by rw[zr4,sS h,uV h]
theorem zqj {es:List En} (h:¬ 12<es.length) (hh:cL (cQ es) none es=cL (eI es) none es):zr4 es:=by
 rw[zr4,bE,cD,if_neg h,if_neg h,vX,hh]
theorem wE {p:Bs} (h:aF p=0) (h0:aE p≠[]):aE p≠p:=by
 have:=eV (eD h h0).2;intro e;rw[e]at this;omega
end Go.Proofs.YtgaeikgoknoamaaGreat
namespace Go.Proofs.YtgaeikgoknoamaaGreat
open Go.RowKit
def zga (h z:Int):Int:=bits BinOp.xor IntKind.u32 h z * 16777619 % 4294967296
def fnv (zs:List Int):Int:=zs.foldl zga 2166136261
def cV (zs:List Int):Int:=wrap64 (bits BinOp.xor IntKind.u32 (fnv zs) ((zs.length:Int) * 65536 % 4294967296))
theorem zo5 {zs:List Int} {k:Nat} {z:Int} (hk:k<zs.length) (hz:zs.getD k 0=z):fnv (zs.take (k+1))=zga (fnv (zs.take k)) z:=by
 unfold fnv;rw[List.take_succ_eq_append_getElem hk,List.foldl_append];simp[List.getD_eq_getElem?_getD,hk]at hz
 simp[hz]
theorem mQ (a:Option Addr) (cap:Nat) (zs:List Int) (w:World) (h:aO .u8 w a zs) (hu:U8 zs) (hl:zs.length≤1048576) :
  Calls Tryz.prog 105 #[.slice a zs.length cap] w fun e w'=>e=.returned (.int .i64 (cV zs))∧w'=w:=by
 go_enter Tryz.func105,Tryz.ntmps105;go_wp2
 go_loop [3,4] (fun h i=>∃ k:Nat,k≤zs.length∧i=.int .i64 k∧h=.int .u32 (fnv (zs.take k))) (fun _ i=>zs.length - (intOf i).toNat)
 case atStart=>exact ⟨0,Nat.zero_le _,rfl,rfl⟩
 case round =>
  obtain ⟨k,hk,rfl,rfl⟩:=hrel;generalize hx:fnv (zs.take k)=x;have HX:=aA hx;clear hx;by_cases hlt:k<zs.length
  ·obtain ⟨b,off,rfl,hb,hc⟩:=h (by intro e;simp[e]at hlt)
   have hz01:=hu.get k;have hc1:=hc k hlt;generalize hz:zs.getD k 0=z at hz01 hc1;have HZ:=aA hz;have HC:=aA hc;clear hc h hz;go_wp2
   go_round
   case rel=>exact ⟨k+1,by omega,by go_num,by rw[zo5 hlt HZ.out,HX.out];rfl⟩
   case measure=>simp[intOf];omega
  ·go_wp2
   go_ret
   exact ⟨aM (by unfold cV;rw[←HX.out,List.take_of_length_le (by omega)]),rfl⟩
theorem zC (a:Option Addr) (cap:Nat) (zs:List Int) (w:World) (h:aO .u8 w a zs) (hu:U8 zs) (hl:zs.length≤1048576) :
  Calls Tryz.prog 128 #[.slice a zs.length cap] w fun e w'=>e=.returned (.int .i64 (cV zs))∧w'=w:=by
 go_enter Tryz.func128,Tryz.ntmps128;go_wp2
 go_loop [3,5,8] (fun h _ i=>∃ k:Nat,k≤zs.length∧i=.int .i64 k∧h=.int .u32 (fnv (zs.take k))) (fun _ _ i=>zs.length - (intOf i).toNat)
 case atStart=>exact ⟨0,Nat.zero_le _,rfl,rfl⟩
 case round =>
  obtain ⟨k,hk,rfl,rfl⟩:=hrel;generalize hx:fnv (zs.take k)=x;have HX:=aA hx;clear hx;by_cases hlt:k<zs.length
  ·obtain ⟨b,off,rfl,hb,hc⟩:=h (by intro e;simp[e]at hlt)
   have hz01:=hu.get k;have hc1:=hc k hlt;generalize hz:zs.getD k 0=z at hz01 hc1;have HZ:=aA hz;have HC:=aA hc;clear hc h hz;go_wp2
   go_round
   case rel=>exact ⟨k+1,by omega,by go_num,by rw[zo5 hlt HZ.out,HX.out];rfl⟩
   case measure=>simp[intOf];omega
  ·go_wp2
   go_ret
   exact ⟨aM (by unfold cV;rw[←HX.out,List.take_of_length_le (by omega)]),rfl⟩
theorem zqg (op:BinOp) (x y:Int):0≤bits op .u32 x y∧bits op .u32 x y<4294967296:=by
 unfold bits;simp only[IntKind.wrap_u32];omega
theorem qQ (zs:List Int):0≤cV zs∧cV zs≤4294967295:=by
 have h:=zqg .xor (fnv zs) ((zs.length:Int) * 65536 % 4294967296);unfold cV wrap64;omega
theorem zO {w:World} {B:Nat} {e:TypeId} {k:IntKind} {g n c:Nat} {zs:List Int} (h:w.ownsRow B e 1 (.slice (some ⟨g,0,none⟩) n c) n (zs.map (Value.int k))) (hn:n=zs.length):Own k w (some ⟨g,0,none⟩) zs:=by
 intro hz;have h0:0<n:=by rw[hn];exact List.length_pos_iff.2 hz
 refine ⟨g,0,rfl,(h.lt g rfl).2,fun i hi=>⟨?_,h.frozenAt _⟩⟩
 rw[Nat.zero_add,h.cellAt i (by omega)]
 simp[List.getD_eq_getElem?_getD,hi]
theorem fU.shape {B:Nat} {w:World} {v:Value} {P:Nat→List Int} {j:Nat} (h:fU B w v P j):∃ a c,v=.slice a j c:=by
 obtain ⟨A,C,h1,h2,h3⟩:=h;exact aQ h1
def G2 (B T:Nat) (w:World) (v:Value) (P:Nat→List Int) (n:Nat):Prop :=
 ∃ A C:Nat→Nat,w.ownsRow B 22 1 v n ((List.range n).map fun i=>.slice (some ⟨A i,0,none⟩) (P i).length (C i)) ∧
  (∀ i,i<n→w.ownsRow B 5 1 (.slice (some ⟨A i,0,none⟩) (P i).length (C i)) (P i).length ((P i).map (Value.int .u8))) ∧
  (∀ i i',i<n→i'<n→A i=A i'→i=i')∧(∀ i,i<n→A i<T)∧∀ b,v.ownBlock=some b→b<T
theorem U8.piece {zs:List Int} (h:U8 zs) (i:Nat):U8 (dM zs i):=fun z hz=>h z (List.mem_of_mem_drop (List.mem_of_mem_take hz))
theorem fU.at {B:Nat} {w:World} {a:Option Addr} {c:Nat} {P:Nat→List Int} {n j:Nat} (h:fU B w (.slice a n c) P n) (hj:j<n) :
  ∃ g x d,a=some ⟨g,0,none⟩∧w.cell? ⟨g,j,none⟩=some (.slice x (P j).length d)∧aO .u8 w x (P j):=by
 obtain ⟨A,C,h1,h2,h3⟩:=h;rcases h1.2 with ⟨_,h0⟩ | ⟨g,cap,cur,h',hb,hh,_⟩
 ·omega
 ·simp only[Value.slice.injEq,true_and]at h'
  obtain ⟨rfl,rfl⟩:=h';refine ⟨g,_,C j,rfl,?_,(zO (h2 j hj) rfl).reads⟩;rw[h1.cellAt j (by omega)]
  simp[hj]
def G1 (B T:Nat) (w:World) (v:Value) (ds:List Int):Prop :=
 w.ownsRow B 2 1 v ds.length (ds.map (Value.int .i64))∧∀ b,v.ownBlock=some b→b<T
def kP (zs:List Int) (j:Nat):List Int:=(List.range j).map fun i=>cV (dM zs i)
theorem yA (zs:List Int) (j:Nat):(kP zs j).length=j:=by simp[kP]
theorem zbe (zs:List Int) (j:Nat):(kP zs (j+1)).map (Value.int .i64)=(kP zs j).map (Value.int .i64) ++ [.int .i64 (cV (dM zs j))]:=by
 simp[kP,List.range_succ]
theorem fU.kept_own {B B':Nat} {w w':World} {v v':Value} {P:Nat→List Int} {n n' size:Nat} {e:TypeId} {xs:List Value} (h:fU B w v P n) (ho:w.ownsRow B' e size v' n' xs) (h1:e≠22) (h2:e≠5) (hk:aD (fun b=>v'.ownBlock=some b) w w'):fU B w' v P n:=by
 obtain ⟨A,C,k1,k2,k3⟩:=h;exact ⟨A,C,aH k1 hk (fun b hb hS=>aX ho k1 h1 hS hb),fun i hi=>aH (k2 i hi) hk (fun b hb hS=>aX ho (k2 i hi) h2 hS hb),k3⟩
theorem zl4 (a:Option Addr) (cap:Nat) (zs:List Int) (w:World) (h:aO .u8 w a zs) (hu:U8 zs) (hcap:zs.length≤cap) (hl:zs.length≤24) :
  Calls Tryz.prog 101 #[.slice a zs.length cap] w fun e w'=>∃ v,e=.returned v∧w'.ownsRow w.heap.size 2 1 v (cut zs).length ((kP zs (cut zs).length).map (Value.int .i64))∧Below w.heap.size w w':=by
 obtain ⟨i1,ki,kz0,kz1,kz2⟩:=info_parts Tryz.infoI64;have HR:=aA h;have HU:=aA hu;clear h hu;have hcl:(cut zs).length≤3:=by rw[gP];omega
 go_enter Tryz.func101,Tryz.ntmps101;go_wp2_with fail
 refine (zy2 a cap zs _ (HR.out.below (aC _ _)) hcap (by omega)).mono ?_
 rintro e w1 ⟨pv,rfl,hG,hb1⟩;obtain ⟨pa,pc,rfl⟩:=hG.shape;generalize hN:(cut zs).length=N at *;have HN:=aA hN;clear hN;have O1:=aA (aG (World.ownsRow_made (base:=w.heap.size) (e:=2) (size:=1) w #[] 0 (Nat.le_refl _) (Nat.zero_le _) rfl) hb1);have HG:=aA (hG.mono (B':=w.heap.size) (by simp))
 have HB:=aA (aB (aC w (.cells #[] 2)) hb1);clear hG hb1;go_wp2_with fail
 go_loopw [3,5] (fun v i wr=>∃ j:Nat,j≤N∧i=.int .i64 j∧wr.ownsRow w.heap.size 2 1 v j ((kP zs j).map (Value.int .i64))∧fU w.heap.size wr (.slice pa N pc) (dM zs) N∧Below w.heap.size w wr) (fun _ i _=>N - (intOf i).toNat)
 case atStart=>exact ⟨0,Nat.zero_le _,rfl,O1.out,HG.out,HB.out⟩
 case round =>
  obtain ⟨j,hj,rfl,hown,hG,hbel⟩:=hrel;by_cases hlt:j<N
  ·obtain ⟨g,x,d,rfl,hc0,hr0⟩:=hG.at hlt
   have hpl:(dM zs j).length≤1048576:=by rw[gB];omega
   have hm1:j+1≤maxLen:=by unfold maxLen;omega
   have hm2:(j+1) * 8≤140737488355328:=by omega
   have hsz:=hbel.size;have HR0:=aA hr0;have HO:=aA hown;have HGj:=aA hG;have HBj:=aA hbel;clear hr0 hown hG hbel;go_wp2_with (first | (go_at_call 105;refine (mQ _ _ (dM zs j) _ HR0.out (HU.out.piece j) hpl).mono ?_;rintro e w1' ⟨rfl,rfl⟩) | (at_builtin;refine bS rfl (.tmp 15) (.tmp 21) 48 rfl w.heap.size 2 i1 (.int .i64 0) 1 8 Tryz.underlying48 ki kz0 kz1 kz2 rfl (by decide) _ _ _ rfl HO.out rfl rfl (by intro u hu;simp at hu;subst hu;rfl) hm1 hm2 hsz ?_;intro v' w2 hown2 hkept;have O2:=aA hown2;have K2:=aA hkept;clear hown2 hkept))
   go_roundw
   case rel=>exact ⟨j+1,by omega,by go_num,by rw[zbe];exact O2.out,HGj.out.kept_own HO.out (by decide) (by decide) K2.out,aD.below_own HBj.out hsz HO.out K2.out⟩
   case measure=>simp[intOf];omega
  ·have hje:j=N:=by omega
   subst hje;go_wp2
   go_ret
   exact ⟨_,rfl,by rw[HN.out];exact hown,hbel⟩
end Go.Proofs.YtgaeikgoknoamaaGreat
namespace Go.Proofs.YtgaeikgoknoamaaGreat
open Go.RowKit Go.Maps
theorem aD.four (w:World) (b:Nat) (u0 u1 u2 u3:Value):aD (fun x=>x=b) w ((((w.setCell ⟨b,0,none⟩ u0).setCell ⟨b,1,none⟩ u1).setCell ⟨b,2,none⟩ u2).setCell ⟨b,3,none⟩ u3) :=
 aD.setCell (S:=fun x=>x=b) (p:=⟨b,3,none⟩) (aD.setCell (S:=fun x=>x=b) (p:=⟨b,2,none⟩) (aD.two w b 0 1 u0 u1) (fun _=>rfl) u2) (fun _=>rfl) u3
theorem kD (zs:List Int):(kP zs (cut zs).length).length=(cut zs).length:=by simp[kP]
def bV (p:Bs) (zs:List Int):En:=⟨p,1,zs.length,kP zs (cut zs).length⟩
theorem qA (p:Bs) (a:Option Addr) (cap:Nat) (zs:List Int) (w:World) (h:aO .u8 w a zs) (hu:U8 zs) (hcap:zs.length≤cap) (hl:zs.length≤24) :
  Calls Tryz.prog 58 #[.string (str p),.slice a zs.length cap] w fun r w'=>∃ av cv,r=.returned (.agg #[.string (str p),.int .i64 1,.int .i64 zs.length,.slice av (cut zs).length cv])∧w'.ownsRow w.heap.size 2 1 (.slice av (cut zs).length cv) (cut zs).length ((kP zs (cut zs).length).map (Value.int .i64))∧Below w.heap.size w w':=by
 have HD:=aA (fun u hb=>zl4 a cap zs u (h.below hb) hu hcap hl)
 clear h hu;go_enter Tryz.func58,Tryz.ntmps58;have B0:=aA (aC w (.cells #[.string ⟨#[]⟩,.int .i64 0,.int .i64 0,.slice none 0 0] 87));have F0:=aA (dI.new w (.string ⟨#[]⟩) (.int .i64 0) (.int .i64 0) (.slice none 0 0) 87);have Z0:=aA (show ∀ i,i<4→(w.alloc (.cells #[.string ⟨#[]⟩,.int .i64 0,.int .i64 0,.slice none 0 0] 87)).frozen? ⟨w.heap.size,i,none⟩=false from fun i hi=>by simp)
 go_wp2_with fail
 refine (HD.out _ B0.out).mono ?_;rintro r w1 ⟨v,rfl,hG,hb1⟩;obtain ⟨av,cv,rfl⟩:=aQ hG;have hlt0:=F0.out.lt;have B1:=aA (aB B0.out hb1);obtain ⟨f0,f1,f2,f3⟩:=F0.out.below hb1;have z0:=(hb1.frozen (p:=⟨w.heap.size,0,none⟩) hlt0).trans (Z0.out 0 (by omega))
 have z1:=(hb1.frozen (p:=⟨w.heap.size,1,none⟩) hlt0).trans (Z0.out 1 (by omega))
 have z2:=(hb1.frozen (p:=⟨w.heap.size,2,none⟩) hlt0).trans (Z0.out 2 (by omega))
 have z3:=(hb1.frozen (p:=⟨w.heap.size,3,none⟩) hlt0).trans (Z0.out 3 (by omega))
 have GG:=aA hG;clear hG hb1 B0 F0 Z0;go_wp2_with fail
 refine bodyPost_ret (v:=.agg #[.string (str p),.int .i64 1,.int .i64 zs.length,.slice av (cut zs).length cv]) (by simp[results,Tryz.results58,go_sem,f0,f1,f2,f3]) rfl ⟨av,cv,rfl,?_,(((B1.out.setCell (Nat.le_refl _) _).setCell (Nat.le_refl _) _).setCell (Nat.le_refl _) _).setCell (Nat.le_refl _) _⟩
 exact aS (aH (S:=fun b=>b=w.heap.size) GG.out (aD.four _ _ _ _ _ _) (fun b hb e=>by have:=(GG.out.lt b hb).1;omega)) (by omega)
end Go.Proofs.YtgaeikgoknoamaaGreat
namespace Go.Proofs.YtgaeikgoknoamaaGreat
def sA (k:Int):Bool:=decide (k=1∨k=2)
def pP (es:List En):Prop:=cL (cQ es) none es=cL (eI es) none es
theorem pP.good {es:List En} (h:pP es):zr4 es:=by
 by_cases hl:12<es.length
 ·exact zme hl
 ·exact zqj hl h
theorem zd0 {es:List En} (h:eL es):pP es:=oD (fun x hx _=>mL h x.path)
theorem ztb {es:List En} {e:En} (hr:eL es) (hh:∀ x∈es,cQ es x.path=true):pP (es ++ [e]):=by
 refine oD (fun x hx hxe=>?_)
 rcases List.mem_append.1 hx with hx | hx
 ·have h1:=hh x hx
  have h2:cQ (es ++ [e]) x.path=true:=by
   rw[dH]at h1 ⊢;rcases h1 with h1 | ⟨d,hd,h1⟩
   ·exact .inl h1
   ·exact .inr ⟨d,List.mem_append_left _ hd,h1⟩
  rw[h2]
  symm
  rw[mL hr]at h1;unfold eI at h1 ⊢;by_cases h0:aE x.path=[]
  ·simp[h0]
  ·rw[if_neg h0]at h1 ⊢
   cases hf:aK es (aE x.path) with
   | none=>rw[hf]at h1;simp at h1
   | some d =>
    rw[hf]at h1;have:aK (es ++ [e]) (aE x.path)=some d:=by
     rw[aK,List.find?_append];have hf':List.find? (fun y:En=>decide (y.path=aE x.path)) es=some d:=hf
     rw[hf'];rfl
    rw[this];exact h1
 ·simp only[List.mem_singleton]at hx
  subst hx;by_cases h0:aE x.path=[]
  ·simp[cQ,eI,h0]
  ·have hne:=wE (bQ hxe) h0
   have e1:cQ (es ++ [x]) x.path=cQ es x.path:=by
    simp[cQ,h0,dG,hne.symm]
   have e2:eI (es ++ [x]) x.path=eI es x.path:=by
    have:aK (es ++ [x]) (aE x.path)=aK es (aE x.path):=by
     simp[aK,List.find?_append,hne.symm]
    simp only[eI,this]
   rw[e1,e2,mL hr]
theorem zle {r0 e:En} {tl:List En} (h:aV (r0 :: tl)):pP (e :: tl):=by
 have hrt:eL tl:=(List.pairwise_cons.1 h.rise).2;by_cases hr:eL (e :: tl)
 ·exact zd0 hr
 ·have hb:dJ (cQ (e :: tl)) none e=dJ (eI (e :: tl)) none e:=by
   unfold dJ;by_cases he:aI e=0
   ·have:cQ (e :: tl) e.path=eI (e :: tl) e.path:=by
     by_cases h0:aE e.path=[]
     ·simp[cQ,eI,h0]
     ·have hne:=wE (bQ he) h0
      have e1:cQ (e :: tl) e.path=cQ tl e.path:=by simp[cQ,h0,dG,hne.symm]
      have e2:eI (e :: tl) e.path=eI tl e.path:=by
       have:aK (e :: tl) (aE e.path)=aK tl (aE e.path):=by simp[aK,hne.symm]
       simp only[eI,this]
      rw[e1,e2,mL hrt]
    rw[this]
   ·simp[he]
  unfold pP;simp only[cL];rw[hb];by_cases hz:dJ (eI (e :: tl)) none e=0
  ·rw[if_pos hz,if_pos hz]
   cases tl with
   | nil=>rfl
   | cons t1 r =>
    have ht:aI t1=0:=h.ent t1 (by simp)
    have hlow:gY (some e) t1=true:=by
     cases hlo:gY (some e) t1
     ·exfalso
      refine hr (List.pairwise_cons.2 ⟨fun y hy=>?_,hrt⟩)
      have h1:=ze3 hlo;rcases List.mem_cons.1 hy with rfl | hy
      ·exact h1
      ·exact iG _ _ _ h1 ((List.pairwise_cons.1 hrt).1 y hy)
     ·rfl
    simp only[cL];have b1:∀ H:Bs→Bool,dJ H (some e) t1=1:=fun H=>by simp[dJ,ht,hlow]
    rw[b1,b1];rfl
  ·rw[if_neg hz,if_neg hz]
theorem zk8 {e:En} {tl:List En} (h:aI e≠0):pP (e :: tl):=by
 have b1:∀ H:Bs→Bool,dJ H none e=aI e:=fun H=>by simp[dJ,h]
 unfold pP;simp only[cL,b1,if_neg h]
theorem sL {ns:List Bs} (h:1<ns.length):(bJ ns).getLastD []=bR (ns.take (ns.length - 1)):=by
 obtain ⟨m,hm⟩:∃ m,ns.length - 1=m+1:=⟨ns.length - 2,by omega⟩
 unfold bJ;rw[hm,List.range_succ,List.map_append,List.getLastD_eq_getLast?];simp
theorem zza {x p:Bs} (hx:aF x=0) (hp:aF p=0) (h:bG x p=true):aE x≠[]∧(aE x=p∨bG (aE x) p=true):=by
 have hm:=(jT hx).2 ⟨hp,h⟩;have hne:bJ (bF x.tail)≠[]:=fun e=>by rw[e]at hm;simp at hm
 have h0:aE x≠[]:=fun e=>hne (mD.1 e)
 refine ⟨h0,?_⟩;obtain ⟨ns,hN,hxe,hc,-⟩:=fT hx;rw[hc]at hm hne;obtain ⟨k,hk0,hk1,hpk⟩:=qC.1 hm;have hpar:aE x=bR (ns.take (ns.length - 1)):=by unfold aE;rw[hc];exact sL (by omega)
 by_cases hk:k=ns.length - 1
 ·exact .inl (by rw[hpar,hpk,hk])
 ·refine .inr ?_
  have hT:nC (ns.take (ns.length - 1)):=qD hN (by omega)
  have hf:=oX hT;rw[hpar];refine ((jT hf).1 ?_).2;rw[zzd hT,qC];refine ⟨k,hk0,by rw[List.length_take];omega,?_⟩
  rw[hpk,List.take_take,Nat.min_eq_left (by omega)]
def eH (es:List En) (p:Bs):Int :=
 if aE p=[] then 0 else
  match aK es (aE p) with
  | none=>4
  | some e=>if e.kind=1 then 9 else 0
theorem vM {es:List En} {p:Bs} (h:aE p=[]):eH es p=0:=by simp[eH,h]
theorem zk0 {es:List En} {p:Bs} (h:aE p≠[]) (hf:aK es (aE p)=none):eH es p=4:=by simp[eH,h,hf]
def vH (p:Bs):En:=⟨p,2,0,[]⟩
def cO (es:List En) (p:Bs):List En:=es.filter fun x=>decide (aE x.path=p)
theorem tD {p:Bs} (hp:aF p=0):aI (vH p)=0:=by
 rw[fN (e:=vH p) hp (by simp[gR,vH]) (by simp[kW,vH]) (by simp[lQ,vH])]
 rfl
end Go.Proofs.YtgaeikgoknoamaaGreat
