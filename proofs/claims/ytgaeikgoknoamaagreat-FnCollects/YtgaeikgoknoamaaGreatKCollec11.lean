/-
  Texts put together: DrawI OvrD CpyR MntA MntB SnpA.
-/
import Derived.Test.YtgaeikgoknoamaaGreatKCollec10
import Derived.Test.YtgaeikgoknoamaaGreatKCollec7
import Derived.Test.YtgaeikgoknoamaaGreatKCollec9
import Derived.Maps.AppendAt
import Derived.Test.YtgaeikgoknoamaaGreatKCollec1
import Derived.Test.YtgaeikgoknoamaaGreatKCollec4
import Derived.Laws.CopyRow
import Derived.ProofKit
import Derived.Deep.DrawnRows
import Derived.Test.YtgaeikgoknoamaaGreatKCollec5
import Derived.Test.YtgaeikgoknoamaaGreatKCollec8
set_option linter.unusedVariables false
set_option maxHeartbeats 6400000
set_option maxRecDepth 100000
namespace Go.Proofs.YtgaeikgoknoamaaGreat
open Go.RowKit Go.Maps
attribute [local go_sem ↓] Go.wp_at_zero Go.wp_at_succ
theorem GE.push2 {B T:Nat} {w1 w2:World} {v v':Value} {es:List En} {rs:List Rw} {e:En} {a:Option Addr} {c:Nat} (he:rs.map Rw.e=es)
  (h1:w1.ownsRow B 87 4 v es.length (aX rs))
  (h2:∀ r∈rs,w1.ownsRow B 2 1 (.slice r.a r.e.chunks.length r.c) r.e.chunks.length (r.e.chunks.map (Value.int .i64)))
  (h3:rs.Pairwise (fun r r'=>∀ g,r.a.map Addr.block=some g→r'.a.map Addr.block≠some g)) (h4:∀ r∈rs,∀ g,r.a.map Addr.block=some g→g<T) (hB:B≤T) (hT:T≤w1.heap.size)
  (hown:w1.ownsRow T 2 1 (.slice a e.chunks.length c) e.chunks.length (e.chunks.map (Value.int .i64)))
  (hv':w2.ownsRow B 87 4 v' (es.length+1) (aX rs++bZ ⟨e,a,c⟩))
  (hk:aE (fun b=>v.ownBlock=some b) w1 w2):GE B w2.heap.size w2 v' (es ++ [e]):=by
 have hg0:∀ g',a.map Addr.block=some g'→T≤g'∧g'<w1.heap.size:=fun g' hg=>hown.lt g' (lV hg)
 have hsz:=hk.size;refine ⟨rs ++ [⟨e,a,c⟩],by rw[List.map_append,he];rfl,?_,?_,?_,?_,fun b hb=>(hv'.lt b hb).2⟩
 ·rw[nL,List.length_append]
  simpa [aX] using hv'
 ·intro r hr
  rcases List.mem_append.1 hr with hr | hr
  ·exact aK (h2 r hr) hk (fun b hb hS=>cK h1 (h2 r hr) (by decide) hS hb)
  ·simp only[List.mem_singleton]at hr
   subst hr;exact aK (aW hown hB) hk (fun b hb hS=>cK h1 hown (by decide) hS hb)
 ·rw[List.pairwise_append]
  refine ⟨h3,List.pairwise_singleton _ _,fun r hr r' hr' g hg hg'=>?_⟩
  simp only[List.mem_singleton]at hr';subst hr';have:=h4 r hr g hg;have:=hg0 g hg';omega
 ·intro r hr g hg
  rcases List.mem_append.1 hr with hr | hr
  ·have:=h4 r hr g hg
   omega
  ·simp only[List.mem_singleton]at hr
   subst hr;have:=hg0 g hg;omega
theorem GE.store2 {B T:Nat} {w1:World} {G n c:Nat} {es:List En} {j:Nat} {e:En} {a:Option Addr} {cc:Nat} (h:GE B T w1 (.slice (some ⟨G,0,none⟩) n c) es) (hn:n=es.length) (hj:j<es.length) (hB:B≤T) (hT:T≤w1.heap.size)
  (hown:w1.ownsRow T 2 1 (.slice a e.chunks.length cc) e.chunks.length (e.chunks.map (Value.int .i64))) :
  GE B w1.heap.size ((((w1.setCell ⟨G,j * 4,none⟩ (.string (str e.path))).setCell ⟨G,j * 4+1,none⟩ (.int .i64 e.kind)).setCell ⟨G,j * 4+2,none⟩ (.int .i64 e.size)).setCell ⟨G,j * 4+3,none⟩ (.slice a e.chunks.length cc)) (.slice (some ⟨G,0,none⟩) n c) (es.set j e):=by
 subst hn;obtain ⟨rs,hrs,h1,h2,h3,h4,h5⟩:=h;have hl:rs.length=es.length:=by rw[←hrs,List.length_map]
 have s1:=((((h1.stored (j * 4) (.string (str e.path))).1.stored (j * 4+1) (.int .i64 e.kind)).1.stored (j * 4+2) (.int .i64 e.size)).1.stored (j * 4+3) (.slice a e.chunks.length cc)).1;rw[uW rs j ⟨e,a,cc⟩ (by omega)]at s1
 have hkp:aE (fun b=>b=G) w1 ((((w1.setCell ⟨G,j * 4,none⟩ (.string (str e.path))).setCell ⟨G,j * 4+1,none⟩ (.int .i64 e.kind)).setCell ⟨G,j * 4+2,none⟩ (.int .i64 e.size)).setCell ⟨G,j * 4+3,none⟩ (.slice a e.chunks.length cc)) :=
  aE.setCell (S:=fun b=>b=G) (p:=⟨G,j * 4+3,none⟩) (aE.setCell (S:=fun b=>b=G) (p:=⟨G,j * 4+2,none⟩) (aE.two _ _ _ _ _ _) (fun _=>rfl) _) (fun _=>rfl) _
 have hnew:∀ g,a.map Addr.block=some g→T≤g∧g<w1.heap.size:=fun g hg=>hown.lt g (lV hg)
 refine ⟨rs.set j ⟨e,a,cc⟩,by rw[List.map_set,hrs],by rw[List.length_set];exact s1,?_,?_,?_,fun b hb=>by have:=h5 b hb;omega⟩
 ·intro r0 hr0
  rcases List.mem_or_eq_of_mem_set hr0 with hr | rfl
  ·exact aK (h2 r0 hr) hkp (fun b hb hS=>cK h1 (h2 r0 hr) (by decide) (by subst hS;rfl) hb)
  ·exact aK (aW hown hB) hkp (fun b hb hS=>cK h1 hown (by decide) (by subst hS;rfl) hb)
 ·rw[List.pairwise_iff_getElem]
  intro i i' hi hi' hlt g hg hg';rw[List.length_set]at hi hi';rw[List.getElem_set]at hg hg';by_cases e1:j=i
  ·rw[if_pos e1]at hg
   rw[if_neg (by omega)]at hg'
   have:=h4 _ (List.getElem_mem hi') g hg';have:=hnew g hg;omega
  ·rw[if_neg e1]at hg
   by_cases e2:j=i'
   ·rw[if_pos e2]at hg'
    have:=h4 _ (List.getElem_mem hi) g hg;have:=hnew g hg';omega
   ·rw[if_neg e2]at hg'
    exact List.pairwise_iff_getElem.1 h3 i i' hi hi' hlt g hg hg'
 ·intro r0 hr0 g hg
  rcases List.mem_or_eq_of_mem_set hr0 with hr | rfl
  ·have:=h4 r0 hr g hg;omega
  ·exact (hnew g hg).2
def zej (w:World) (p:Nat) (zs:List Int) (T:Int) (es:List En) (v:Value) (w':World):Prop :=
 mB es∧es.length≤13∧bJ es∧GE w.heap.size w'.heap.size w' v es∧dH w' p zs T∧aE (fun b=>b=p) w w'
theorem zlb (p:Nat) (zs:List Int) (T:Int) (w:World) (h:dH w p zs T) (hu:U8 zs) (hT:T≤100000) (hl:zs.length≤2097152) :
  Calls Tryz.prog 98 #[.pointer (some ⟨p,0,none⟩)] w fun r w'=>∃ (es:List En) (av:Option Addr) (cv:Nat),r=.returned (.slice av es.length cv)∧zej w p zs (T+1100) es (.slice av es.length cv) w':=by
 obtain ⟨i1,ki,kz0,kz1,kz2⟩:=info_parts Tryz.infoEn;have hp:=h.lt;have HS:=aA h;have HU:=aA hu;clear h hu;go_enter Tryz.func98,Tryz.ntmps98;go_wp2_with fail
 refine (kV p zs T _ HS.out HU.out (by omega) hl).mono ?_
 rintro r w1 ⟨es,lv,lc,rfl,hR,hG1,s1,k1⟩;have HRi:=aA hR;have G1:=aA hG1;have S1:=aA s1;have K1:=aA k1;clear hR hG1 s1 k1 HS;go_wp2_with fail
 refine (eZ p zs _ 16 _ S1.out HU.out (by omega) (by decide) (by decide) hl).mono ?_
 rintro r w2 ⟨i,rfl,hi,s2,k2⟩;have S2:=aA s2;have K2:=aA (K1.out.trans k2);have G2:=aA (G1.out.keptP k2 hp);have hl12:=HRi.out.len;have hsz2:=K2.out.size;clear s2 k2 G1 S1 K1;by_cases h0:i=0
 ·subst h0
  go_wp2_with fail
  refine (wG p zs _ _ S2.out HU.out (by omega) hl).mono ?_
  rintro r w3 ⟨e,a,c,rfl,⟨hel,hec⟩,ho3,s3,k3⟩;have G3:=aA (G2.out.kept k3 (fun b h1 _ e=>by omega))
  have S3:=aA s3;have K3:=aA (K2.out.trans k3);have O3:=aA ho3;have hs3:=k3.size;clear ho3 s3 k3;obtain ⟨rs,g1,g2,g3,g4,g5,g6⟩:=G3.out;have Q1:=aA g1;have Q2:=aA g2;have Q3:=aA g3;have Q4:=aA g4;have Q5:=aA g5;clear g1 g2 g3 g4 g5 g6;have hm1:es.length+1≤maxLen:=by unfold maxLen;omega
  have hm1':(es.length+1) * 56≤140737488355328:=by omega
  go_wp2_with (at_builtin;refine dJ rfl (.tmp 10) (.tmp 13) 40 rfl w.heap.size 87 i1 (.agg #[.string ⟨#[]⟩,.int .i64 0,.int .i64 0,.slice none 0 0]) 4 56 Tryz.underlying40 ki kz0 kz1 kz2 rfl (by decide) _ _ _ rfl Q2.out _ rfl rfl rfl (by intro u hu;simp at hu;rcases hu with rfl | rfl | rfl | rfl <;> rfl) hm1 hm1' (by omega) ?_;intro av4 cv4 w4 hown4 hk4;have O4:=aA hown4;have K4:=aA hk4;clear hown4 hk4)
  go_ret
  refine ⟨es ++ [e],av4,cv4,by rw[List.length_append];rfl,zq9 HRi.out.rise HRi.out.home,by rw[List.length_append];simp;omega,fun y hy=>?_,?_,?_,?_⟩
  ·rcases List.mem_append.1 hy with hy | hy
   ·exact cS HRi.out y hy
   ·simp only[List.mem_singleton]at hy;subst hy;omega
  ·rw[List.length_append]
   exact GE.push2 Q1.out Q2.out Q3.out Q4.out Q5.out (by omega) (by omega) O3.out O4.out K4.out
  ·exact (S3.out.kept K4.out (fun b hb e=>by have:=(Q2.out.lt b e).1;omega)).mono (by omega)
  ·exact K3.out.trans_own K4.out (fun b hb e=>by have:=(Q2.out.lt b e).1;omega)
 ·by_cases h1:i=1
  ·subst h1
   by_cases hpos:0<es.length
   ·have hpos':(0:Int)<(es.length:Int):=by omega
    obtain ⟨g,rfl,-⟩:=G2.out.addr rfl (.inl hpos);go_wp2_with fail
    refine (wG p zs _ _ S2.out HU.out (by omega) hl).mono ?_
    rintro r w3 ⟨e,a,c,rfl,⟨hel,hec⟩,ho3,s3,k3⟩;have G3:=aA (G2.out.kept k3 (fun b h1 _ e=>by omega))
    have S3:=aA s3;have K3:=aA (K2.out.trans k3);have O3:=aA ho3;have hs3:=k3.size;clear ho3 s3 k3;have he0:es[0]?=some es[0]:=List.getElem?_eq_getElem hpos;obtain ⟨G,x',y',hGe,hg1,hg2,m0,m1,m2,m3,mf,-⟩:=G3.out.open he0;simp only[Option.some.injEq,Addr.mk.injEq,and_true]at hGe;subst hGe;have mf0:=mf 0;have mf1:=mf 1;have mf2:=mf 2;have mf3:=mf 3;simp only[Nat.zero_mul,Nat.zero_add]at m0 m1 m2 m3;generalize es[0]=z0 at *;clear mf he0;have HST:=aA (GE.store2 (j:=0) G3.out rfl hpos (by omega) (by omega) O3.out)
    simp only[Nat.zero_mul,Nat.zero_add]at HST;go_wp2_with fail
    go_ret
    have hk:aE (fun b=>b=g) w3 ((((w3.setCell ⟨g,0,none⟩ (.string (str e.path))).setCell ⟨g,1,none⟩ (.int .i64 e.kind)).setCell ⟨g,2,none⟩ (.int .i64 e.size)).setCell ⟨g,3,none⟩ (.slice a e.chunks.length c)) :=
     aE.setCell (S:=fun b=>b=g) (p:=⟨g,3,none⟩) (aE.setCell (S:=fun b=>b=g) (p:=⟨g,2,none⟩) (aE.two _ _ _ _ _ _) (fun _=>rfl) _) (fun _=>rfl) _
    have hgood:mB (es.set 0 e):=by
     cases hes:es with
     | nil=>rw[hes]at hpos;simp at hpos
     | cons r0 tl =>
      have:=HRi.out;rw[hes]at this;exact zic this
    refine ⟨es.set 0 e,some ⟨g,0,none⟩,lc,by rw[List.length_set];rfl,hgood,by rw[List.length_set];omega,fun y hy=>?_,?_,?_,?_⟩
    ·rcases List.mem_or_eq_of_mem_set hy with hy | rfl
     ·exact cS HRi.out y hy
     ·omega
    ·rw[List.length_set]
     simpa [World.setCell] using HST.out
    ·exact (S3.out.kept hk (fun b hb e=>by omega)).mono (by omega)
    ·exact K3.out.trans_own hk (fun b hb e=>by omega)
   ·have hpos':¬ (0:Int)<(es.length:Int):=by omega
    go_wp2_with fail
    go_ret
    exact ⟨es,lv,lc,rfl,rT HRi.out.rise,by omega,cS HRi.out,G2.out,S2.out.mono (by omega),K2.out⟩
  ·by_cases h2:i=2
   ·subst h2
    have hby:i1.bytes * 13≤281474976710656:=by rw[kz2];omega
    have hml:13≤maxLen:=by unfold maxLen;omega
    go_wp2_with (at_make;refine wpList_make_full _ rfl (.const (.int .i64 13)) (.const (.int .i64 13)) 40 rfl w2.heap.size 87 i1 (.agg #[.string ⟨#[]⟩,.int .i64 0,.int .i64 0,.slice none 0 0]) 4 Tryz.underlying40 ki kz0 kz1 .i64 .i64 _ _ 13 rfl rfl rfl rfl hby hml (Nat.le_refl _) ?_;intro w3 ho3 hg3;have O3:=aA ho3;have GW:=aA hg3;clear ho3 hg3)
    have B3:Hid (Below w2.heap.size w2 w3):=(Below.refl _ _).grown GW.out (Nat.le_refl _) (fun k hk=>by simp at hk)
    have G3:=aA (GE.mono (B':=w.heap.size) (GE.zeros (T:=w3.heap.size) O3.out (fun b hb=>(O3.out.lt b hb).2)) (by omega))
    have hlr:(List.replicate 13 zEn).length=13:=by simp
    go_wp2_with fail
    go_ret
    refine ⟨List.replicate 13 zEn,some ⟨w2.heap.size,0,none⟩,13,by rw[hlr];rfl,zm6 (e:=zEn) (tl:=List.replicate 12 zEn) (by decide),by rw[hlr];decide,fun y hy=>?_,by rw[hlr];exact G3.out,(S2.out.below B3.out).mono (by omega),K2.out.trans (aE.of_below B3.out)⟩
    rw[(List.mem_replicate.1 hy).2];simp[zEn]
   ·have e0:((i:Int)==0)=false:=by simp;omega
    have e1:((i:Int)==1)=false:=by simp;omega
    have e2:((i:Int)==2)=false:=by simp;omega
    clear h0 h1 h2;go_wp2_with fail
    go_ret
    exact ⟨es,lv,lc,rfl,rT HRi.out.rise,by omega,cS HRi.out,G2.out,S2.out.mono (by omega),K2.out⟩
structure Ly where
 es:List En
 a:Option Addr
 c:Nat
def lyV (x:Ly):Value:=.slice x.a x.es.length x.c
theorem zr3:(Tryz.prog.info? 40).map (fun i=>(i.zero,i.size,i.bytes))=some (some (.slice none 0 0),1,24):=by kernel_rfl
theorem uE {w w':World} (h:w.grownBy w' none):Below w.heap.size w w':=⟨h.os,h.tape,h.output,h.size,fun k hk=>h.block k hk (by simp)⟩
theorem lR {P:Program} {w:World} {ops:Array Oper} {rest:List Oper} {o:Oper} {a:Act} {Q:Exit→Act→World→Prop} (hgd:o.guard=none) (d s:Operand) (t:TypeId)
  (ho:o.op=.call { callee:=.builtin .copy,args:=#[d,s],argTypes:=#[t,t] })
  (base:Nat) (e:TypeId) (i:TypeInfo) (size:Nat) (ht:P.underlying t=some (.slice e)) (hi:P.info? e=some i) (hsize:i.size=size) (hpos:0<size)
  (g n c:Nat) (xs:List Value) (hd:a.eval d=.slice (some ⟨g,0,none⟩) n c) (hown:w.ownsRow base e size (.slice (some ⟨g,0,none⟩) n c) n xs)
  (sp:Option Addr) (m sc:Nat) (cs:List Value) (hs:a.eval s=.slice sp m sc) (hm:m≤n) (hcl:cs.length=m * size)
  (hsrc:cs≠[]→∃ ad,sp=some ad∧∀ j u,cs[j]?=some u→w.cell? (ad.add j)=some u) (h1:∀ u∈cs,u.oneCell'=true)
  (h:∀ w',w'.ownsRow base e size (.slice (some ⟨g,0,none⟩) n c) n (cs++xs.drop (m * size))→aE (fun b=>b=g) w w'→wpList P ops Q rest (a.put o.dst (goInt m)) w') :
  wpList P ops Q (o :: rest) a w:=by
 have hmin:Nat.min m n=m:=Nat.min_eq_left hm;refine wpList_plain hgd fun K hK=>?_
 by_cases hz:cs=[]
 ·subst hz
  have hm0:m=0:=by
   simp only[List.length_nil]at hcl;rcases Nat.mul_eq_zero.1 hcl.symm with h0 | h0
   ·exact h0
   ·omega
  subst hm0;have hl:∀ (x:Addr),(loadCells x 0).run P w=.ok #[] w:=fun x=>by simpa using run_loadCells_list (P:=P) w x [] (by simp)
  have hrun:(Builtin.copy_ #[t,t] o.type #[.slice (some ⟨g,0,none⟩) n c,.slice sp 0 sc]).run P w=.ok (goInt 0) w:=by
   cases sp <;> simp[Builtin.copy_,run_underlying ht,Builtin.lenOf,Builtin.firstCells,sizeOf,typeInfo,hi,storeCells,hl]
  unfold Oper.wp;simp[execOp,ho,resolve,invoke,builtin,hd,hs,hrun,Result.andThen]
  exact hK _ _ (h w (by simpa using hown) (aE.refl _ _))
 ·obtain ⟨ad,rfl,hsr2⟩:=hsrc hz
  rcases hown.2 with ⟨hv,_⟩ | ⟨g',cap,cur,hv,hb,hh,hnc,hcm,hcs,htk⟩
  ·cases hv
  ·cases hv
   have hfit:cs.length≤cur.size:=by
    rw[hcl,hcs];exact Nat.mul_le_mul_right _ (Nat.le_trans hm hnc)
   have hl:=run_loadCells_list (P:=P) w ad cs hsr2;have hst:=run_storeCells_at P g 0 e cs 0 cur w hh (by simpa using hfit) h1
   have hrun:(Builtin.copy_ #[t,t] o.type #[.slice (some ⟨g,0,none⟩) n c,.slice (some ad) m sc]).run P w=.ok (goInt m) (w.setRow g (cs++cur.toList.drop cs.length).toArray):=by
    rw[hcl]at hl;simp[Builtin.copy_,run_underlying ht,Builtin.lenOf,Builtin.firstCells,sizeOf,typeInfo,hi,hsize,hmin,hl,hst]
   unfold Oper.wp;simp[execOp,ho,resolve,invoke,builtin,hd,hs,hrun,Result.andThen]
   refine hK _ _ (h _ ⟨?_,.inr ⟨g,c,(cs++cur.toList.drop cs.length).toArray,rfl,hb,setRow_heap w g cur _ e (0,0) hh,hnc,hcm,?_,?_⟩⟩ ⟨rfl,rfl,rfl,by simp[World.setRow],fun k hk hn=>setRow_other w g k _ hn⟩)
   ·rw[List.length_append,List.length_drop,hown.1,hcl,←Nat.sub_mul,←Nat.add_mul]
    congr 1;omega
   ·simp only[List.size_toArray,List.length_append,List.length_drop,Array.length_toList]
    omega
   ·have hle:cs.length≤n * size:=by rw[hcl];exact Nat.mul_le_mul_right _ hm
    rw[List.take_append,List.take_of_length_le hle,←htk,List.drop_take,hcl]
theorem zj7 {k:IntKind} {w:World} {a:Option Addr} {zs:List Int} (h:aZ k w a zs):∀ W:World,Below w.heap.size w W→zs.map (Value.int k)≠[]→∃ ad,a=some ad∧∀ (j:Nat) u,(zs.map (Value.int k))[j]?=some u→W.cell? (ad.add j)=some u:=fun W hW hz=>by
 obtain ⟨b,off,e,hb,hc⟩:=(h.below hW) (by intro e;simp[e]at hz)
 exact ⟨⟨b,off,none⟩,e,oU hc⟩
theorem uK (z:Array Value) (n:Nat):(madeCells z n).toList.drop n=[]:=List.drop_eq_nil_of_le (by rw[Array.length_toList,size_madeCells];exact Nat.le_refl _)
theorem zS (a:Option Addr) (c n:Nat) (zs:List Int) (w:World) (h:aZ .i64 w a zs) (hn:n=zs.length) (hl:zs.length≤1048576) :
  Calls Tryz.prog 87 #[.slice a n c] w fun r w'=>∃ av cv,r=.returned (.slice av zs.length cv)∧w'.ownsRow w.heap.size 2 1 (.slice av zs.length cv) zs.length (zs.map (Value.int .i64))∧Below w.heap.size w w':=by
 subst hn;obtain ⟨i0,hi0,hz0,hz1,hz2⟩:=info_parts Tryz.infoI64;by_cases hz:zs=[]
 ·subst hz
  go_enter Tryz.func87,Tryz.ntmps87;go_wp2_with fail
  go_ret
  exact ⟨none,0,rfl,World.ownsRow_nil _ _ _ _,Below.refl _ _⟩
 ·have hp:0<zs.length:=List.length_pos_iff.2 hz
  have HC:=aA (zj7 h);have HV1:=aA (rX .i64 zs);have hby:i0.bytes * zs.length≤281474976710656:=by rw[hz2];omega
  have hml:zs.length≤maxLen:=by unfold maxLen;omega
  have HVN:=aA (show (zs.map (Value.int .i64)).length=zs.length * 1 by simp)
  have HD:=aA (show (madeCells (Value.int .i64 0).cells (zs.length * 1)).toList.drop (zs.length * 1)=[] from uK _ _)
  clear h hz;generalize hvs:zs.map (Value.int .i64)=vs at *;clear hvs;generalize zs.length=N at *;have hne:((N:Int)==0)=false:=by simp;omega
  go_enter Tryz.func87,Tryz.ntmps87;go_wp2_with (first
   | (at_make;refine wpList_make_full _ rfl (.tmp 8) (.tmp 8) 48 rfl w.heap.size 2 i0 (.int .i64 0) 1 Tryz.underlying48 hi0 hz0 hz1 .i64 .i64 _ _ N rfl rfl (by simp) (by simp) hby hml (Nat.le_refl _) ?_;intro w1 ho1 hg1;have O1:=aA ho1;have B1:=aA (uE hg1);clear ho1 hg1)
   | (refine lR rfl (.tmp 10) (.tmp 11) 48 rfl w.heap.size 2 i0 1 Tryz.underlying48 hi0 hz1 (by decide) w.heap.size N N _ rfl O1.out a N c vs rfl (Nat.le_refl _) HVN.out (HC.out w1 B1.out) HV1.out ?_;rw[HD.out,List.append_nil];intro w2 ho2 hk2;have O2:=aA ho2;have B2:=aA (B1.out.trans (hk2.below (B:=w.heap.size) B1.out.size (fun b hb e=>by omega)));clear ho2 hk2))
  go_ret
  exact ⟨_,_,rfl,O2.out,B2.out⟩
theorem RdL.cells {w:World} {a:Option Addr} {ls:List (List En)} (h:RdL w a ls):∃ vs:List Value,vs.length=ls.length∧(∀ W:World,Below w.heap.size w W→vs≠[]→∃ ad,a=some ad∧∀ j u,vs[j]?=some u→W.cell? (ad.add j)=some u)∧(∀ u∈vs,u.oneCell'=true)∧∀ (i:Nat) (es:List En),ls[i]?=some es→∃ x c,vs[i]?=some (Value.slice x es.length c)∧RdE w x es:=by
 by_cases hz:ls=[]
 ·subst hz
  exact ⟨[],rfl,fun _ _ h=>absurd rfl h,fun u hu=>by simp at hu,fun i es he=>by simp at he⟩
 ·obtain ⟨b,off,A,C,rfl,hb,hc⟩:=h hz
  refine ⟨(List.range ls.length).map fun i=>Value.slice (A i) (ls.getD i []).length (C i),by simp,fun W hW _=>⟨⟨b,off,none⟩,rfl,fun j u hj=>?_⟩,fun u hu=>?_,fun i es he=>?_⟩
  ·have hlt:j<ls.length:=by have:=(List.getElem?_eq_some_iff.1 hj).1;simpa using this
   have he:ls[j]?=some ls[j]:=List.getElem?_eq_getElem hlt;obtain ⟨c0,-⟩:=hc j _ he;rw[List.getElem?_map,List.getElem?_range hlt]at hj
   simp only[Option.map_some,Option.some.injEq]at hj;rw[eK,hW.cell (p:=⟨b,off+j,none⟩) hb,c0,←hj];simp[List.getD_eq_getElem?_getD,he]
  ·obtain ⟨i,-,rfl⟩:=List.mem_map.1 hu
   rfl
  ·have hlt:i<ls.length:=(List.getElem?_eq_some_iff.1 he).1
   obtain ⟨-,r⟩:=hc i es he;exact ⟨A i,C i,by rw[List.getElem?_map,List.getElem?_range hlt];simp[List.getD_eq_getElem?_getD,he],r⟩
theorem zkg {w:World} {a:Option Addr} {es:List En} (h:RdE w a es):∃ rs:List Rw,rs.map Rw.e=es∧(∀ r∈rs,aZ .i64 w r.a r.e.chunks)∧(∀ W:World,Below w.heap.size w W→aX rs≠[]→∃ ad,a=some ad∧∀ (j:Nat) u,(aX rs)[j]?=some u→W.cell? (ad.add j)=some u):=by
 by_cases hz:es=[]
 ·subst hz
  exact ⟨[],rfl,fun r hr=>by simp at hr,fun _ _ h=>absurd rfl h⟩
 ·obtain ⟨b,off,A,C,rfl,hb,hc⟩:=h hz
  have hmap:((List.range es.length).map fun i=>(⟨es.getD i zEn,A i,C i⟩:Rw)).map Rw.e=es:=by
   rw[List.map_map];apply List.ext_getElem?
   intro i;by_cases hi:i<es.length
   ·rw[List.getElem?_map,List.getElem?_range hi]
    simp[List.getD_eq_getElem?_getD,List.getElem?_eq_getElem hi]
   ·rw[List.getElem?_eq_none (by simp;omega),List.getElem?_eq_none (by omega)]
  refine ⟨_,hmap,fun r hr=>?_,fun W hW _=>⟨⟨b,off,none⟩,rfl,fun j u hj=>?_⟩⟩
  ·obtain ⟨i,hi,rfl⟩:=List.mem_map.1 hr
   have hi':=List.mem_range.1 hi;have he:es[i]?=some (es.getD i zEn):=by rw[List.getD_eq_getElem?_getD,List.getElem?_eq_getElem hi'];rfl
   exact (hc i _ he).2.2.2.2
  ·have hlt:j<es.length * 4:=by
    have:=(List.getElem?_eq_some_iff.1 hj).1;rw[eH]at this;simpa using this
   have hq:j / 4<es.length:=by omega
   have he:es[j / 4]?=some (es.getD (j / 4) zEn):=by rw[List.getD_eq_getElem?_getD,List.getElem?_eq_getElem hq];rfl
   obtain ⟨c0,c1,c2,c3,-⟩:=hc (j / 4) _ he;have hr:((List.range es.length).map fun i=>(⟨es.getD i zEn,A i,C i⟩:Rw))[j / 4]?=some ⟨es.getD (j / 4) zEn,A (j / 4),C (j / 4)⟩:=by rw[List.getElem?_map,List.getElem?_range hq];rfl
   have hg:=jV _ (j / 4) (j % 4) _ hr (by omega)
   rw[show j / 4 * 4+j % 4=j by omega,hj]at hg
   rw[eK,hW.cell (p:=⟨b,off+j,none⟩) hb,hg];rcases (show j % 4=0∨j % 4=1∨j % 4=2∨j % 4=3 by omega) with h4 | h4 | h4 | h4
   ·rw[h4,show off+j=off+j / 4 * 4 by omega,c0];rfl
   ·rw[h4,show off+j=off+j / 4 * 4+1 by omega,c1];rfl
   ·rw[h4,show off+j=off+j / 4 * 4+2 by omega,c2];rfl
   ·rw[h4,show off+j=off+j / 4 * 4+3 by omega,c3];rfl
theorem zd2 (a:Option Addr) (c n:Nat) (es:List En) (w:World) (h:RdE w a es) (hn:n=es.length) (hl:es.length≤1048576) (h0:0<es.length) :
  Calls Tryz.prog 86 #[.slice a n c] w fun r w'=>∃ rs:List Rw,r=.returned (.slice (some ⟨w.heap.size,0,none⟩) es.length es.length)∧rs.map Rw.e=es∧w'.ownsRow w.heap.size 87 4 (.slice (some ⟨w.heap.size,0,none⟩) es.length es.length) es.length (aX rs)∧(∀ r∈rs,aZ .i64 w r.a r.e.chunks)∧Below w.heap.size w w':=by
 subst hn;obtain ⟨i1,ki,kz0,kz1,kz2⟩:=info_parts Tryz.infoEn;obtain ⟨rs,hrs,hrd,hcl⟩:=zkg h;have HC:=aA hcl;have HV1:=aA (jE rs);have HRS:=aA hrs;have HRD:=aA hrd;have hby:i1.bytes * es.length≤281474976710656:=by rw[kz2];omega
 have hml:es.length≤maxLen:=by unfold maxLen;omega
 have HVN:=aA (show (aX rs).length=es.length * 4 by rw[eH,←hrs,List.length_map])
 have HD:=aA (show (madeCells (Value.agg #[.string ⟨#[]⟩,.int .i64 0,.int .i64 0,.slice none 0 0]).cells (es.length * 4)).toList.drop (es.length * 4)=[] from uK _ _)
 clear h hcl hrs hrd;have HKK:=aA (fun (N:Nat) (hN:N=es.length)=>hN)
 clear HKK;generalize hNN:es.length=N at *;have hne:((N:Int)==0)=false:=by simp;omega
 clear hNN;go_enter Tryz.func86,Tryz.ntmps86;go_wp2_with (first
  | (at_make;refine wpList_make_full _ rfl (.tmp 8) (.tmp 8) 40 rfl w.heap.size 87 i1 (.agg #[.string ⟨#[]⟩,.int .i64 0,.int .i64 0,.slice none 0 0]) 4 Tryz.underlying40 ki kz0 kz1 .i64 .i64 _ _ N rfl rfl (by simp) (by simp) hby hml (Nat.le_refl _) ?_;intro w1 ho1 hg1;have O1:=aA ho1;have B1:=aA (uE hg1);clear ho1 hg1)
  | (refine lR rfl (.tmp 10) (.tmp 11) 40 rfl w.heap.size 87 i1 4 Tryz.underlying40 ki kz1 (by decide) w.heap.size N N _ rfl O1.out a N c (aX rs) rfl (Nat.le_refl _) HVN.out (HC.out w1 B1.out) HV1.out ?_;rw[HD.out,List.append_nil];intro w2 ho2 hk2;have O2:=aA ho2;have B2:=aA (B1.out.trans (hk2.below (B:=w.heap.size) B1.out.size (fun b hb e=>by omega)));clear ho2 hk2))
 go_ret
 exact ⟨rs,rfl,HRS.out,O2.out,HRD.out,B2.out⟩
theorem ze2 (c:Nat) (a:Option Addr) (w:World) :
  Calls Tryz.prog 86 #[.slice a 0 c] w fun r w'=>r=.returned (.slice none 0 0)∧w'=w:=by
 go_enter Tryz.func86,Tryz.ntmps86;go_wp2_with fail
 go_ret
 exact ⟨rfl,rfl⟩
def kH (B:Nat) (w:World) (g c k:Nat) (es:List En):Prop :=
 ∃ rs:List Rw,rs.map Rw.e=es∧w.ownsRow B 87 4 (.slice (some ⟨g,0,none⟩) es.length c) es.length (aX rs)∧(∀ r∈rs,aZ .i64 w r.a r.e.chunks∧(r.e.chunks≠[]→∀ x,r.a=some x→x.block≠g)) ∧
  ∀ i r,rs[i]?=some r→i<k→w.ownsRow B 2 1 (.slice r.a r.e.chunks.length r.c) r.e.chunks.length (r.e.chunks.map (Value.int .i64))
theorem kH.below {B:Nat} {w w':World} {g c k:Nat} {es:List En} (h:kH B w g c k es) (hb:Below w.heap.size w w'):kH B w' g c k es:=by
 obtain ⟨rs,h1,h2,h3,h4⟩:=h;exact ⟨rs,h1,aJ h2 hb,fun r hr=>⟨(h3 r hr).1.below hb,(h3 r hr).2⟩,fun i r hr hi=>aJ (h4 i r hr hi) hb⟩
theorem kH.rd {B:Nat} {w:World} {g c k:Nat} {es:List En} (h:kH B w g c k es):RdE w (some ⟨g,0,none⟩) es:=by
 obtain ⟨rs,h1,h2,h3,-⟩:=h;exact (show SE B w (.slice (some ⟨g,0,none⟩) es.length c) es from ⟨rs,h1,h2,fun r hr=>(h3 r hr).1⟩).rd
def GW (B:Nat) (w:World) (v:Value) (es:List En):Prop :=
 ∃ rs:List Rw,rs.map Rw.e=es∧w.ownsRow B 87 4 v es.length (aX rs)∧∀ r∈rs,w.ownsRow B 2 1 (.slice r.a r.e.chunks.length r.c) r.e.chunks.length (r.e.chunks.map (Value.int .i64))
theorem GW.of {B T:Nat} {w:World} {v:Value} {es:List En} (h:GE B T w v es):GW B w v es:=by
 obtain ⟨rs,h1,h2,h3,-⟩:=h;exact ⟨rs,h1,h2,h3⟩
theorem GW.rd {B:Nat} {w:World} {a:Option Addr} {n c:Nat} {es:List En} (h:GW B w (.slice a n c) es):RdE w a es:=by
 obtain ⟨rs,h1,h2,h3⟩:=h;exact (show SE B w (.slice a n c) es from ⟨rs,h1,h2,fun r hr=>cY (h3 r hr) rfl⟩).rd
theorem GW.nil (B:Nat) (w:World):GW B w (.slice none 0 0) []:=⟨[],rfl,World.ownsRow_nil _ _ _ _,fun r hr=>by simp at hr⟩
theorem GW.kept {S:Nat→Prop} {B:Nat} {w w':World} {v:Value} {es:List En} (h:GW B w v es) (hk:aE S w w') (hS:∀ b,B≤b→¬ S b):GW B w' v es:=by
 obtain ⟨rs,h1,h2,h3⟩:=h;exact ⟨rs,h1,aK h2 hk (fun b hb=>hS b (h2.lt b hb).1),fun r hr=>aK (h3 r hr) hk (fun b hb=>hS b ((h3 r hr).lt b hb).1)⟩
theorem GW.below {B:Nat} {w w':World} {v:Value} {es:List En} (h:GW B w v es) (hb:Below w.heap.size w w'):GW B w' v es:=by
 obtain ⟨rs,h1,h2,h3⟩:=h;exact ⟨rs,h1,aJ h2 hb,fun r hr=>aJ (h3 r hr) hb⟩
theorem GW.mono {B B':Nat} {w:World} {v:Value} {es:List En} (h:GW B w v es) (hb:B'≤B):GW B' w v es:=by
 obtain ⟨rs,h1,h2,h3⟩:=h;exact ⟨rs,h1,aW h2 hb,fun r hr=>aW (h3 r hr) hb⟩
theorem kH.done {B:Nat} {w:World} {g c k:Nat} {es:List En} (h:kH B w g c k es) (hk:es.length≤k):GW B w (.slice (some ⟨g,0,none⟩) es.length c) es:=by
 obtain ⟨rs,h1,h2,h3,h4⟩:=h;refine ⟨rs,h1,h2,fun r hr=>?_⟩
 obtain ⟨i,hi,he⟩:=List.getElem_of_mem hr;have hl:rs.length=es.length:=by rw[←h1,List.length_map]
 exact h4 i r (by rw[List.getElem?_eq_getElem hi,he]) (by omega)
theorem zw1 {rs:List Rw} {k:Nat} {r:Rw} (hr:rs[k]?=some r):(aX rs).set (k * 4) (.string (str r.e.path))=aX rs:=by
 have g0:=jV rs k 0 r hr (by decide)
 rw[Nat.add_zero]at g0;apply List.ext_getElem?
 intro j;rw[List.getElem?_set];by_cases hj:k * 4=j
 ·subst hj
  have hlt:k * 4<(aX rs).length:=by have:=(List.getElem?_eq_some_iff.1 hr).1;rw[eH];omega
  rw[if_pos rfl,if_pos hlt,g0];rfl
 ·rw[if_neg hj]
theorem zae {rs:List Rw} {k:Nat} {r:Rw} (hr:rs[k]?=some r) (x:Option Addr) (cc:Nat):(aX rs).set (k * 4+3) (.slice x r.e.chunks.length cc)=aX (rs.set k ⟨r.e,x,cc⟩):=by
 have hk:=(List.getElem?_eq_some_iff.1 hr).1;rw[←uW rs k ⟨r.e,x,cc⟩ hk,zw1 hr];have g1:=jV rs k 1 r hr (by decide)
 have g2:=jV rs k 2 r hr (by decide)
 have l1:k * 4+1<(aX rs).length:=by rw[eH];omega
 have l2:k * 4+2<(aX rs).length:=by rw[eH];omega
 have e1:(aX rs).set (k * 4+1) (.int .i64 r.e.kind)=aX rs:=by
  apply List.ext_getElem?
  intro j;rw[List.getElem?_set];by_cases hj:k * 4+1=j
  ·subst hj;rw[if_pos rfl,if_pos l1,g1];rfl
  ·rw[if_neg hj]
 have e2:(aX rs).set (k * 4+2) (.int .i64 r.e.size)=aX rs:=by
  apply List.ext_getElem?
  intro j;rw[List.getElem?_set];by_cases hj:k * 4+2=j
  ·subst hj;rw[if_pos rfl,if_pos l2,g2];rfl
  ·rw[if_neg hj]
 rw[e1,e2]
theorem kH.row {B:Nat} {w:World} {g c k K:Nat} {es:List En} {e:En} (h:kH B w g c K es) (he:es[k]?=some e):∃ rs:List Rw,∃ r:Rw,rs.map Rw.e=es∧rs[k]?=some r∧r.e=e∧w.ownsRow B 87 4 (.slice (some ⟨g,0,none⟩) es.length c) es.length (aX rs)∧(∀ r∈rs,aZ .i64 w r.a r.e.chunks∧(r.e.chunks≠[]→∀ x,r.a=some x→x.block≠g)) ∧
  ∀ i r,rs[i]?=some r→i<K→w.ownsRow B 2 1 (.slice r.a r.e.chunks.length r.c) r.e.chunks.length (r.e.chunks.map (Value.int .i64)):=by
 obtain ⟨rs,h1,h2,h3,h4⟩:=h;have hk:k<es.length:=(List.getElem?_eq_some_iff.1 he).1;have hl:rs.length=es.length:=by rw[←h1,List.length_map]
 obtain ⟨r,hr⟩:∃ r,rs[k]?=some r:=⟨_,List.getElem?_eq_getElem (by omega)⟩
 refine ⟨rs,r,h1,hr,?_,h2,h3,h4⟩;have:(rs.map Rw.e)[k]?=some r.e:=by rw[List.getElem?_map,hr];rfl
 rw[h1,he]at this;exact (Option.some.inj this).symm
theorem kH.set0 {B:Nat} {w:World} {g c k K:Nat} {es:List En} {e:En} (h:kH B w g c K es) (he:es[k]?=some e):kH B (w.setCell ⟨g,k * 4,none⟩ (.string (str e.path))) g c K es:=by
 obtain ⟨rs,r,h1,hr,rfl,h2,h3,h4⟩:=h.row he;have s1:=(h2.stored (k * 4) (.string (str r.e.path))).1;rw[zw1 hr]at s1;have hkp:aE (fun b=>b=g) w (w.setCell ⟨g,k * 4,none⟩ (.string (str r.e.path))):=aE.setCell (S:=fun b=>b=g) (p:=⟨g,k * 4,none⟩) (aE.refl _ _) (fun _=>rfl) _
 exact ⟨rs,h1,s1,fun r0 hr0=>⟨(h3 r0 hr0).1.kept hkp (fun hz y hy hS=>(h3 r0 hr0).2 hz y hy hS),(h3 r0 hr0).2⟩,fun i r0 hr0 hi=>aK (h4 i r0 hr0 hi) hkp (fun b hb hS=>cK h2 (h4 i r0 hr0 hi) (by decide) (by subst hS;rfl) hb)⟩
theorem kH.set3 {B:Nat} {w:World} {g c k:Nat} {es:List En} {e:En} {x:Option Addr} {cc:Nat} (h:kH B w g c k es) (he:es[k]?=some e) (hx:w.ownsRow B 2 1 (.slice x e.chunks.length cc) e.chunks.length (e.chunks.map (Value.int .i64))) (hg:e.chunks≠[]→∀ y,x=some y→y.block≠g):kH B (w.setCell ⟨g,k * 4+3,none⟩ (.slice x e.chunks.length cc)) g c (k+1) es:=by
 obtain ⟨rs,r,h1,hr,rfl,h2,h3,h4⟩:=h.row he;have hk:k<es.length:=(List.getElem?_eq_some_iff.1 he).1;have s1:=(h2.stored (k * 4+3) (.slice x r.e.chunks.length cc)).1;rw[zae hr]at s1;have hkp:aE (fun b=>b=g) w (w.setCell ⟨g,k * 4+3,none⟩ (.slice x r.e.chunks.length cc)):=aE.setCell (S:=fun b=>b=g) (p:=⟨g,k * 4+3,none⟩) (aE.refl _ _) (fun _=>rfl) _
 have hx2:=aK hx hkp (fun b hb hS=>cK h2 hx (by decide) (by subst hS;rfl) hb)
 refine ⟨rs.set k ⟨r.e,x,cc⟩,?_,s1,fun r0 hr0=>?_,fun i r0 hr0 hi=>?_⟩
 ·rw[List.map_set,h1]
  apply List.ext_getElem?
  intro j;rw[List.getElem?_set];by_cases hj:k=j
  ·subst hj;rw[if_pos rfl,if_pos hk,he]
  ·rw[if_neg hj]
 ·rcases List.mem_or_eq_of_mem_set hr0 with hr1 | rfl
  ·exact ⟨(h3 r0 hr1).1.kept hkp (fun hz y hy hS=>(h3 r0 hr1).2 hz y hy hS),(h3 r0 hr1).2⟩
  ·exact ⟨cY hx2 rfl,hg⟩
 ·rw[List.getElem?_set]at hr0
  by_cases hj:k=i
  ·subst hj
   rw[if_pos rfl]at hr0;split at hr0
   ·cases hr0;exact hx2
   ·cases hr0
  ·rw[if_neg hj]at hr0
   exact aK (h4 i r0 hr0 (by omega)) hkp (fun b hb hS=>cK h2 (h4 i r0 hr0 (by omega)) (by decide) (by subst hS;rfl) hb)
theorem oG (a:Option Addr) (c n:Nat) (es:List En) (w:World) (h:RdE w a es) (hn:n=es.length) (hl:es.length≤1048576) (hs:bJ es) :
  Calls Tryz.prog 42 #[.slice a n c] w fun r w'=>∃ av cv,r=.returned (.slice av es.length cv)∧GW w.heap.size w' (.slice av es.length cv) es∧Below w.heap.size w w':=by
 subst hn;have HS:=aA hs;by_cases hz:es=[]
 ·subst hz
  go_enter Tryz.func42,Tryz.ntmps42;go_wp2_with fail
  refine (ze2 _ _ _).mono ?_;rintro r w1 ⟨rfl,rfl⟩;go_wp2_with fail
  go_loopw [10] (fun i wr=>i=.int .i64 0∧wr=w1) (fun _ _=>0)
  case atStart=>exact ⟨rfl,rfl⟩
  case round =>
   obtain ⟨rfl,hw9⟩:=hrel;subst hw9;go_wp2_with fail
   go_ret
   exact ⟨none,0,rfl,GW.nil _ _,Below.refl _ _⟩
 ·have h0:0<es.length:=List.length_pos_iff.2 hz
  have HCR:=aA (zd2 a c es.length es w h rfl hl h0);clear h hz hs;go_enter Tryz.func42,Tryz.ntmps42;go_wp2_with fail
  refine HCR.out.mono ?_;rintro r w1 ⟨rs,rfl,hrs,hO,hrd,hb1⟩;have B1:=aA hb1;have hg1:w.heap.size<w1.heap.size:=(hO.lt w.heap.size rfl).2;have R1:Hid (kH w.heap.size w1 w.heap.size es.length 0 es):=aA ⟨rs,hrs,hO,fun r hr=>⟨(hrd r hr).below hb1,fun hz y hy=>by
   obtain ⟨b,off,e,hb,-⟩:=hrd r hr hz;rw[e]at hy;cases hy
   show b≠w.heap.size
   omega⟩,fun i r hr hi=>by omega⟩
  clear hrs hO hrd hb1 HCR;go_wp2_with fail
  go_loopw [10] (fun i wr=>∃ k:Nat,k≤es.length∧i=.int .i64 k∧Hid (kH w.heap.size wr w.heap.size es.length k es)∧Hid (Below w.heap.size w wr)∧w.heap.size<wr.heap.size) (fun i _=>es.length - (intOf i).toNat)
  case atStart=>exact ⟨0,Nat.zero_le _,rfl,R1,B1,hg1⟩
  case round =>
   obtain ⟨k,hk,rfl,HX,HW,hgw⟩:=hrel;by_cases hlt:k<es.length
   ·obtain ⟨b,off,e,x,cc,hbb,hb,he,c0,c1,c2,c3,hr⟩:=HX.out.rd.at hlt
    simp only[Option.some.injEq,Addr.mk.injEq,and_true]at hbb;obtain ⟨rfl,rfl⟩:=hbb;rw[Nat.zero_add]at c0 c1 c2 c3;have hsm:=HS.out e (List.mem_of_getElem? he);have HE:=aA he;have HRC:=aA hr;have hk0:(0:Int)≤(k:Int):=by omega
    have hk1:(k:Int)<(es.length:Int):=by omega
    have fz:∀ i,wr.frozen? ⟨w.heap.size,i,none⟩=false:=fun i=>by obtain ⟨rs,-,h2,-⟩:=HX.out;exact h2.frozenAt _
    have BA:=aA (aC wr (.cells #[.string (str e.path),.int .i64 e.kind,.int .i64 e.size,.slice x e.chunks.length cc] 87));have FE:=aA (cP.new wr (.string (str e.path)) (.int .i64 e.kind) (.int .i64 e.size) (.slice x e.chunks.length cc) 87);have HXB:=aA (show e.chunks≠[]→∀ y,x=some y→y.block≠w.heap.size from by
     obtain ⟨rs,r,q1,q2,q3,q4,q5,-⟩:=HX.out.row he;have hg:=(q4.cellAt (k * 4+3) (by omega)).trans (jV rs k 3 r q2 (by decide))
     rw[c3]at hg;simp only[bZ,List.getElem?_cons_succ,List.getElem?_cons_zero,Option.some.injEq,Value.slice.injEq]at hg
     rw[hg.1,←q3];exact (q5 r (List.mem_of_getElem? q2)).2)
    clear he hr;go_wp2_with fail
    have HX1:=aA (HX.out.below BA.out);have hgE:w.heap.size<wr.heap.size:=hgw;generalize hWE:wr.alloc (.cells #[.string (str e.path),.int .i64 e.kind,.int .i64 e.size,.slice x e.chunks.length cc] 87)=WE at *;have hsE:wr.heap.size<WE.heap.size:=FE.out.lt;clear hWE c0 c1 c2 c3 fz;refine (nQ (str e.path) _ (by rw[aN];omega)).mono ?_
    rintro r w2 ⟨rfl,hb2⟩;have X2:=aA (HX1.out.below hb2);have FE2:=aA (FE.out.below hb2);have BB2:=aA (aB HW.out (aB BA.out hb2));have HRC2:=aA (HRC.out.below (aB BA.out hb2));have hs2:=hb2.size;have fz2:∀ i,w2.frozen? ⟨w.heap.size,i,none⟩=false:=fun i=>by obtain ⟨rs,-,h2,-⟩:=X2.out;exact h2.frozenAt _
    obtain ⟨b,off,e',x',cc',hbb,hb',he',d0,d1,d2,d3,-⟩:=X2.out.rd.at hlt;simp only[Option.some.injEq,Addr.mk.injEq,and_true]at hbb;obtain ⟨rfl,rfl⟩:=hbb;rw[Nat.zero_add]at d0;have fz0:=fz2 (k * 4);have X3:=aA (X2.out.set0 HE.out);have hne:w.heap.size≠wr.heap.size:=by omega
    have FE3:Hid ((w2.setCell ⟨w.heap.size,k * 4,none⟩ (.string (str e.path))).cell? ⟨wr.heap.size,3,none⟩=some (.slice x e.chunks.length cc)):=aA (pD hne FE2.out.2.2.2);have BB3:=aA (BB2.out.setCell (p:=⟨w.heap.size,k * 4,none⟩) (Nat.le_refl _) (.string (str e.path)));have BS:=aA (show (w2.setCell ⟨w.heap.size,k * 4,none⟩ (.string (str e.path))).heap.size=w2.heap.size by simp[World.setCell])
    have HRC3:Hid (aZ .i64 (w2.setCell ⟨w.heap.size,k * 4,none⟩ (.string (str e.path))) x e.chunks):=aA (HRC2.out.kept (aE.setCell (S:=fun b=>b=w.heap.size) (p:=⟨w.heap.size,k * 4,none⟩) (aE.refl _ _) (fun _=>rfl) _) (fun hz y hy hS=>HXB.out hz y hy hS))
    have fe3:=FE3.out;clear hb2 d1 d2 d3 he' fz2;go_wp2_with fail
    clear fe3;generalize w2.setCell ⟨w.heap.size,k * 4,none⟩ (.string (str e.path))=W3 at *;refine (zS x cc e.chunks.length e.chunks W3 HRC3.out rfl hsm.2).mono ?_;rintro r w4 ⟨av,cv,rfl,hO4,hb4⟩;have X4:=aA (X3.out.below hb4);have BB4:=aA (aB BB3.out hb4);have O4:=aA hO4;have fz4:w4.frozen? ⟨w.heap.size,k * 4+3,none⟩=false:=by obtain ⟨rs,-,h2,-⟩:=X4.out;exact h2.frozenAt _
    obtain ⟨b,off,e',x',cc',hbb,hb',he',d0,d1,d2,d3,-⟩:=X4.out.rd.at hlt;simp only[Option.some.injEq,Addr.mk.injEq,and_true]at hbb;obtain ⟨rfl,rfl⟩:=hbb;rw[Nat.zero_add]at d3;have hs4:=hb4.size;have hs3:=BS.out;clear hO4 hb4 d0 d1 d2 he';go_wp2_with fail
    go_roundw
    case rel =>
     refine ⟨k+1,by omega,by go_num,aA ?_,aA ?_,?_⟩
     ·exact X4.out.set3 HE.out (aW O4.out (by omega)) (fun _ y hy e=>by
       have:=(O4.out.lt y.block (by rw[hy];rfl)).1
       omega)
     ·exact BB4.out.setCell (p:=⟨w.heap.size,k * 4+3,none⟩) (Nat.le_refl _) _
     ·simp[World.setCell];omega
    case measure=>simp[intOf];omega
   ·have HRD:=aA (HX.out.done (by omega))
    go_wp2_with fail
    go_ret
    exact ⟨some ⟨w.heap.size,0,none⟩,es.length,rfl,HRD.out,HW.out⟩
def eP (q rep:Int) (U:List En) (w:World) (r:Ending) (w':World):Prop :=
 ∃ av cv,r=.returned (.agg #[.int .i64 q,.int .i64 rep,.slice av U.length cv])∧GW w.heap.size w' (.slice av U.length cv) U∧Below w.heap.size w w'
theorem eP.of {q rep:Int} {U:List En} {w w3:World} {B b n:Nat} {av:Option Addr} {cv:Nat} {u0 u1 u2:Value} (hB:b<B) (hw:w.heap.size≤b) (hn:n=U.length) (hG:GW B w3 (.slice av n cv) U) (hb:Below w.heap.size w w3) :
  eP q rep U w (.returned (.agg #[.int .i64 q,.int .i64 rep,.slice av n cv])) (((w3.setCell ⟨b,0,none⟩ u0).setCell ⟨b,1,none⟩ u1).setCell ⟨b,2,none⟩ u2):=by
 subst hn;exact ⟨av,cv,rfl,(hG.kept (aE.three w3 b u0 u1 u2) (fun x hx e=>by omega)).mono (by omega),((hb.setCell (p:=⟨b,0,none⟩) hw _).setCell (p:=⟨b,1,none⟩) hw _).setCell (p:=⟨b,2,none⟩) hw _⟩
def fF (w:World) (b:Nat) (u0 u1 u2 u3 u4:Value):Prop:=w.cell? ⟨b,0,none⟩=some u0∧w.cell? ⟨b,1,none⟩=some u1∧w.cell? ⟨b,2,none⟩=some u2∧w.cell? ⟨b,3,none⟩=some u3∧w.cell? ⟨b,4,none⟩=some u4
theorem fF.new (w:World) (u0 u1 u2 u3 u4:Value) (t:TypeId):fF (w.alloc (.cells #[u0,u1,u2,u3,u4] t)) w.heap.size u0 u1 u2 u3 u4:=⟨by simp,by simp,by simp,by simp,by simp⟩
theorem fF.lt {w:World} {b:Nat} {u0 u1 u2 u3 u4:Value} (h:fF w b u0 u1 u2 u3 u4):b<w.heap.size:=World.block_lt_of_cell? w ⟨b,0,none⟩ h.1
theorem fF.below {w w':World} {b:Nat} {u0 u1 u2 u3 u4:Value} (h:fF w b u0 u1 u2 u3 u4) (hk:Below w.heap.size w w'):fF w' b u0 u1 u2 u3 u4 :=
 ⟨(hk.cell (p:=⟨b,0,none⟩) h.lt).trans h.1,(hk.cell (p:=⟨b,1,none⟩) h.lt).trans h.2.1,(hk.cell (p:=⟨b,2,none⟩) h.lt).trans h.2.2.1,(hk.cell (p:=⟨b,3,none⟩) h.lt).trans h.2.2.2.1,(hk.cell (p:=⟨b,4,none⟩) h.lt).trans h.2.2.2.2⟩
theorem fF.kept {S:Nat→Prop} {w w':World} {b:Nat} {u0 u1 u2 u3 u4:Value} (h:fF w b u0 u1 u2 u3 u4) (hk:aE S w w') (hn:¬ S b):fF w' b u0 u1 u2 u3 u4 :=
 ⟨(hk.cell (p:=⟨b,0,none⟩) h.lt hn).trans h.1,(hk.cell (p:=⟨b,1,none⟩) h.lt hn).trans h.2.1,(hk.cell (p:=⟨b,2,none⟩) h.lt hn).trans h.2.2.1,(hk.cell (p:=⟨b,3,none⟩) h.lt hn).trans h.2.2.2.1,(hk.cell (p:=⟨b,4,none⟩) h.lt hn).trans h.2.2.2.2⟩
def kG (w:World) (b:Nat) (u0 u1 u2 u3 u4:Value):Prop:=fF w b u0 u1 u2 u3 u4∧∀ i,w.frozen? ⟨b,i,none⟩=false
theorem kG.new (w:World) (u0 u1 u2 u3 u4:Value) (t:TypeId):kG (w.alloc (.cells #[u0,u1,u2,u3,u4] t)) w.heap.size u0 u1 u2 u3 u4:=⟨fF.new w u0 u1 u2 u3 u4 t,fun i=>by simp⟩
theorem kG.below {w w':World} {b:Nat} {u0 u1 u2 u3 u4:Value} (h:kG w b u0 u1 u2 u3 u4) (hk:Below w.heap.size w w'):kG w' b u0 u1 u2 u3 u4 :=
 ⟨h.1.below hk,fun i=>(hk.frozen (p:=⟨b,i,none⟩) h.1.lt).trans (h.2 i)⟩
theorem Below.five {w w':World} {b:Nat} (h:Below w.heap.size w w') (hb:w.heap.size≤b) (u0 u1 u2 u3 u4:Value):Below w.heap.size w (((((w'.setCell ⟨b,0,none⟩ u0).setCell ⟨b,1,none⟩ u1).setCell ⟨b,2,none⟩ u2).setCell ⟨b,3,none⟩ u3).setCell ⟨b,4,none⟩ u4) :=
 ((((h.setCell (p:=⟨b,0,none⟩) hb _).setCell (p:=⟨b,1,none⟩) hb _).setCell (p:=⟨b,2,none⟩) hb _).setCell (p:=⟨b,3,none⟩) hb _).setCell (p:=⟨b,4,none⟩) hb _
theorem aE.five (w:World) (b:Nat) (u0 u1 u2 u3 u4:Value):aE (fun x=>x=b) w (((((w.setCell ⟨b,0,none⟩ u0).setCell ⟨b,1,none⟩ u1).setCell ⟨b,2,none⟩ u2).setCell ⟨b,3,none⟩ u3).setCell ⟨b,4,none⟩ u4) :=
 aE.setCell (S:=fun x=>x=b) (p:=⟨b,4,none⟩) (aE.setCell (S:=fun x=>x=b) (p:=⟨b,3,none⟩) (aE.setCell (S:=fun x=>x=b) (p:=⟨b,2,none⟩) (aE.setCell (S:=fun x=>x=b) (p:=⟨b,1,none⟩) (aE.setCell (S:=fun x=>x=b) (p:=⟨b,0,none⟩) (aE.refl _ w) (fun _=>rfl) u0) (fun _=>rfl) u1) (fun _=>rfl) u2) (fun _=>rfl) u3) (fun _=>rfl) u4
theorem kG.set {w:World} {b:Nat} {a0 a1 a2 a3 a4:Value} (h:kG w b a0 a1 a2 a3 a4) (u0 u1 u2 u3 u4:Value):kG (((((w.setCell ⟨b,0,none⟩ u0).setCell ⟨b,1,none⟩ u1).setCell ⟨b,2,none⟩ u2).setCell ⟨b,3,none⟩ u3).setCell ⟨b,4,none⟩ u4) b u0 u1 u2 u3 u4:=by
 obtain ⟨⟨t0,t1,t2,t3,t4⟩,tf⟩:=h;have ne:∀ i j:Nat,i≠j→(⟨b,i,none⟩:Addr)≠⟨b,j,none⟩:=fun i j hij e=>hij (by injection e)
 refine ⟨⟨?_,?_,?_,?_,?_⟩,fun i=>by simp only[World.frozen?_setCell];exact tf i⟩
 ·rw[aD (ne 4 0 (by decide)),aD (ne 3 0 (by decide)),aD (ne 2 0 (by decide)),aD (ne 1 0 (by decide))]
  exact bK t0
 ·rw[aD (ne 4 1 (by decide)),aD (ne 3 1 (by decide)),aD (ne 2 1 (by decide))]
  exact bK (u:=a1) (by rw[aD (ne 0 1 (by decide))];exact t1)
 ·rw[aD (ne 4 2 (by decide)),aD (ne 3 2 (by decide))]
  exact bK (u:=a2) (by rw[aD (ne 1 2 (by decide)),aD (ne 0 2 (by decide))];exact t2)
 ·rw[aD (ne 4 3 (by decide))]
  exact bK (u:=a3) (by rw[aD (ne 2 3 (by decide)),aD (ne 1 3 (by decide)),aD (ne 0 3 (by decide))];exact t3)
 ·exact bK (u:=a4) (by rw[aD (ne 3 4 (by decide)),aD (ne 2 4 (by decide)),aD (ne 1 4 (by decide)),aD (ne 0 4 (by decide))];exact t4)
theorem Tryz.infoSn:(Tryz.prog.info? 42).map (fun i=>(i.zero,i.size,i.bytes))=some (some (.agg #[.string ⟨#[]⟩,.string ⟨#[]⟩,.int .i64 0,.bool false,.slice none 0 0]),5,72):=by kernel_rfl
structure Rs where
 s:Sn
 a:Option Addr
 c:Nat
def bS (r:Rs):List Value:=[.string (str r.s.name),.string (str r.s.parent),.int .i64 r.s.kind,.bool r.s.lease,.slice r.a r.s.layer.length r.c]
def aS (rs:List Rs):List Value:=rs.flatMap bS
theorem nK (a b:List Rs):aS (a++b)=aS a++aS b:=by simp[aS]
theorem cT:∀ rs:List Rs,(aS rs).length=rs.length * 5
 | []=>rfl
 | r :: rs=>by
  have:=cT rs;simp only[aS,List.flatMap_cons,List.length_append,List.length_cons]at this ⊢;rw[this];simp[bS];omega
theorem lQ:∀ (rs:List Rs) (i q:Nat) (r:Rs),rs[i]?=some r→q<5→(aS rs)[i * 5+q]?=(bS r)[q]?
 | [],i,q,r,h,_=>by simp at h
 | x :: rs,0,q,r,h,hq=>by
  simp only[List.getElem?_cons_zero,Option.some.injEq]at h;subst h;simp only[aS,List.flatMap_cons,Nat.zero_mul,Nat.zero_add];rw[List.getElem?_append_left (by simp[bS];omega)]
 | x :: rs,i+1,q,r,h,hq=>by
  have:=lQ rs i q r (by simpa using h) hq
  rw[←this];simp only[aS,List.flatMap_cons];rw[List.getElem?_append_right (by simp[bS];omega)]
  congr 1
  simp[bS];omega
theorem dL (rs:List Rs):∀ u∈aS rs,u.oneCell'=true:=by
 intro u hu;simp only[aS,List.mem_flatMap]at hu;obtain ⟨r,_,hr⟩:=hu;simp only[bS,List.mem_cons,List.not_mem_nil,or_false]at hr;rcases hr with rfl | rfl | rfl | rfl | rfl <;> rfl
def LN (B:Nat) (w0 w:World) (v:Value) (l:List Sn):Prop :=
 ∃ rs:List Rs,rs.map Rs.s=l∧w.ownsRow B 42 5 v l.length (aS rs)∧∀ r∈rs,RdE w0 r.a r.s.layer
theorem LN.shape {B:Nat} {w0 w:World} {v:Value} {l:List Sn} (h:LN B w0 w v l):∃ a c,v=.slice a l.length c:=by
 obtain ⟨rs,_,h1,_⟩:=h;exact aR h1
theorem LN.nil (B:Nat) (w0 w:World):LN B w0 w (.slice none 0 0) [] :=
 ⟨[],rfl,World.ownsRow_nil _ _ _ _,fun r hr=>by simp at hr⟩
theorem LN.mono {B B':Nat} {w0 w:World} {v:Value} {l:List Sn} (h:LN B w0 w v l) (hb:B'≤B):LN B' w0 w v l:=by
 obtain ⟨rs,he,h1,h2⟩:=h;exact ⟨rs,he,aW h1 hb,h2⟩
theorem LN.below {B:Nat} {w0 w w':World} {v:Value} {l:List Sn} (h:LN B w0 w v l) (hk:Below w.heap.size w w'):LN B w0 w' v l:=by
 obtain ⟨rs,he,h1,h2⟩:=h;exact ⟨rs,he,aJ h1 hk,h2⟩
theorem LN.push {B:Nat} {w0 w2:World} {v':Value} {l:List Sn} {rs:List Rs} {s:Sn} {a:Option Addr} {c m:Nat} (he:rs.map Rs.s=l) (hm:m=l.length)
  (h2:∀ r∈rs,RdE w0 r.a r.s.layer) (hr:RdE w0 a s.layer)
  (hv':w2.ownsRow B 42 5 v' (m+1) (aS rs++bS ⟨s,a,c⟩)):LN B w0 w2 v' (l ++ [s]):=by
 subst hm;refine ⟨rs ++ [⟨s,a,c⟩],by rw[List.map_append,he];rfl,?_,fun r hx=>?_⟩
 ·rw[nK,List.length_append]
  simpa [aS] using hv'
 ·rcases List.mem_append.1 hx with hx | hx
  ·exact h2 r hx
  ·simp only[List.mem_singleton]at hx
   subst hx;exact hr
theorem oZ {B:Nat} {w:World} {a:Option Addr} {n c:Nat} {l:List Sn} {rs:List Rs} (he:rs.map Rs.s=l) (h1:w.ownsRow B 42 5 (.slice a n c) l.length (aS rs)) (h2:∀ r∈rs,RdE w r.a r.s.layer):RdS w a l:=by
 intro hz;have h0:0<l.length:=List.length_pos_iff.2 hz;have hl:rs.length=l.length:=by rw[←he,List.length_map]
 rcases h1.2 with ⟨_,h0'⟩ | ⟨g,cap,cur,h',hb',hh,hnc,hcm,hcs,htake⟩
 ·omega
 ·simp only[Value.slice.injEq]at h'
  obtain ⟨rfl,rfl,rfl⟩:=h';refine ⟨g,0,fun i=>(rs[i]?.map Rs.a).getD none,fun i=>(rs[i]?.map Rs.c).getD 0,rfl,(h1.lt g rfl).2,fun i e hi=>?_⟩
  have hi0:i<l.length:=(List.getElem?_eq_some_iff.1 hi).1;obtain ⟨r,hr⟩:∃ r,rs[i]?=some r:=⟨rs[i]'(by omega),List.getElem?_eq_getElem (by omega)⟩
  have hre:r.s=e:=by
   have:(rs.map Rs.s)[i]?=some r.s:=by rw[List.getElem?_map,hr];rfl
   rw[he,hi]at this;exact (Option.some.inj this).symm
  have hc:=fun q hq=>(h1.cellAt (i * 5+q) (by omega)).trans (lQ rs i q r hr hq)
  simp only[hr,Option.map_some,Option.getD_some,Nat.zero_add];rw[←hre];exact ⟨hc 0 (by decide),hc 1 (by decide),hc 2 (by decide),hc 3 (by decide),hc 4 (by decide),h2 r (List.mem_of_getElem? hr)⟩
theorem LN.rd {B:Nat} {w0 w:World} {a:Option Addr} {n c:Nat} {l:List Sn} (h:LN B w0 w (.slice a n c) l) (hb:Below w0.heap.size w0 w):RdS w a l:=by
 obtain ⟨rs,he,h1,h2⟩:=h;exact oZ he h1 (fun r hr=>(h2 r hr).below hb)
theorem xT {w:World} {a:Option Addr} {l:List Sn} (h:RdS w a l):∃ rs:List Rs,rs.map Rs.s=l∧(∀ r∈rs,RdE w r.a r.s.layer)∧(l≠[]→∃ b off,a=some ⟨b,off,none⟩∧b<w.heap.size∧∀ i u,(aS rs)[i]?=some u→w.cell? ⟨b,off+i,none⟩=some u):=by
 by_cases hz:l=[]
 ·subst hz
  exact ⟨[],rfl,fun r hr=>by simp at hr,fun h=>absurd rfl h⟩
 obtain ⟨b,off,A,C,e,hb,hc⟩:=h hz;have hr:∀ (i:Nat) (r:Rs),(l.mapIdx fun i s=>(⟨s,A i,C i⟩:Rs))[i]?=some r→∃ s,l[i]?=some s∧r=⟨s,A i,C i⟩:=fun i r hr=>by
  rw[List.getElem?_mapIdx]at hr;cases hs:l[i]? with
  | none=>rw[hs]at hr;cases hr
  | some s=>rw[hs]at hr;exact ⟨s,rfl,by simpa using hr.symm⟩
 refine ⟨l.mapIdx fun i s=>(⟨s,A i,C i⟩:Rs),?_,fun r hr'=>?_,fun _=>⟨b,off,e,hb,fun i u hu=>?_⟩⟩
 ·apply List.ext_getElem?
  intro i;rw[List.getElem?_map,List.getElem?_mapIdx]
  cases l[i]? <;> rfl
 ·obtain ⟨i,hi⟩:=List.mem_iff_getElem?.1 hr'
  obtain ⟨s,hs,rfl⟩:=hr i r hi;exact (hc i s hs).2.2.2.2.2
 ·have hlt:=(List.getElem?_eq_some_iff.1 hu).1
  rw[cT]at hlt;obtain ⟨r,hr1⟩:∃ r,(l.mapIdx fun i s=>(⟨s,A i,C i⟩:Rs))[i / 5]?=some r:=⟨_,List.getElem?_eq_getElem (by omega)⟩
  obtain ⟨s,hs,rfl⟩:=hr _ _ hr1;have hg:=lQ _ (i / 5) (i % 5) _ hr1 (by omega)
  rw[show i / 5 * 5+i % 5=i by omega,hu]at hg
  obtain ⟨c0,c1,c2,c3,c4,-⟩:=hc _ s hs;have hoff:off+i=off+i / 5 * 5+i % 5:=by omega
  rw[hoff];have h5:i % 5<5:=by omega
  generalize i % 5=q at *;generalize i / 5=j at *
  match q,h5 with
  | 0,_=>rw[Nat.add_zero,c0];exact hg.symm
  | 1,_=>rw[c1];exact hg.symm
  | 2,_=>rw[c2];exact hg.symm
  | 3,_=>rw[c3];exact hg.symm
  | 4,_=>rw[c4];exact hg.symm
def zs2 (W0:World) (fn:FuncId) (cap:Array Value) (f:Sn→Bool):Prop :=
 (∀ args w,(callFunc fn args).run Tryz.prog w=.ok (.enter fn args) w)∧∀ (s:Sn) (a:Option Addr) (c:Nat) (w:World),Below W0.heap.size W0 w →
  Calls Tryz.prog fn (#[.agg #[.string (str s.name),.string (str s.parent),.int .i64 s.kind,.bool s.lease,.slice a s.layer.length c]]++cap) w fun r w'=>r=.returned (.bool (f s))∧Below w.heap.size w w'
end Go.Proofs.YtgaeikgoknoamaaGreat
