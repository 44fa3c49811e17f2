/-
  Texts put together: MntB SnpA SnpB SnpD.
-/
import Derived.Test.YtolnlfnndnpiiaaGreatKSnaps14
import Derived.Test.YtolnlfnndnpiiaaGreatKSnaps10
import Derived.Test.YtolnlfnndnpiiaaGreatKSnaps12
import Derived.Shelf.Abstract
set_option linter.unusedVariables false
set_option maxHeartbeats 3200000
set_option maxRecDepth 100000
namespace Go.Proofs.YtolnlfnndnpiiaaGreat
open Go.RowKit Go.Maps
attribute [local go_sem ↓] Go.wp_at_zero Go.wp_at_succ
theorem zbl {w:World} {a:Option Addr} {es:List En} (h:RdE w a es):∃ rs:List Rw,rs.map Rw.e=es∧(∀ r∈rs,aP .i64 w r.a r.e.chunks)∧(∀ W:World,Below w.heap.size w W→aY rs≠[]→∃ ad,a=some ad∧∀ (j:Nat) u,(aY rs)[j]?=some u→W.cell? (ad.add j)=some u):=by
 by_cases hz:es=[]
 ·subst hz
  exact ⟨[],rfl,fun r hr=>by simp at hr,fun _ _ h=>absurd rfl h⟩
 ·obtain ⟨b,off,A,C,rfl,hb,hc⟩:=h hz
  have hmap:((List.range es.length).map fun i=>(⟨es.getD i zEn,A i,C i⟩:Rw)).map Rw.e=es:=by
   rw[List.map_map];apply List.ext_getElem?
   intro i;by_cases hi:i<es.length
   ·rw[List.getElem?_map,List.getElem?_range hi]
    simp[List.getD_eq_getElem?_getD,List.getElem?_eq_getElem hi]
   ·rw[List.getElem?_eq_none (by simp;omega),List.getElem?_eq_none (by omega)]
  refine ⟨_,hmap,fun r hr=>?_,fun W hW _=>⟨⟨b,off,none⟩,rfl,fun j u hj=>?_⟩⟩
  ·obtain ⟨i,hi,rfl⟩:=List.mem_map.1 hr
   have hi':=List.mem_range.1 hi;have he:es[i]?=some (es.getD i zEn):=by rw[List.getD_eq_getElem?_getD,List.getElem?_eq_getElem hi'];rfl
   exact (hc i _ he).2.2.2.2
  ·have hlt:j<es.length * 4:=by
    have:=(List.getElem?_eq_some_iff.1 hj).1;rw[fE]at this;simpa using this
   have hq:j / 4<es.length:=by omega
   have he:es[j / 4]?=some (es.getD (j / 4) zEn):=by rw[List.getD_eq_getElem?_getD,List.getElem?_eq_getElem hq];rfl
   obtain ⟨c0,c1,c2,c3,-⟩:=hc (j / 4) _ he;have hr:((List.range es.length).map fun i=>(⟨es.getD i zEn,A i,C i⟩:Rw))[j / 4]?=some ⟨es.getD (j / 4) zEn,A (j / 4),C (j / 4)⟩:=by rw[List.getElem?_map,List.getElem?_range hq];rfl
   have hg:=lA _ (j / 4) (j % 4) _ hr (by omega)
   rw[show j / 4 * 4+j % 4=j by omega,hj]at hg
   rw[eY,hW.cell (p:=⟨b,off+j,none⟩) hb,hg];rcases (show j % 4=0∨j % 4=1∨j % 4=2∨j % 4=3 by omega) with h4 | h4 | h4 | h4
   ·rw[h4,show off+j=off+j / 4 * 4 by omega,c0];rfl
   ·rw[h4,show off+j=off+j / 4 * 4+1 by omega,c1];rfl
   ·rw[h4,show off+j=off+j / 4 * 4+2 by omega,c2];rfl
   ·rw[h4,show off+j=off+j / 4 * 4+3 by omega,c3];rfl
theorem zr5 (a:Option Addr) (c n:Nat) (es:List En) (w:World) (h:RdE w a es) (hn:n=es.length) (hl:es.length≤1048576) (h0:0<es.length) :
  Calls Tryz.prog 83 #[.slice a n c] w fun r w'=>∃ rs:List Rw,r=.returned (.slice (some ⟨w.heap.size,0,none⟩) es.length es.length)∧rs.map Rw.e=es∧w'.ownsRow w.heap.size 50 4 (.slice (some ⟨w.heap.size,0,none⟩) es.length es.length) es.length (aY rs)∧(∀ r∈rs,aP .i64 w r.a r.e.chunks)∧Below w.heap.size w w':=by
 subst hn;obtain ⟨i1,ki,kz0,kz1,kz2⟩:=info_parts Tryz.infoEn;obtain ⟨rs,hrs,hrd,hcl⟩:=zbl h;have HC:=aA hcl;have HV1:=aA (kF rs);have HRS:=aA hrs;have HRD:=aA hrd;have hby:i1.bytes * es.length≤281474976710656:=by rw[kz2];omega
 have hml:es.length≤maxLen:=by unfold maxLen;omega
 have HVN:=aA (show (aY rs).length=es.length * 4 by rw[fE,←hrs,List.length_map])
 have HD:=aA (show (madeCells (Value.agg #[.string ⟨#[]⟩,.int .i64 0,.int .i64 0,.slice none 0 0]).cells (es.length * 4)).toList.drop (es.length * 4)=[] from xE _ _)
 clear h hcl hrs hrd;have HKK:=aA (fun (N:Nat) (hN:N=es.length)=>hN)
 clear HKK;generalize hNN:es.length=N at *;have hne:((N:Int)==0)=false:=by simp;omega
 clear hNN;go_enter Tryz.func83,Tryz.ntmps83;go_wp2_with (first
  | (at_make;refine wpList_make_full _ rfl (.tmp 8) (.tmp 8) 35 rfl w.heap.size 50 i1 (.agg #[.string ⟨#[]⟩,.int .i64 0,.int .i64 0,.slice none 0 0]) 4 Tryz.underlying35 ki kz0 kz1 .i64 .i64 _ _ N rfl rfl (by simp) (by simp) hby hml (Nat.le_refl _) ?_;intro w1 ho1 hg1;have O1:=aA ho1;have B1:=aA (sH hg1);clear ho1 hg1)
  | (refine lC rfl (.tmp 10) (.tmp 11) 35 rfl w.heap.size 50 i1 4 Tryz.underlying35 ki kz1 (by decide) w.heap.size N N _ rfl O1.out a N c (aY rs) rfl (Nat.le_refl _) HVN.out (HC.out w1 B1.out) HV1.out ?_;rw[HD.out,List.append_nil];intro w2 ho2 hk2;have O2:=aA ho2;have B2:=aA (B1.out.trans (hk2.below (B:=w.heap.size) B1.out.size (fun b hb e=>by omega)));clear ho2 hk2))
 go_ret
 exact ⟨rs,rfl,HRS.out,O2.out,HRD.out,B2.out⟩
theorem zs5 (c:Nat) (a:Option Addr) (w:World) :
  Calls Tryz.prog 83 #[.slice a 0 c] w fun r w'=>r=.returned (.slice none 0 0)∧w'=w:=by
 go_enter Tryz.func83,Tryz.ntmps83;go_wp2_with fail
 go_ret
 exact ⟨rfl,rfl⟩
def lN (B:Nat) (w:World) (g c k:Nat) (es:List En):Prop :=
 ∃ rs:List Rw,rs.map Rw.e=es∧w.ownsRow B 50 4 (.slice (some ⟨g,0,none⟩) es.length c) es.length (aY rs)∧(∀ r∈rs,aP .i64 w r.a r.e.chunks∧(r.e.chunks≠[]→∀ x,r.a=some x→x.block≠g)) ∧
  ∀ i r,rs[i]?=some r→i<k→w.ownsRow B 2 1 (.slice r.a r.e.chunks.length r.c) r.e.chunks.length (r.e.chunks.map (Value.int .i64))
theorem lN.below {B:Nat} {w w':World} {g c k:Nat} {es:List En} (h:lN B w g c k es) (hb:Below w.heap.size w w'):lN B w' g c k es:=by
 obtain ⟨rs,h1,h2,h3,h4⟩:=h;exact ⟨rs,h1,aI h2 hb,fun r hr=>⟨(h3 r hr).1.below hb,(h3 r hr).2⟩,fun i r hr hi=>aI (h4 i r hr hi) hb⟩
theorem lN.rd {B:Nat} {w:World} {g c k:Nat} {es:List En} (h:lN B w g c k es):RdE w (some ⟨g,0,none⟩) es:=by
 obtain ⟨rs,h1,h2,h3,-⟩:=h;exact (show SE B w (.slice (some ⟨g,0,none⟩) es.length c) es from ⟨rs,h1,h2,fun r hr=>(h3 r hr).1⟩).rd
def GW (B:Nat) (w:World) (v:Value) (es:List En):Prop :=
 ∃ rs:List Rw,rs.map Rw.e=es∧w.ownsRow B 50 4 v es.length (aY rs)∧∀ r∈rs,w.ownsRow B 2 1 (.slice r.a r.e.chunks.length r.c) r.e.chunks.length (r.e.chunks.map (Value.int .i64))
theorem GW.of {B T:Nat} {w:World} {v:Value} {es:List En} (h:GE B T w v es):GW B w v es:=by
 obtain ⟨rs,h1,h2,h3,-⟩:=h;exact ⟨rs,h1,h2,h3⟩
theorem GW.rd {B:Nat} {w:World} {a:Option Addr} {n c:Nat} {es:List En} (h:GW B w (.slice a n c) es):RdE w a es:=by
 obtain ⟨rs,h1,h2,h3⟩:=h;exact (show SE B w (.slice a n c) es from ⟨rs,h1,h2,fun r hr=>fM (h3 r hr) rfl⟩).rd
theorem GW.nil (B:Nat) (w:World):GW B w (.slice none 0 0) []:=⟨[],rfl,World.ownsRow_nil _ _ _ _,fun r hr=>by simp at hr⟩
theorem GW.kept {S:Nat→Prop} {B:Nat} {w w':World} {v:Value} {es:List En} (h:GW B w v es) (hk:aD S w w') (hS:∀ b,B≤b→¬ S b):GW B w' v es:=by
 obtain ⟨rs,h1,h2,h3⟩:=h;exact ⟨rs,h1,aL h2 hk (fun b hb=>hS b (h2.lt b hb).1),fun r hr=>aL (h3 r hr) hk (fun b hb=>hS b ((h3 r hr).lt b hb).1)⟩
theorem GW.below {B:Nat} {w w':World} {v:Value} {es:List En} (h:GW B w v es) (hb:Below w.heap.size w w'):GW B w' v es:=by
 obtain ⟨rs,h1,h2,h3⟩:=h;exact ⟨rs,h1,aI h2 hb,fun r hr=>aI (h3 r hr) hb⟩
theorem GW.mono {B B':Nat} {w:World} {v:Value} {es:List En} (h:GW B w v es) (hb:B'≤B):GW B' w v es:=by
 obtain ⟨rs,h1,h2,h3⟩:=h;exact ⟨rs,h1,bF h2 hb,fun r hr=>bF (h3 r hr) hb⟩
theorem lN.done {B:Nat} {w:World} {g c k:Nat} {es:List En} (h:lN B w g c k es) (hk:es.length≤k):GW B w (.slice (some ⟨g,0,none⟩) es.length c) es:=by
 obtain ⟨rs,h1,h2,h3,h4⟩:=h;refine ⟨rs,h1,h2,fun r hr=>?_⟩
 obtain ⟨i,hi,he⟩:=List.getElem_of_mem hr;have hl:rs.length=es.length:=by rw[←h1,List.length_map]
 exact h4 i r (by rw[List.getElem?_eq_getElem hi,he]) (by omega)
theorem zh5 {rs:List Rw} {k:Nat} {r:Rw} (hr:rs[k]?=some r):(aY rs).set (k * 4) (.string (str r.e.path))=aY rs:=by
 have g0:=lA rs k 0 r hr (by decide)
 rw[Nat.add_zero]at g0;apply List.ext_getElem?
 intro j;rw[List.getElem?_set];by_cases hj:k * 4=j
 ·subst hj
  have hlt:k * 4<(aY rs).length:=by have:=(List.getElem?_eq_some_iff.1 hr).1;rw[fE];omega
  rw[if_pos rfl,if_pos hlt,g0];rfl
 ·rw[if_neg hj]
theorem zli {rs:List Rw} {k:Nat} {r:Rw} (hr:rs[k]?=some r) (x:Option Addr) (cc:Nat):(aY rs).set (k * 4+3) (.slice x r.e.chunks.length cc)=aY (rs.set k ⟨r.e,x,cc⟩):=by
 have hk:=(List.getElem?_eq_some_iff.1 hr).1;rw[←xP rs k ⟨r.e,x,cc⟩ hk,zh5 hr];have g1:=lA rs k 1 r hr (by decide)
 have g2:=lA rs k 2 r hr (by decide)
 have l1:k * 4+1<(aY rs).length:=by rw[fE];omega
 have l2:k * 4+2<(aY rs).length:=by rw[fE];omega
 have e1:(aY rs).set (k * 4+1) (.int .i64 r.e.kind)=aY rs:=by
  apply List.ext_getElem?
  intro j;rw[List.getElem?_set];by_cases hj:k * 4+1=j
  ·subst hj;rw[if_pos rfl,if_pos l1,g1];rfl
  ·rw[if_neg hj]
 have e2:(aY rs).set (k * 4+2) (.int .i64 r.e.size)=aY rs:=by
  apply List.ext_getElem?
  intro j;rw[List.getElem?_set];by_cases hj:k * 4+2=j
  ·subst hj;rw[if_pos rfl,if_pos l2,g2];rfl
  ·rw[if_neg hj]
 rw[e1,e2]
theorem lN.row {B:Nat} {w:World} {g c k K:Nat} {es:List En} {e:En} (h:lN B w g c K es) (he:es[k]?=some e):∃ rs:List Rw,∃ r:Rw,rs.map Rw.e=es∧rs[k]?=some r∧r.e=e∧w.ownsRow B 50 4 (.slice (some ⟨g,0,none⟩) es.length c) es.length (aY rs)∧(∀ r∈rs,aP .i64 w r.a r.e.chunks∧(r.e.chunks≠[]→∀ x,r.a=some x→x.block≠g)) ∧
  ∀ i r,rs[i]?=some r→i<K→w.ownsRow B 2 1 (.slice r.a r.e.chunks.length r.c) r.e.chunks.length (r.e.chunks.map (Value.int .i64)):=by
 obtain ⟨rs,h1,h2,h3,h4⟩:=h;have hk:k<es.length:=(List.getElem?_eq_some_iff.1 he).1;have hl:rs.length=es.length:=by rw[←h1,List.length_map]
 obtain ⟨r,hr⟩:∃ r,rs[k]?=some r:=⟨_,List.getElem?_eq_getElem (by omega)⟩
 refine ⟨rs,r,h1,hr,?_,h2,h3,h4⟩;have:(rs.map Rw.e)[k]?=some r.e:=by rw[List.getElem?_map,hr];rfl
 rw[h1,he]at this;exact (Option.some.inj this).symm
theorem lN.set0 {B:Nat} {w:World} {g c k K:Nat} {es:List En} {e:En} (h:lN B w g c K es) (he:es[k]?=some e):lN B (w.setCell ⟨g,k * 4,none⟩ (.string (str e.path))) g c K es:=by
 obtain ⟨rs,r,h1,hr,rfl,h2,h3,h4⟩:=h.row he;have s1:=(h2.stored (k * 4) (.string (str r.e.path))).1;rw[zh5 hr]at s1;have hkp:aD (fun b=>b=g) w (w.setCell ⟨g,k * 4,none⟩ (.string (str r.e.path))):=aD.setCell (S:=fun b=>b=g) (p:=⟨g,k * 4,none⟩) (aD.refl _ _) (fun _=>rfl) _
 exact ⟨rs,h1,s1,fun r0 hr0=>⟨(h3 r0 hr0).1.kept hkp (fun hz y hy hS=>(h3 r0 hr0).2 hz y hy hS),(h3 r0 hr0).2⟩,fun i r0 hr0 hi=>aL (h4 i r0 hr0 hi) hkp (fun b hb hS=>cW h2 (h4 i r0 hr0 hi) (by decide) (by subst hS;rfl) hb)⟩
theorem lN.set3 {B:Nat} {w:World} {g c k:Nat} {es:List En} {e:En} {x:Option Addr} {cc:Nat} (h:lN B w g c k es) (he:es[k]?=some e) (hx:w.ownsRow B 2 1 (.slice x e.chunks.length cc) e.chunks.length (e.chunks.map (Value.int .i64))) (hg:e.chunks≠[]→∀ y,x=some y→y.block≠g):lN B (w.setCell ⟨g,k * 4+3,none⟩ (.slice x e.chunks.length cc)) g c (k+1) es:=by
 obtain ⟨rs,r,h1,hr,rfl,h2,h3,h4⟩:=h.row he;have hk:k<es.length:=(List.getElem?_eq_some_iff.1 he).1;have s1:=(h2.stored (k * 4+3) (.slice x r.e.chunks.length cc)).1;rw[zli hr]at s1;have hkp:aD (fun b=>b=g) w (w.setCell ⟨g,k * 4+3,none⟩ (.slice x r.e.chunks.length cc)):=aD.setCell (S:=fun b=>b=g) (p:=⟨g,k * 4+3,none⟩) (aD.refl _ _) (fun _=>rfl) _
 have hx2:=aL hx hkp (fun b hb hS=>cW h2 hx (by decide) (by subst hS;rfl) hb)
 refine ⟨rs.set k ⟨r.e,x,cc⟩,?_,s1,fun r0 hr0=>?_,fun i r0 hr0 hi=>?_⟩
 ·rw[List.map_set,h1]
  apply List.ext_getElem?
  intro j;rw[List.getElem?_set];by_cases hj:k=j
  ·subst hj;rw[if_pos rfl,if_pos hk,he]
  ·rw[if_neg hj]
 ·rcases List.mem_or_eq_of_mem_set hr0 with hr1 | rfl
  ·exact ⟨(h3 r0 hr1).1.kept hkp (fun hz y hy hS=>(h3 r0 hr1).2 hz y hy hS),(h3 r0 hr1).2⟩
  ·exact ⟨fM hx2 rfl,hg⟩
 ·rw[List.getElem?_set]at hr0
  by_cases hj:k=i
  ·subst hj
   rw[if_pos rfl]at hr0;split at hr0
   ·cases hr0;exact hx2
   ·cases hr0
  ·rw[if_neg hj]at hr0
   exact aL (h4 i r0 hr0 (by omega)) hkp (fun b hb hS=>cW h2 (h4 i r0 hr0 (by omega)) (by decide) (by subst hS;rfl) hb)
theorem mJ (a:Option Addr) (c n:Nat) (es:List En) (w:World) (h:RdE w a es) (hn:n=es.length) (hl:es.length≤1048576) (hs:aV es) :
  Calls Tryz.prog 44 #[.slice a n c] w fun r w'=>∃ av cv,r=.returned (.slice av es.length cv)∧GW w.heap.size w' (.slice av es.length cv) es∧Below w.heap.size w w':=by
 subst hn;have HS:=aA hs;by_cases hz:es=[]
 ·subst hz
  go_enter Tryz.func44,Tryz.ntmps44;go_wp2_with fail
  refine (zs5 _ _ _).mono ?_;rintro r w1 ⟨rfl,rfl⟩;go_wp2_with fail
  go_loopw [10] (fun i wr=>i=.int .i64 0∧wr=w1) (fun _ _=>0)
  case atStart=>exact ⟨rfl,rfl⟩
  case round =>
   obtain ⟨rfl,hw9⟩:=hrel;subst hw9;go_wp2_with fail
   go_ret
   exact ⟨none,0,rfl,GW.nil _ _,Below.refl _ _⟩
 ·have h0:0<es.length:=List.length_pos_iff.2 hz
  have HCR:=aA (zr5 a c es.length es w h rfl hl h0);clear h hz hs;go_enter Tryz.func44,Tryz.ntmps44;go_wp2_with fail
  refine HCR.out.mono ?_;rintro r w1 ⟨rs,rfl,hrs,hO,hrd,hb1⟩;have B1:=aA hb1;have hg1:w.heap.size<w1.heap.size:=(hO.lt w.heap.size rfl).2;have R1:Hid (lN w.heap.size w1 w.heap.size es.length 0 es):=aA ⟨rs,hrs,hO,fun r hr=>⟨(hrd r hr).below hb1,fun hz y hy=>by
   obtain ⟨b,off,e,hb,-⟩:=hrd r hr hz;rw[e]at hy;cases hy
   show b≠w.heap.size
   omega⟩,fun i r hr hi=>by omega⟩
  clear hrs hO hrd hb1 HCR;go_wp2_with fail
  go_loopw [10] (fun i wr=>∃ k:Nat,k≤es.length∧i=.int .i64 k∧Hid (lN w.heap.size wr w.heap.size es.length k es)∧Hid (Below w.heap.size w wr)∧w.heap.size<wr.heap.size) (fun i _=>es.length - (intOf i).toNat)
  case atStart=>exact ⟨0,Nat.zero_le _,rfl,R1,B1,hg1⟩
  case round =>
   obtain ⟨k,hk,rfl,HX,HW,hgw⟩:=hrel;by_cases hlt:k<es.length
   ·obtain ⟨b,off,e,x,cc,hbb,hb,he,c0,c1,c2,c3,hr⟩:=HX.out.rd.at hlt
    simp only[Option.some.injEq,Addr.mk.injEq,and_true]at hbb;obtain ⟨rfl,rfl⟩:=hbb;rw[Nat.zero_add]at c0 c1 c2 c3;have hsm:=HS.out e (List.mem_of_getElem? he);have HE:=aA he;have HRC:=aA hr;have hk0:(0:Int)≤(k:Int):=by omega
    have hk1:(k:Int)<(es.length:Int):=by omega
    have fz:∀ i,wr.frozen? ⟨w.heap.size,i,none⟩=false:=fun i=>by obtain ⟨rs,-,h2,-⟩:=HX.out;exact h2.frozenAt _
    have BA:=aA (aC wr (.cells #[.string (str e.path),.int .i64 e.kind,.int .i64 e.size,.slice x e.chunks.length cc] 50));have FE:=aA (cI.new wr (.string (str e.path)) (.int .i64 e.kind) (.int .i64 e.size) (.slice x e.chunks.length cc) 50);have HXB:=aA (show e.chunks≠[]→∀ y,x=some y→y.block≠w.heap.size from by
     obtain ⟨rs,r,q1,q2,q3,q4,q5,-⟩:=HX.out.row he;have hg:=(q4.cellAt (k * 4+3) (by omega)).trans (lA rs k 3 r q2 (by decide))
     rw[c3]at hg;simp only[cM,List.getElem?_cons_succ,List.getElem?_cons_zero,Option.some.injEq,Value.slice.injEq]at hg
     rw[hg.1,←q3];exact (q5 r (List.mem_of_getElem? q2)).2)
    clear he hr;go_wp2_with fail
    have HX1:=aA (HX.out.below BA.out);have hgE:w.heap.size<wr.heap.size:=hgw;generalize hWE:wr.alloc (.cells #[.string (str e.path),.int .i64 e.kind,.int .i64 e.size,.slice x e.chunks.length cc] 50)=WE at *;have hsE:wr.heap.size<WE.heap.size:=FE.out.lt;clear hWE c0 c1 c2 c3 fz;refine (pR (str e.path) _ (by rw[aK];omega)).mono ?_
    rintro r w2 ⟨rfl,hb2⟩;have X2:=aA (HX1.out.below hb2);have FE2:=aA (FE.out.below hb2);have BB2:=aA (aB HW.out (aB BA.out hb2));have HRC2:=aA (HRC.out.below (aB BA.out hb2));have hs2:=hb2.size;have fz2:∀ i,w2.frozen? ⟨w.heap.size,i,none⟩=false:=fun i=>by obtain ⟨rs,-,h2,-⟩:=X2.out;exact h2.frozenAt _
    obtain ⟨b,off,e',x',cc',hbb,hb',he',d0,d1,d2,d3,-⟩:=X2.out.rd.at hlt;simp only[Option.some.injEq,Addr.mk.injEq,and_true]at hbb;obtain ⟨rfl,rfl⟩:=hbb;rw[Nat.zero_add]at d0;have fz0:=fz2 (k * 4);have X3:=aA (X2.out.set0 HE.out);have hne:w.heap.size≠wr.heap.size:=by omega
    have FE3:Hid ((w2.setCell ⟨w.heap.size,k * 4,none⟩ (.string (str e.path))).cell? ⟨wr.heap.size,3,none⟩=some (.slice x e.chunks.length cc)):=aA (rF hne FE2.out.2.2.2);have BB3:=aA (BB2.out.setCell (p:=⟨w.heap.size,k * 4,none⟩) (Nat.le_refl _) (.string (str e.path)));have BS:=aA (show (w2.setCell ⟨w.heap.size,k * 4,none⟩ (.string (str e.path))).heap.size=w2.heap.size by simp[World.setCell])
    have HRC3:Hid (aP .i64 (w2.setCell ⟨w.heap.size,k * 4,none⟩ (.string (str e.path))) x e.chunks):=aA (HRC2.out.kept (aD.setCell (S:=fun b=>b=w.heap.size) (p:=⟨w.heap.size,k * 4,none⟩) (aD.refl _ _) (fun _=>rfl) _) (fun hz y hy hS=>HXB.out hz y hy hS))
    have fe3:=FE3.out;clear hb2 d1 d2 d3 he' fz2;go_wp2_with fail
    clear fe3;generalize w2.setCell ⟨w.heap.size,k * 4,none⟩ (.string (str e.path))=W3 at *;refine (zx2 x cc e.chunks.length e.chunks W3 HRC3.out rfl hsm.2).mono ?_;rintro r w4 ⟨av,cv,rfl,hO4,hb4⟩;have X4:=aA (X3.out.below hb4);have BB4:=aA (aB BB3.out hb4);have O4:=aA hO4;have fz4:w4.frozen? ⟨w.heap.size,k * 4+3,none⟩=false:=by obtain ⟨rs,-,h2,-⟩:=X4.out;exact h2.frozenAt _
    obtain ⟨b,off,e',x',cc',hbb,hb',he',d0,d1,d2,d3,-⟩:=X4.out.rd.at hlt;simp only[Option.some.injEq,Addr.mk.injEq,and_true]at hbb;obtain ⟨rfl,rfl⟩:=hbb;rw[Nat.zero_add]at d3;have hs4:=hb4.size;have hs3:=BS.out;clear hO4 hb4 d0 d1 d2 he';go_wp2_with fail
    go_roundw
    case rel =>
     refine ⟨k+1,by omega,by go_num,aA ?_,aA ?_,?_⟩
     ·exact X4.out.set3 HE.out (bF O4.out (by omega)) (fun _ y hy e=>by
       have:=(O4.out.lt y.block (by rw[hy];rfl)).1
       omega)
     ·exact BB4.out.setCell (p:=⟨w.heap.size,k * 4+3,none⟩) (Nat.le_refl _) _
     ·simp[World.setCell];omega
    case measure=>simp[intOf];omega
   ·have HRD:=aA (HX.out.done (by omega))
    go_wp2_with fail
    go_ret
    exact ⟨some ⟨w.heap.size,0,none⟩,es.length,rfl,HRD.out,HW.out⟩
def cY (q rep:Int) (U:List En) (w:World) (r:Ending) (w':World):Prop :=
 ∃ av cv,r=.returned (.agg #[.int .i64 q,.int .i64 rep,.slice av U.length cv])∧GW w.heap.size w' (.slice av U.length cv) U∧Below w.heap.size w w'
theorem cY.of {q rep:Int} {U:List En} {w w3:World} {B b n:Nat} {av:Option Addr} {cv:Nat} {u0 u1 u2:Value} (hB:b<B) (hw:w.heap.size≤b) (hn:n=U.length) (hG:GW B w3 (.slice av n cv) U) (hb:Below w.heap.size w w3) :
  cY q rep U w (.returned (.agg #[.int .i64 q,.int .i64 rep,.slice av n cv])) (((w3.setCell ⟨b,0,none⟩ u0).setCell ⟨b,1,none⟩ u1).setCell ⟨b,2,none⟩ u2):=by
 subst hn;exact ⟨av,cv,rfl,(hG.kept (aD.three w3 b u0 u1 u2) (fun x hx e=>by omega)).mono (by omega),((hb.setCell (p:=⟨b,0,none⟩) hw _).setCell (p:=⟨b,1,none⟩) hw _).setCell (p:=⟨b,2,none⟩) hw _⟩
theorem sR (a:Option Addr) (c n:Nat) (U:List En) (q:Int) (w:World) (h:RdE w a U) (hn:n=U.length) (hl:U.length≤1048576) (hs:aV U) :
  Calls Tryz.prog 106 #[.slice a n c,.int .i64 q] w (cY 0 q U w):=by
 subst hn;have X0:=aA (cC.new w (.int .i64 0) (.int .i64 0) (.slice none 0 0) 64);have B0:=aA (aC w (.cells #[.int .i64 0,.int .i64 0,.slice none 0 0] 64));have HC:=aA (mJ a c U.length U _ (h.below B0.out) rfl hl hs);clear h hs;go_enter Tryz.func106,Tryz.ntmps106;go_wp2_with fail
 refine HC.out.mono ?_;rintro r w1 ⟨av,cv,rfl,hG,hb1⟩;have G1:=aA hG;have B1:=aA (aB B0.out hb1);have hlt:w.heap.size<(w.alloc (.cells #[.int .i64 0,.int .i64 0,.slice none 0 0] 64)).heap.size:=X0.out.lt;obtain ⟨⟨t0,t1,t2⟩,t3,t4,t5⟩:=X0.out.below hb1;clear hG hb1;go_wp2_with fail
 exact bodyPost_ret (v:=.agg #[.int .i64 0,.int .i64 q,.slice av U.length cv]) (by simp[results,Tryz.results106,go_sem,t0,t1,t2]) rfl (cY.of hlt (Nat.le_refl _) rfl G1.out B1.out)
def dE (w:World) (b:Nat) (u0 u1 u2 u3 u4:Value):Prop:=w.cell? ⟨b,0,none⟩=some u0∧w.cell? ⟨b,1,none⟩=some u1∧w.cell? ⟨b,2,none⟩=some u2∧w.cell? ⟨b,3,none⟩=some u3∧w.cell? ⟨b,4,none⟩=some u4
theorem dE.new (w:World) (u0 u1 u2 u3 u4:Value) (t:TypeId):dE (w.alloc (.cells #[u0,u1,u2,u3,u4] t)) w.heap.size u0 u1 u2 u3 u4:=⟨by simp,by simp,by simp,by simp,by simp⟩
theorem dE.lt {w:World} {b:Nat} {u0 u1 u2 u3 u4:Value} (h:dE w b u0 u1 u2 u3 u4):b<w.heap.size:=World.block_lt_of_cell? w ⟨b,0,none⟩ h.1
theorem dE.below {w w':World} {b:Nat} {u0 u1 u2 u3 u4:Value} (h:dE w b u0 u1 u2 u3 u4) (hk:Below w.heap.size w w'):dE w' b u0 u1 u2 u3 u4 :=
 ⟨(hk.cell (p:=⟨b,0,none⟩) h.lt).trans h.1,(hk.cell (p:=⟨b,1,none⟩) h.lt).trans h.2.1,(hk.cell (p:=⟨b,2,none⟩) h.lt).trans h.2.2.1,(hk.cell (p:=⟨b,3,none⟩) h.lt).trans h.2.2.2.1,(hk.cell (p:=⟨b,4,none⟩) h.lt).trans h.2.2.2.2⟩
theorem dE.kept {S:Nat→Prop} {w w':World} {b:Nat} {u0 u1 u2 u3 u4:Value} (h:dE w b u0 u1 u2 u3 u4) (hk:aD S w w') (hn:¬ S b):dE w' b u0 u1 u2 u3 u4 :=
 ⟨(hk.cell (p:=⟨b,0,none⟩) h.lt hn).trans h.1,(hk.cell (p:=⟨b,1,none⟩) h.lt hn).trans h.2.1,(hk.cell (p:=⟨b,2,none⟩) h.lt hn).trans h.2.2.1,(hk.cell (p:=⟨b,3,none⟩) h.lt hn).trans h.2.2.2.1,(hk.cell (p:=⟨b,4,none⟩) h.lt hn).trans h.2.2.2.2⟩
def jB (w:World) (b:Nat) (u0 u1 u2 u3 u4:Value):Prop:=dE w b u0 u1 u2 u3 u4∧∀ i,w.frozen? ⟨b,i,none⟩=false
theorem jB.new (w:World) (u0 u1 u2 u3 u4:Value) (t:TypeId):jB (w.alloc (.cells #[u0,u1,u2,u3,u4] t)) w.heap.size u0 u1 u2 u3 u4:=⟨dE.new w u0 u1 u2 u3 u4 t,fun i=>by simp⟩
theorem jB.below {w w':World} {b:Nat} {u0 u1 u2 u3 u4:Value} (h:jB w b u0 u1 u2 u3 u4) (hk:Below w.heap.size w w'):jB w' b u0 u1 u2 u3 u4 :=
 ⟨h.1.below hk,fun i=>(hk.frozen (p:=⟨b,i,none⟩) h.1.lt).trans (h.2 i)⟩
theorem Below.five {w w':World} {b:Nat} (h:Below w.heap.size w w') (hb:w.heap.size≤b) (u0 u1 u2 u3 u4:Value):Below w.heap.size w (((((w'.setCell ⟨b,0,none⟩ u0).setCell ⟨b,1,none⟩ u1).setCell ⟨b,2,none⟩ u2).setCell ⟨b,3,none⟩ u3).setCell ⟨b,4,none⟩ u4) :=
 ((((h.setCell (p:=⟨b,0,none⟩) hb _).setCell (p:=⟨b,1,none⟩) hb _).setCell (p:=⟨b,2,none⟩) hb _).setCell (p:=⟨b,3,none⟩) hb _).setCell (p:=⟨b,4,none⟩) hb _
theorem aD.five (w:World) (b:Nat) (u0 u1 u2 u3 u4:Value):aD (fun x=>x=b) w (((((w.setCell ⟨b,0,none⟩ u0).setCell ⟨b,1,none⟩ u1).setCell ⟨b,2,none⟩ u2).setCell ⟨b,3,none⟩ u3).setCell ⟨b,4,none⟩ u4) :=
 aD.setCell (S:=fun x=>x=b) (p:=⟨b,4,none⟩) (aD.setCell (S:=fun x=>x=b) (p:=⟨b,3,none⟩) (aD.setCell (S:=fun x=>x=b) (p:=⟨b,2,none⟩) (aD.setCell (S:=fun x=>x=b) (p:=⟨b,1,none⟩) (aD.setCell (S:=fun x=>x=b) (p:=⟨b,0,none⟩) (aD.refl _ w) (fun _=>rfl) u0) (fun _=>rfl) u1) (fun _=>rfl) u2) (fun _=>rfl) u3) (fun _=>rfl) u4
theorem jB.set {w:World} {b:Nat} {a0 a1 a2 a3 a4:Value} (h:jB w b a0 a1 a2 a3 a4) (u0 u1 u2 u3 u4:Value):jB (((((w.setCell ⟨b,0,none⟩ u0).setCell ⟨b,1,none⟩ u1).setCell ⟨b,2,none⟩ u2).setCell ⟨b,3,none⟩ u3).setCell ⟨b,4,none⟩ u4) b u0 u1 u2 u3 u4:=by
 obtain ⟨⟨t0,t1,t2,t3,t4⟩,tf⟩:=h;have ne:∀ i j:Nat,i≠j→(⟨b,i,none⟩:Addr)≠⟨b,j,none⟩:=fun i j hij e=>hij (by injection e)
 refine ⟨⟨?_,?_,?_,?_,?_⟩,fun i=>by simp only[World.frozen?_setCell];exact tf i⟩
 ·rw[aM (ne 4 0 (by decide)),aM (ne 3 0 (by decide)),aM (ne 2 0 (by decide)),aM (ne 1 0 (by decide))]
  exact dG t0
 ·rw[aM (ne 4 1 (by decide)),aM (ne 3 1 (by decide)),aM (ne 2 1 (by decide))]
  exact dG (u:=a1) (by rw[aM (ne 0 1 (by decide))];exact t1)
 ·rw[aM (ne 4 2 (by decide)),aM (ne 3 2 (by decide))]
  exact dG (u:=a2) (by rw[aM (ne 1 2 (by decide)),aM (ne 0 2 (by decide))];exact t2)
 ·rw[aM (ne 4 3 (by decide))]
  exact dG (u:=a3) (by rw[aM (ne 2 3 (by decide)),aM (ne 1 3 (by decide)),aM (ne 0 3 (by decide))];exact t3)
 ·exact dG (u:=a4) (by rw[aM (ne 3 4 (by decide)),aM (ne 2 4 (by decide)),aM (ne 1 4 (by decide)),aM (ne 0 4 (by decide))];exact t4)
theorem Tryz.infoSn:(Tryz.prog.info? 37).map (fun i=>(i.zero,i.size,i.bytes))=some (some (.agg #[.string ⟨#[]⟩,.string ⟨#[]⟩,.int .i64 0,.bool false,.slice none 0 0]),5,72):=by kernel_rfl
structure Rs where
 s:Sn
 a:Option Addr
 c:Nat
def bE (r:Rs):List Value:=[.string (str r.s.name),.string (str r.s.parent),.int .i64 r.s.kind,.bool r.s.lease,.slice r.a r.s.layer.length r.c]
def aS (rs:List Rs):List Value:=rs.flatMap bE
theorem mR (a b:List Rs):aS (a++b)=aS a++aS b:=by simp[aS]
theorem dJ:∀ rs:List Rs,(aS rs).length=rs.length * 5
 | []=>rfl
 | r :: rs=>by
  have:=dJ rs;simp only[aS,List.flatMap_cons,List.length_append,List.length_cons]at this ⊢;rw[this];simp[bE];omega
theorem mA:∀ (rs:List Rs) (i q:Nat) (r:Rs),rs[i]?=some r→q<5→(aS rs)[i * 5+q]?=(bE r)[q]?
 | [],i,q,r,h,_=>by simp at h
 | x :: rs,0,q,r,h,hq=>by
  simp only[List.getElem?_cons_zero,Option.some.injEq]at h;subst h;simp only[aS,List.flatMap_cons,Nat.zero_mul,Nat.zero_add];rw[List.getElem?_append_left (by simp[bE];omega)]
 | x :: rs,i+1,q,r,h,hq=>by
  have:=mA rs i q r (by simpa using h) hq
  rw[←this];simp only[aS,List.flatMap_cons];rw[List.getElem?_append_right (by simp[bE];omega)]
  congr 1
  simp[bE];omega
theorem dP (rs:List Rs):∀ u∈aS rs,u.oneCell'=true:=by
 intro u hu;simp only[aS,List.mem_flatMap]at hu;obtain ⟨r,_,hr⟩:=hu;simp only[bE,List.mem_cons,List.not_mem_nil,or_false]at hr;rcases hr with rfl | rfl | rfl | rfl | rfl <;> rfl
def LN (B:Nat) (w0 w:World) (v:Value) (l:List Sn):Prop :=
 ∃ rs:List Rs,rs.map Rs.s=l∧w.ownsRow B 37 5 v l.length (aS rs)∧∀ r∈rs,RdE w0 r.a r.s.layer
theorem LN.shape {B:Nat} {w0 w:World} {v:Value} {l:List Sn} (h:LN B w0 w v l):∃ a c,v=.slice a l.length c:=by
 obtain ⟨rs,_,h1,_⟩:=h;exact bH h1
theorem LN.nil (B:Nat) (w0 w:World):LN B w0 w (.slice none 0 0) [] :=
 ⟨[],rfl,World.ownsRow_nil _ _ _ _,fun r hr=>by simp at hr⟩
theorem LN.mono {B B':Nat} {w0 w:World} {v:Value} {l:List Sn} (h:LN B w0 w v l) (hb:B'≤B):LN B' w0 w v l:=by
 obtain ⟨rs,he,h1,h2⟩:=h;exact ⟨rs,he,bF h1 hb,h2⟩
theorem LN.below {B:Nat} {w0 w w':World} {v:Value} {l:List Sn} (h:LN B w0 w v l) (hk:Below w.heap.size w w'):LN B w0 w' v l:=by
 obtain ⟨rs,he,h1,h2⟩:=h;exact ⟨rs,he,aI h1 hk,h2⟩
theorem LN.push {B:Nat} {w0 w2:World} {v':Value} {l:List Sn} {rs:List Rs} {s:Sn} {a:Option Addr} {c m:Nat} (he:rs.map Rs.s=l) (hm:m=l.length)
  (h2:∀ r∈rs,RdE w0 r.a r.s.layer) (hr:RdE w0 a s.layer)
  (hv':w2.ownsRow B 37 5 v' (m+1) (aS rs++bE ⟨s,a,c⟩)):LN B w0 w2 v' (l ++ [s]):=by
 subst hm;refine ⟨rs ++ [⟨s,a,c⟩],by rw[List.map_append,he];rfl,?_,fun r hx=>?_⟩
 ·rw[mR,List.length_append]
  simpa [aS] using hv'
 ·rcases List.mem_append.1 hx with hx | hx
  ·exact h2 r hx
  ·simp only[List.mem_singleton]at hx
   subst hx;exact hr
theorem tV {B:Nat} {w:World} {a:Option Addr} {n c:Nat} {l:List Sn} {rs:List Rs} (he:rs.map Rs.s=l) (h1:w.ownsRow B 37 5 (.slice a n c) l.length (aS rs)) (h2:∀ r∈rs,RdE w r.a r.s.layer):RdS w a l:=by
 intro hz;have h0:0<l.length:=List.length_pos_iff.2 hz;have hl:rs.length=l.length:=by rw[←he,List.length_map]
 rcases h1.2 with ⟨_,h0'⟩ | ⟨g,cap,cur,h',hb',hh,hnc,hcm,hcs,htake⟩
 ·omega
 ·simp only[Value.slice.injEq]at h'
  obtain ⟨rfl,rfl,rfl⟩:=h';refine ⟨g,0,fun i=>(rs[i]?.map Rs.a).getD none,fun i=>(rs[i]?.map Rs.c).getD 0,rfl,(h1.lt g rfl).2,fun i e hi=>?_⟩
  have hi0:i<l.length:=(List.getElem?_eq_some_iff.1 hi).1;obtain ⟨r,hr⟩:∃ r,rs[i]?=some r:=⟨rs[i]'(by omega),List.getElem?_eq_getElem (by omega)⟩
  have hre:r.s=e:=by
   have:(rs.map Rs.s)[i]?=some r.s:=by rw[List.getElem?_map,hr];rfl
   rw[he,hi]at this;exact (Option.some.inj this).symm
  have hc:=fun q hq=>(h1.cellAt (i * 5+q) (by omega)).trans (mA rs i q r hr hq)
  simp only[hr,Option.map_some,Option.getD_some,Nat.zero_add];rw[←hre];exact ⟨hc 0 (by decide),hc 1 (by decide),hc 2 (by decide),hc 3 (by decide),hc 4 (by decide),h2 r (List.mem_of_getElem? hr)⟩
theorem zy0 {w:World} {a:Option Addr} {l:List Sn} (h:RdS w a l):∃ rs:List Rs,rs.map Rs.s=l∧(∀ r∈rs,RdE w r.a r.s.layer)∧(l≠[]→∃ b off,a=some ⟨b,off,none⟩∧b<w.heap.size∧∀ i u,(aS rs)[i]?=some u→w.cell? ⟨b,off+i,none⟩=some u):=by
 by_cases hz:l=[]
 ·subst hz
  exact ⟨[],rfl,fun r hr=>by simp at hr,fun h=>absurd rfl h⟩
 obtain ⟨b,off,A,C,e,hb,hc⟩:=h hz;have hr:∀ (i:Nat) (r:Rs),(l.mapIdx fun i s=>(⟨s,A i,C i⟩:Rs))[i]?=some r→∃ s,l[i]?=some s∧r=⟨s,A i,C i⟩:=fun i r hr=>by
  rw[List.getElem?_mapIdx]at hr;cases hs:l[i]? with
  | none=>rw[hs]at hr;cases hr
  | some s=>rw[hs]at hr;exact ⟨s,rfl,by simpa using hr.symm⟩
 refine ⟨l.mapIdx fun i s=>(⟨s,A i,C i⟩:Rs),?_,fun r hr'=>?_,fun _=>⟨b,off,e,hb,fun i u hu=>?_⟩⟩
 ·apply List.ext_getElem?
  intro i;rw[List.getElem?_map,List.getElem?_mapIdx]
  cases l[i]? <;> rfl
 ·obtain ⟨i,hi⟩:=List.mem_iff_getElem?.1 hr'
  obtain ⟨s,hs,rfl⟩:=hr i r hi;exact (hc i s hs).2.2.2.2.2
 ·have hlt:=(List.getElem?_eq_some_iff.1 hu).1
  rw[dJ]at hlt;obtain ⟨r,hr1⟩:∃ r,(l.mapIdx fun i s=>(⟨s,A i,C i⟩:Rs))[i / 5]?=some r:=⟨_,List.getElem?_eq_getElem (by omega)⟩
  obtain ⟨s,hs,rfl⟩:=hr _ _ hr1;have hg:=mA _ (i / 5) (i % 5) _ hr1 (by omega)
  rw[show i / 5 * 5+i % 5=i by omega,hu]at hg
  obtain ⟨c0,c1,c2,c3,c4,-⟩:=hc _ s hs;have hoff:off+i=off+i / 5 * 5+i % 5:=by omega
  rw[hoff];have h5:i % 5<5:=by omega
  generalize i % 5=q at *;generalize i / 5=j at *
  match q,h5 with
  | 0,_=>rw[Nat.add_zero,c0];exact hg.symm
  | 1,_=>rw[c1];exact hg.symm
  | 2,_=>rw[c2];exact hg.symm
  | 3,_=>rw[c3];exact hg.symm
  | 4,_=>rw[c4];exact hg.symm
def tX (W0:World) (fn:FuncId) (cap:Array Value) (f:Sn→Bool):Prop :=
 (∀ args w,(callFunc fn args).run Tryz.prog w=.ok (.enter fn args) w)∧∀ (s:Sn) (a:Option Addr) (c:Nat) (w:World),Below W0.heap.size W0 w →
  Calls Tryz.prog fn (#[.agg #[.string (str s.name),.string (str s.parent),.int .i64 s.kind,.bool s.lease,.slice a s.layer.length c]]++cap) w fun r w'=>r=.returned (.bool (f s))∧Below w.heap.size w w'
theorem znd {es:List Sn} {f:Sn→Bool} {k:Nat} {e:Sn} (he:es[k]?=some e) (h:es.find? f=(es.drop k).find? f) (hf:f e=false):es.find? f=(es.drop (k+1)).find? f:=by
 rw[h,eG he,List.find?_cons,hf]
theorem zmg {es:List Sn} {f:Sn→Bool} {k:Nat} {e:Sn} (he:es[k]?=some e) (h:es.find? f=(es.drop k).find? f) (hf:f e=true):es.find? f=some e:=by
 rw[h,eG he,List.find?_cons,hf]
theorem zod {es:List Sn} {f:Sn→Bool} {k:Nat} (hk:es.length≤k) (h:es.find? f=(es.drop k).find? f):es.find? f=none:=by
 rw[h,List.drop_eq_nil_of_le hk];rfl
theorem zkd {es:List Sn} {f:Sn→Bool} {k:Nat} {e:Sn} (he:es[k]?=some e) (h:f e=true):(es.take (k+1)).filter f=(es.take k).filter f ++ [e]:=by
 rw[bY he,List.filter_append];simp[h]
theorem zla {es:List Sn} {f:Sn→Bool} {k:Nat} {e:Sn} (he:es[k]?=some e) (h:f e=false):(es.take (k+1)).filter f=(es.take k).filter f:=by
 rw[bY he,List.filter_append];simp[h]
def zjn (o:Option Sn) (w:World) (r:Ending):Prop :=
 (∃ e x cc,o=some e∧r=.returned (.tuple #[.agg #[.string (str e.name),.string (str e.parent),.int .i64 e.kind,.bool e.lease,.slice x e.layer.length cc],.bool true])∧RdE w x e.layer) ∨
  (o=none∧r=.returned (.tuple #[.agg #[.string ⟨#[]⟩,.string ⟨#[]⟩,.int .i64 0,.bool false,.slice none 0 0],.bool false]))
theorem zrd (a:Option Addr) (c n:Nat) (es:List Sn) (fn:FuncId) (cap:Array Value) (f:Sn→Bool) (w0 w:World) (hb0:Below w0.heap.size w0 w) (h:RdS w0 a es) (hn:n=es.length) (hl:es.length≤1048576) (hf:tX w fn cap f) :
  Calls Tryz.prog 79 #[.slice a n c,.func (.func fn) #[] cap] w fun r w'=>zjn (es.find? f) w0 r∧Below w.heap.size w w':=by
 subst hn;have eg:=hf.1;have HF:=aA hf;have HR:=aA h;have HB0:=aA hb0;have X0:=aA (jB.new w (.string ⟨#[]⟩) (.string ⟨#[]⟩) (.int .i64 0) (.bool false) (.slice none 0 0) 37);have B0:=aA (aC w (.cells #[.string ⟨#[]⟩,.string ⟨#[]⟩,.int .i64 0,.bool false,.slice none 0 0] 37));clear h hf hb0;go_enter Tryz.func79,Tryz.ntmps79;go_wp2_with fail
 generalize w.alloc (.cells #[.string ⟨#[]⟩,.string ⟨#[]⟩,.int .i64 0,.bool false,.slice none 0 0] 37)=W0 at *;go_loopw [11] (fun i wr=>∃ k:Nat,k≤es.length∧i=.int .i64 k∧Hid (es.find? f=(es.drop k).find? f)∧Hid (Below W0.heap.size W0 wr)) (fun i _=>es.length - (intOf i).toNat)
 case atStart=>exact ⟨0,Nat.zero_le _,rfl,aA (by simp),aA (Below.refl _ _)⟩
 case round =>
  obtain ⟨k,hk,rfl,HFi,HW0⟩:=hrel;have HW:=aA (aB B0.out HW0.out);have hsz:=HW.out.size;by_cases hlt:k<es.length
  ·obtain ⟨b,off,e,x,cc,rfl,hb,he,c0,c1,c2,c3,c4,hr⟩:=(HR.out.below (aB HB0.out HW.out)).at hlt
   obtain ⟨b',off',e',x',cc',hbb,hb',he',d0,d1,d2,d3,d4,hr'⟩:=HR.out.at hlt;simp only[Option.some.injEq,Addr.mk.injEq,and_true]at hbb;obtain ⟨rfl,rfl⟩:=hbb;have:e'=e:=Option.some.inj (he'.symm.trans he);subst this;have d1':=((aB HB0.out HW.out).cell (p:=⟨b,off+k * 5+4,none⟩) hb').trans d4;rw[c4]at d1';simp only[Option.some.injEq,Value.slice.injEq,true_and]at d1';obtain ⟨rfl,rfl⟩:=d1';have HX:=aA he;have HRc:=aA hr';clear he hr hr' he' d0 d1 d2 d3 d4;have BA:=aA (aC wr (.cells #[.string (str e'.name),.string (str e'.parent),.int .i64 e'.kind,.bool e'.lease,.slice x e'.layer.length cc] 37))
   have F5:=aA (dE.new wr (.string (str e'.name)) (.string (str e'.parent)) (.int .i64 e'.kind) (.bool e'.lease) (.slice x e'.layer.length cc) 37);go_wp2_with fail
   refine (HF.out.2 e' x cc _ (aB HW.out BA.out)).mono ?_;rintro r w3 ⟨rfl,hb3⟩;have BB3:=aA (aB HW0.out (aB BA.out hb3));obtain ⟨f0,f1,f2,f3,f4⟩:=F5.out.below hb3;clear hb3 c0 c1 c2 c3 c4;cases hq:f e'
   ·have HN:=aA (znd HX.out HFi.out hq)
    clear hq;go_wp2_with fail
    go_roundw
    case rel=>exact ⟨k+1,by omega,by go_num,HN,BB3⟩
    case measure=>simp[intOf];omega
   ·have HN:=aA (zmg HX.out HFi.out hq)
    clear hq;obtain ⟨⟨t0,t1,t2,t3,t4⟩,tf⟩:=X0.out.below BB3.out;have tf0:=tf 0;have tf1:=tf 1;have tf2:=tf 2;have tf3:=tf 3;have tf4:=tf 4;clear tf;go_wp2_with fail
    refine bodyPost_ret (v:=.tuple #[.agg #[.string (str e'.name),.string (str e'.parent),.int .i64 e'.kind,.bool e'.lease,.slice x e'.layer.length cc],.bool true]) (by simp[results,Tryz.results79,go_sem,t0,t1,t2,t3,t4]) rfl ?_
    exact ⟨.inl ⟨e',x,cc,HN.out,rfl,HRc.out⟩,Below.five (aB B0.out BB3.out) (Nat.le_refl _) _ _ _ _ _⟩
  ·have HN:=aA (zod (by omega) HFi.out)
   have BA:=aA (aC wr (.cells #[.string ⟨#[]⟩,.string ⟨#[]⟩,.int .i64 0,.bool false,.slice none 0 0] 37));obtain ⟨⟨t0,t1,t2,t3,t4⟩,tf⟩:=X0.out.below (aB HW0.out BA.out);have tf0:=tf 0;have tf1:=tf 1;have tf2:=tf 2;have tf3:=tf 3;have tf4:=tf 4;clear tf;go_wp2_with fail
   refine bodyPost_ret (v:=.tuple #[.agg #[.string ⟨#[]⟩,.string ⟨#[]⟩,.int .i64 0,.bool false,.slice none 0 0],.bool false]) (by simp[results,Tryz.results79,go_sem,t0,t1,t2,t3,t4]) rfl ?_
   exact ⟨.inr ⟨HN.out,rfl⟩,Below.five (aB HW.out BA.out) (Nat.le_refl _) _ _ _ _ _⟩
theorem zff (a:Option Addr) (c n:Nat) (es:List Sn) (fn:FuncId) (cap:Array Value) (f:Sn→Bool) (w0 w:World) (hb0:Below w0.heap.size w0 w) (h:RdS w0 a es) (hn:n=es.length) (hl:es.length≤1048576) (hf:tX w fn cap f) :
  Calls Tryz.prog 136 #[.slice a n c,.func (.func fn) #[] cap] w fun r w'=>∃ av cv,r=.returned (.slice av (es.filter f).length cv)∧LN w.heap.size w0 w' (.slice av (es.filter f).length cv) (es.filter f)∧Below w.heap.size w w':=by
 subst hn;obtain ⟨i1,ki,kz0,kz1,kz2⟩:=info_parts Tryz.infoSn;have eg:=hf.1;have HF:=aA hf;have HR:=aA h;have HB0:=aA hb0;clear h hf hb0;go_enter Tryz.func136,Tryz.ntmps136;go_wp2_with fail
 go_loopw [5,10] (fun v i wr=>∃ k:Nat,k≤es.length∧i=.int .i64 k∧Hid (LN w.heap.size w0 wr v ((es.take k).filter f))∧Hid (Below w.heap.size w wr)) (fun _ i _=>es.length - (intOf i).toNat)
 case atStart=>exact ⟨0,Nat.zero_le _,rfl,aA (LN.nil _ _ _),aA (Below.refl _ _)⟩
 case round =>
  obtain ⟨k,hk,rfl,HL,HW⟩:=hrel;have hsz:=HW.out.size;obtain ⟨lv,lc,hv⟩:=HL.out.shape;subst hv;have hrl:=List.length_filter_le f (es.take k);rw[List.length_take]at hrl;by_cases hlt:k<es.length
  ·obtain ⟨b,off,e,x,cc,rfl,hb,he,c0,c1,c2,c3,c4,hr⟩:=(HR.out.below (aB HB0.out HW.out)).at hlt
   obtain ⟨b',off',e',x',cc',hbb,hb',he',d0,d1,d2,d3,d4,hr'⟩:=HR.out.at hlt;simp only[Option.some.injEq,Addr.mk.injEq,and_true]at hbb;obtain ⟨rfl,rfl⟩:=hbb;have:e'=e:=Option.some.inj (he'.symm.trans he);subst this;have d1':=((aB HB0.out HW.out).cell (p:=⟨b,off+k * 5+4,none⟩) hb').trans d4;rw[c4]at d1';simp only[Option.some.injEq,Value.slice.injEq,true_and]at d1';obtain ⟨rfl,rfl⟩:=d1';have HX:=aA he;have HRc:=aA hr';clear he hr hr' he' d0 d1 d2 d3 d4;have BA:=aA (aC wr (.cells #[.string (str e'.name),.string (str e'.parent),.int .i64 e'.kind,.bool e'.lease,.slice x e'.layer.length cc] 37))
   have F5:=aA (dE.new wr (.string (str e'.name)) (.string (str e'.parent)) (.int .i64 e'.kind) (.bool e'.lease) (.slice x e'.layer.length cc) 37);go_wp2_with fail
   refine (HF.out.2 e' x cc _ (aB HW.out BA.out)).mono ?_;rintro r w3 ⟨rfl,hb3⟩;have BB5:=aA (aB BA.out hb3);obtain ⟨f0,f1,f2,f3,f4⟩:=F5.out.below hb3;clear hb3 c0 c1 c2 c3 c4;cases hq:f e'
   ·have HN:=aA (zla HX.out hq)
    clear hq;go_wp2_with fail
    go_roundw
    case rel=>exact ⟨k+1,by omega,by go_num,aA (by rw[HN.out];exact HL.out.below BB5.out),aA (aB HW.out BB5.out)⟩
    case measure=>simp[intOf];omega
   ·have HN:=aA (zkd HX.out hq)
    clear hq;obtain ⟨rs,g1,g2,g3⟩:=HL.out;have G1:=aA g1;have G2:=aA (aI g2 BB5.out);have G3:=aA g3;clear g1 g2 g3;obtain ⟨L,hL⟩:∃ L,L=((es.take k).filter f).length:=⟨_,rfl⟩;rw[←hL]at hrl G2 ⊢;have HLn:=aA hL;clear hL;have hm1:L+1≤maxLen:=by unfold maxLen;omega
    have hm1':(L+1) * 72≤140737488355328:=by omega
    have hsz5:=BB5.out.size;go_wp2_with (at_builtin;refine dB rfl (.tmp 17) (.tmp 19) 106 rfl w.heap.size 37 i1 (.agg #[.string ⟨#[]⟩,.string ⟨#[]⟩,.int .i64 0,.bool false,.slice none 0 0]) 5 72 Tryz.underlying106 ki kz0 kz1 kz2 rfl (by decide) _ _ _ rfl G2.out _ rfl rfl rfl (by intro u hu;simp at hu;rcases hu with rfl | rfl | rfl | rfl | rfl <;> rfl) hm1 hm1' (by omega) ?_;intro av6 cv6 w6 hown6 hk6;have O6:=aA hown6;have K6:=aA hk6;clear hown6 hk6)
    go_roundw
    case rel =>
     refine ⟨k+1,by omega,by go_num,aA ?_,aA ?_⟩
     ·rw[HN.out]
      exact LN.push (s:=e') (a:=x) (c:=cc) G1.out HLn.out G3.out HRc.out O6.out
     ·exact (aB HW.out BB5.out).trans (K6.out.below (by omega) (fun q hq hS=>by have:=(G2.out.lt q hS).1;omega))
    case measure=>simp[intOf];omega
  ·have HE:=aA (show es.take k=es from List.take_of_length_le (by omega))
   rw[HE.out]at HL ⊢;clear HE;go_wp2_with fail
   go_ret
   exact ⟨lv,lc,rfl,HL.out,HW.out⟩
theorem zq2 (b:Nat) (fn:FuncId) (cap:Array Value) (f:Sn→Bool) (W0:World) (hf:tX W0 fn cap f) (e:Sn) (a:Option Addr) (c:Nat) (w:World) (hw:Below W0.heap.size W0 w) (h:w.cell? ⟨b,0,none⟩=some (.func (.func fn) #[] cap)) :
  Calls Tryz.prog 137 #[.agg #[.string (str e.name),.string (str e.parent),.int .i64 e.kind,.bool e.lease,.slice a e.layer.length c],.pointer (some ⟨b,0,none⟩)] w fun r w'=>r=.returned (.bool (!f e))∧Below w.heap.size w w':=by
 have eg:=hf.1;have B0:=aA (aC w (.cells #[.string (str e.name),.string (str e.parent),.int .i64 e.kind,.bool e.lease,.slice a e.layer.length c] 37));have hb:=World.block_lt_of_cell? w ⟨b,0,none⟩ h;have hc:=(B0.out.cell (p:=⟨b,0,none⟩) hb).trans h;have HF:=aA (hf.2 e a c _ (aB hw B0.out));generalize f e=Z at *;clear h hf;go_enter Tryz.func137,Tryz.ntmps137;go_wp2_with fail
 refine HF.out.mono ?_;rintro r w1 ⟨rfl,hb1⟩;have B1:=aA (aB B0.out hb1);clear hb1;go_wp2_with fail
 go_ret
 exact ⟨rfl,B1.out⟩
theorem zp9 (a:Option Addr) (c n:Nat) (es:List Sn) (fn:FuncId) (cap:Array Value) (f:Sn→Bool) (w0 w:World) (hb0:Below w0.heap.size w0 w) (h:RdS w0 a es) (hn:n=es.length) (hl:es.length≤1048576) (hf:tX w fn cap f) :
  Calls Tryz.prog 96 #[.slice a n c,.func (.func fn) #[] cap] w fun r w'=>∃ av cv,r=.returned (.slice av (es.filter fun e=>!f e).length cv)∧LN w.heap.size w0 w' (.slice av (es.filter fun e=>!f e).length cv) (es.filter fun e=>!f e)∧Below w.heap.size w w':=by
 have hmf:∀ (fn:Fn) (first cap:Array Value) (w:World),(Instr.makeFunc fn first cap).run Tryz.prog w=.ok (.func fn first cap) w:=fun _ _ _ _=>rfl
 subst hn;have B0:=aA (aC w (.cells #[.func (.func fn) #[] cap] 78));have HA:Hid (tX (w.alloc (.cells #[.func (.func fn) #[] cap] 78)) 137 #[.pointer (some ⟨w.heap.size,0,none⟩)] (fun e=>!f e)):=aA ⟨enters_of Tryz.func137 (by kernel_rfl) rfl,fun e a c w' hb =>
  zq2 w.heap.size fn cap f w hf e a c w' (aB B0.out hb) ((hb.cell (p:=⟨w.heap.size,0,none⟩) (by simp)).trans (by simp))⟩
 have HC:=aA (zff a c es.length es _ _ (fun e=>!f e) w0 _ (aB hb0 B0.out) h rfl hl HA.out)
 clear h hf HA hb0;go_enter Tryz.func96,Tryz.ntmps96;go_wp2_with fail
 generalize w.alloc (.cells #[.func (.func fn) #[] cap] 78)=W0 at *;refine HC.out.mono ?_;rintro r w1 ⟨av,cv,rfl,hL,hb1⟩;have HL:=aA hL;have B1:=aA hb1;clear hL hb1 HC;go_wp2_with fail
 go_ret
 exact ⟨av,cv,rfl,HL.out.mono (by have:=B0.out.size;omega),aB B0.out B1.out⟩
theorem zj3 (nm:Bs) (w:World) (h:nm.length≤1048576) :
  Calls Tryz.prog 36 #[.string (str nm)] w fun r w'=>r=.returned (.bool (fW nm))∧w'=w:=by
 have hsz:(str nm).size≤9223372036854775807:=by rw[aK];omega
 have HL:=aA (fun u=>vP (str nm) u hsz)
 rw[aT]at HL;have HN:=aA (show fW nm=(eH nm&&decide (nm.length≤4)) from rfl)
 generalize fW nm=Z at *;generalize eH nm=Y at *;have hss:(str nm).size=nm.length:=aK nm;by_cases h4:nm.length≤4
 ·have hb:((str nm).size:Int)≤4:=by omega
  have HZ:=aA (show Z=Y by rw[HN.out,decide_eq_true h4,Bool.and_true])
  clear h4;go_enter Tryz.func36,Tryz.ntmps36;go_wp2_with fail
  refine (HL.out _).mono ?_;rintro r w1 ⟨rfl,rfl⟩;go_wp2_with fail
  go_ret
  exact ⟨bQ HZ.out.symm,rfl⟩
 ·have hb:¬ ((str nm).size:Int)≤4:=by omega
  have HZ:=aA (show Z=false by rw[HN.out,decide_eq_false h4,Bool.and_false])
  clear h4;go_enter Tryz.func36,Tryz.ntmps36;go_wp2_with fail
  go_ret
  exact ⟨bQ HZ.out.symm,rfl⟩
theorem zi3 (k:Int) (w:World) :
  Calls Tryz.prog 37 #[.int .i64 k] w fun r w'=>r=.returned (.bool (k==1||k==2))∧w'=w:=by
 by_cases h1:k=1
 ·subst h1
  go_enter Tryz.func37,Tryz.ntmps37;go_wp2
  go_ret
  exact ⟨rfl,rfl⟩
 ·have hb:(k==1)=false:=by simp[h1]
  rw[hb,Bool.false_or];go_enter Tryz.func37,Tryz.ntmps37;go_wp2
  go_ret
  exact ⟨rfl,rfl⟩
theorem uD (s:Sn) (x:Option Addr) (c:Nat) (w:World) :
  Calls Tryz.prog 81 #[.agg #[.string (str s.name),.string (str s.parent),.int .i64 s.kind,.bool s.lease,.slice x s.layer.length c]] w fun r w'=>r=.returned (.agg #[.string (str s.name),.string (str s.parent)])∧Below w.heap.size w w':=by
 go_enter Tryz.func81,Tryz.ntmps81;go_wp2_with fail
 refine bodyPost_ret (v:=.agg #[.string (str s.name),.string (str s.parent)]) (by simp[results,Tryz.results81,go_sem]) rfl ?_
 refine ⟨rfl,?_⟩;exact aB (aC w _) (aC _ _)
theorem zz1 (s:Sn) (x:Option Addr) (c:Nat) (w:World) :
  Calls Tryz.prog 41 #[.agg #[.string (str s.name),.string (str s.parent),.int .i64 s.kind,.bool s.lease,.slice x s.layer.length c]] w fun r w'=>r=.returned (.bool (s.name.isEmpty&&s.parent.isEmpty))∧Below w.heap.size w w':=by
 have HC:=aA (fun u=>uD s x c u)
 go_enter Tryz.func41,Tryz.ntmps41;go_wp2_with fail
 refine (HC.out _).mono ?_;rintro r w1 ⟨rfl,hb1⟩;have B1:=aA (aB (aC w (.cells #[.string (str s.name),.string (str s.parent),.int .i64 s.kind,.bool s.lease,.slice x s.layer.length c] 37)) hb1);clear hb1;go_wp2_with fail
 all_goals
  go_ret
  refine ⟨bQ ?_,B1.out⟩;clear B1 HC;simp_all [aN]
def eQ:Sn:=⟨[],[],0,false,[]⟩
def zbo (o:Option Sn) (w:World) (r:Ending):Prop :=
 ∃ e x cc,e=o.getD eQ∧r=.returned (.agg #[.string (str e.name),.string (str e.parent),.int .i64 e.kind,.bool e.lease,.slice x e.layer.length cc])∧RdE w x e.layer
theorem zc6 (p:Bs) (b:Nat) (s:Sn) (a:Option Addr) (c:Nat) (w:World) (h:w.cell? ⟨b,0,none⟩=some (.string (str p))) :
  Calls Tryz.prog 80 #[.agg #[.string (str s.name),.string (str s.parent),.int .i64 s.kind,.bool s.lease,.slice a s.layer.length c],.pointer (some ⟨b,0,none⟩)] w fun r w'=>r=.returned (.bool (s.name==p))∧Below w.heap.size w w':=by
 have hb:=World.block_lt_of_cell? w ⟨b,0,none⟩ h;have hs:=rB s.name p;have HZ:=aA (show (s.name==p)=decide (s.name=p) by by_cases h:s.name=p <;> simp[h])
 rw[HZ.out];clear HZ;generalize decide (s.name=p)=Z at *;have hbw:(w.alloc (.cells #[.string (str s.name),.string (str s.parent),.int .i64 s.kind,.bool s.lease,.slice a s.layer.length c] 37)).cell? ⟨b,0,none⟩=some (.string (str p)):=((aC w _).cell (p:=⟨b,0,none⟩) hb).trans h;go_enter Tryz.func80,Tryz.ntmps80;go_wp2_with fail
 go_ret
 exact ⟨rfl,aC _ _⟩
theorem oO (a:Option Addr) (c n:Nat) (l:List Sn) (nm:Bs) (w0 w:World) (hb0:Below w0.heap.size w0 w) (h:RdS w0 a l) (hn:n=l.length) (hl:l.length≤1048576) :
  Calls Tryz.prog 40 #[.slice a n c,.string (str nm)] w fun r w'=>zbo (atS l nm) w0 r∧Below w.heap.size w w':=by
 have hmf:∀ (fn:Fn) (first cap:Array Value) (w:World),(Instr.makeFunc fn first cap).run Tryz.prog w=.ok (.func fn first cap) w:=fun _ _ _ _=>rfl
 subst hn;have B0:=aA (aC w (.cells #[.string (str nm)] 9));have B1:=aA (aB B0.out (aC _ (.cells #[.string ⟨#[]⟩,.string ⟨#[]⟩,.int .i64 0,.bool false,.slice none 0 0] 37)));have HA:Hid (tX ((w.alloc (.cells #[.string (str nm)] 9)).alloc (.cells #[.string ⟨#[]⟩,.string ⟨#[]⟩,.int .i64 0,.bool false,.slice none 0 0] 37)) 80 #[.pointer (some ⟨w.heap.size,0,none⟩)] (fun s=>s.name==nm)):=aA ⟨enters_of Tryz.func80 (by kernel_rfl) rfl,fun s a c w' hb =>
  zc6 nm w.heap.size s a c w' ((hb.cell (p:=⟨w.heap.size,0,none⟩) (by simp;omega)).trans ((aC _ _).cell (p:=⟨w.heap.size,0,none⟩) (by simp) |>.trans (by simp)))⟩
 have X0:=aA (jB.new (w.alloc (.cells #[.string (str nm)] 9)) (.string ⟨#[]⟩) (.string ⟨#[]⟩) (.int .i64 0) (.bool false) (.slice none 0 0) 37);have HC:=aA (zrd a c l.length l _ _ (fun s=>s.name==nm) w0 _ (aB hb0 B1.out) h rfl hl HA.out)
 have HATS:=aA (show atS l nm=l.find? (fun s=>s.name==nm) from rfl)
 clear h HA hb0 B0;go_enter Tryz.func40,Tryz.ntmps40;go_wp2_with fail
 simp only[World.size_alloc]at X0;generalize (w.alloc (.cells #[.string (str nm)] 9)).alloc (.cells #[.string ⟨#[]⟩,.string ⟨#[]⟩,.int .i64 0,.bool false,.slice none 0 0] 37)=W0 at *;refine HC.out.mono ?_;rintro r w1 ⟨hf,hb1⟩;have HF:∃ e x cc b,e=(atS l nm).getD eQ∧r=.returned (.tuple #[.agg #[.string (str e.name),.string (str e.parent),.int .i64 e.kind,.bool e.lease,.slice x e.layer.length cc],.bool b])∧RdE w0 x e.layer:=by
  rcases hf with ⟨e,x,cc,hq,hr,hx⟩ | ⟨hq,hr⟩
  ·exact ⟨e,x,cc,true,by rw[HATS.out,hq];rfl,hr,hx⟩
  ·exact ⟨eQ,none,0,false,by rw[HATS.out,hq];rfl,hr,fun hz=>absurd rfl hz⟩
 obtain ⟨e,x,cc,b,he,rfl,hx⟩:=HF;have HE:=aA he;have HX:=aA hx;have BA:=aA (aB hb1 (aC w1 (.cells #[.string (str e.name),.string (str e.parent),.int .i64 e.kind,.bool e.lease,.slice x e.layer.length cc] 37)));obtain ⟨⟨t0,t1,t2,t3,t4⟩,tf⟩:=X0.out.below BA.out;have tf0:=tf 0;have tf1:=tf 1;have tf2:=tf 2;have tf3:=tf 3;have tf4:=tf 4;clear hf he hx tf hb1;go_wp2_with fail
 refine bodyPost_ret (v:=.agg #[.string (str e.name),.string (str e.parent),.int .i64 e.kind,.bool e.lease,.slice x e.layer.length cc]) (by simp[results,Tryz.results40,go_sem,t0,t1,t2,t3,t4]) rfl ?_
 exact ⟨⟨e,x,cc,HE.out,rfl,HX.out⟩,Below.five (aB B1.out BA.out) (by omega) _ _ _ _ _⟩
end Go.Proofs.YtolnlfnndnpiiaaGreat
