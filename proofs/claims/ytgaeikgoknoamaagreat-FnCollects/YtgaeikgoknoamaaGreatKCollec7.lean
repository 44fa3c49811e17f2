/-
  Texts put together: TreL TreA MerL OvrL SeeB OvrM SeeE.
-/
import Derived.Test.YtgaeikgoknoamaaGreatKCollec6
import Derived.Maps.OwnSet
import Derived.DeepKeys5
import Derived.Deep.RegionLaw
import Derived.Test.YtgaeikgoknoamaaGreatKCollec3
set_option linter.unusedVariables false
set_option maxHeartbeats 6400000
set_option maxRecDepth 100000
namespace Go.Proofs.YtgaeikgoknoamaaGreat
def iX (k:Int):Bool:=decide (k=1∨k=2)
def dG (es:List En):Int:=if 40<es.length then 2 else if es.all (fun e=>iX e.kind) then cC (cI es) none es else 1
structure zu2 (es:List En):Prop where
 len:es.length≤40
 kind:∀ e∈es,iX e.kind=true
 ent:∀ e∈es,aH e=0
 rise:fG es
 home:∀ e∈es,cI es e.path=true
theorem zh5 {es:List En}:dG es=0↔zu2 es:=by
 unfold dG;by_cases h:40<es.length
 ·rw[if_pos h]
  exact ⟨fun x=>(by cases x),fun x=>(by have:=x.len;omega)⟩
 ·rw[if_neg h]
  cases hk:es.all (fun e=>iX e.kind)
  ·refine ⟨fun x=>(by simp at x),fun x=>?_⟩
   exfalso
   have:=List.all_eq_true.2 x.kind;rw[this]at hk;cases hk
  ·rw[if_pos rfl,lI]
   exact ⟨fun ⟨a,b,_⟩=>⟨by omega,List.all_eq_true.1 hk,fun e he=>(a e he).1,b,fun e he=>(a e he).2⟩,fun x=>⟨fun e he=>⟨x.ent e he,x.home e he⟩,x.rise,fun q hq=>by cases hq⟩⟩
def mB (es:List En):Prop:=cC (cI es) none es=cC (eB es) none es
theorem mB.good {es:List En} (h:mB es):zt2 es:=by
 by_cases hl:12<es.length
 ·exact zkc hl
 ·exact zlh hl h
theorem rT {es:List En} (h:fG es):mB es:=mX (fun x hx _=>lM h x.path)
theorem zq9 {es:List En} {e:En} (hr:fG es) (hh:∀ x∈es,cI es x.path=true):mB (es ++ [e]):=by
 refine mX (fun x hx hxe=>?_)
 rcases List.mem_append.1 hx with hx | hx
 ·have h1:=hh x hx
  have h2:cI (es ++ [e]) x.path=true:=by
   rw[dS]at h1 ⊢;rcases h1 with h1 | ⟨d,hd,h1⟩
   ·exact .inl h1
   ·exact .inr ⟨d,List.mem_append_left _ hd,h1⟩
  rw[h2]
  symm
  rw[lM hr]at h1;unfold eB at h1 ⊢;by_cases h0:aF x.path=[]
  ·simp[h0]
  ·rw[if_neg h0]at h1 ⊢
   cases hf:aL es (aF x.path) with
   | none=>rw[hf]at h1;simp at h1
   | some d =>
    rw[hf]at h1;have:aL (es ++ [e]) (aF x.path)=some d:=by
     rw[aL,List.find?_append];have hf':List.find? (fun y:En=>decide (y.path=aF x.path)) es=some d:=hf
     rw[hf'];rfl
    rw[this];exact h1
 ·simp only[List.mem_singleton]at hx
  subst hx;by_cases h0:aF x.path=[]
  ·simp[cI,eB,h0]
  ·have hne:=uQ (bO hxe) h0
   have e1:cI (es ++ [x]) x.path=cI es x.path:=by
    simp[cI,h0,cU,hne.symm]
   have e2:eB (es ++ [x]) x.path=eB es x.path:=by
    have:aL (es ++ [x]) (aF x.path)=aL es (aF x.path):=by
     simp[aL,List.find?_append,hne.symm]
    simp only[eB,this]
   rw[e1,e2,lM hr]
theorem zic {r0 e:En} {tl:List En} (h:bD (r0 :: tl)):mB (e :: tl):=by
 have hrt:fG tl:=(List.pairwise_cons.1 h.rise).2;by_cases hr:fG (e :: tl)
 ·exact rT hr
 ·have hb:dC (cI (e :: tl)) none e=dC (eB (e :: tl)) none e:=by
   unfold dC;by_cases he:aH e=0
   ·have:cI (e :: tl) e.path=eB (e :: tl) e.path:=by
     by_cases h0:aF e.path=[]
     ·simp[cI,eB,h0]
     ·have hne:=uQ (bO he) h0
      have e1:cI (e :: tl) e.path=cI tl e.path:=by simp[cI,h0,cU,hne.symm]
      have e2:eB (e :: tl) e.path=eB tl e.path:=by
       have:aL (e :: tl) (aF e.path)=aL tl (aF e.path):=by simp[aL,hne.symm]
       simp only[eB,this]
      rw[e1,e2,lM hrt]
    rw[this]
   ·simp[he]
  unfold mB;simp only[cC];rw[hb];by_cases hz:dC (eB (e :: tl)) none e=0
  ·rw[if_pos hz,if_pos hz]
   cases tl with
   | nil=>rfl
   | cons t1 r =>
    have ht:aH t1=0:=h.ent t1 (by simp)
    have hlow:gL (some e) t1=true:=by
     cases hlo:gL (some e) t1
     ·exfalso
      refine hr (List.pairwise_cons.2 ⟨fun y hy=>?_,hrt⟩)
      have h1:=ze1 hlo;rcases List.mem_cons.1 hy with rfl | hy
      ·exact h1
      ·exact iF _ _ _ h1 ((List.pairwise_cons.1 hrt).1 y hy)
     ·rfl
    simp only[cC];have b1:∀ H:Bs→Bool,dC H (some e) t1=1:=fun H=>by simp[dC,ht,hlow]
    rw[b1,b1];rfl
  ·rw[if_neg hz,if_neg hz]
theorem zm6 {e:En} {tl:List En} (h:aH e≠0):mB (e :: tl):=by
 have b1:∀ H:Bs→Bool,dC H none e=aH e:=fun H=>by simp[dC,h]
 unfold mB;simp only[cC,b1,if_neg h]
theorem rA {ns:List Bs} (h:1<ns.length):(bH ns).getLastD []=bL (ns.take (ns.length - 1)):=by
 obtain ⟨m,hm⟩:∃ m,ns.length - 1=m+1:=⟨ns.length - 2,by omega⟩
 unfold bH;rw[hm,List.range_succ,List.map_append,List.getLastD_eq_getLast?];simp
theorem zr8 {x p:Bs} (hx:aG x=0) (hp:aG p=0) (h:bE x p=true):aF x≠[]∧(aF x=p∨bE (aF x) p=true):=by
 have hm:=(jL hx).2 ⟨hp,h⟩;have hne:bH (bB x.tail)≠[]:=fun e=>by rw[e]at hm;simp at hm
 have h0:aF x≠[]:=fun e=>hne (lF.1 e)
 refine ⟨h0,?_⟩;obtain ⟨ns,hN,hxe,hc,-⟩:=eY hx;rw[hc]at hm hne;obtain ⟨k,hk0,hk1,hpk⟩:=oP.1 hm;have hpar:aF x=bL (ns.take (ns.length - 1)):=by unfold aF;rw[hc];exact rA (by omega)
 by_cases hk:k=ns.length - 1
 ·exact .inl (by rw[hpar,hpk,hk])
 ·refine .inr ?_
  have hT:mC (ns.take (ns.length - 1)):=oR hN (by omega)
  have hf:=nU hT;rw[hpar];refine ((jL hf).1 ?_).2;rw[zsb hT,oP];refine ⟨k,hk0,by rw[List.length_take];omega,?_⟩
  rw[hpk,List.take_take,Nat.min_eq_left (by omega)]
def eU (es:List En) (p:Bs):List En:=es.filter fun x=>!decide (x.path=p)
theorem zsf {es:List En} {p:Bs} {x:En}:x∈eU es p↔x∈es∧x.path≠p:=by simp[eU]
theorem zwf (es:List En) (p:Bs):(eU es p).length≤es.length:=List.length_filter_le _ _
def eA (es:List En) (p:Bs):Int :=
 if aF p=[] then 0 else
  match aL es (aF p) with
  | none=>4
  | some e=>if e.kind=1 then 9 else 0
theorem tV {es:List En} {p:Bs} (h:aF p=[]):eA es p=0:=by simp[eA,h]
theorem yT {es:List En} {p:Bs} (h:aF p≠[]) (hf:aL es (aF p)=none):eA es p=4:=by simp[eA,h,hf]
def tR (p:Bs):En:=⟨p,2,0,[]⟩
def cM (es:List En) (p:Bs):List En:=es.filter fun x=>decide (aF x.path=p)
theorem rR {p:Bs} (hp:aG p=0):aH (tR p)=0:=by
 rw[fB (e:=tR p) hp (by simp[gD,tR]) (by simp[kF,tR]) (by simp[kT,tR])]
 rfl
end Go.Proofs.YtgaeikgoknoamaaGreat
namespace Go.Proofs.YtgaeikgoknoamaaGreat
open Go.RowKit Go.Maps
attribute [local go_sem ↓] Go.wp_at_zero Go.wp_at_succ
theorem zN (a:Option Addr) (c n:Nat) (es:List En) (w:World) (h:RdE w a es) (hn:n=es.length) (hl:es.length≤1048576) :
  Calls Tryz.prog 90 #[.slice a n c] w fun r w'=>∃ av cv,r=.returned (.slice av n cv)∧LI w w' (.slice av n cv) es∧Below w.heap.size w w':=by
 subst hn;obtain ⟨i1,ki,kz0,kz1,kz2⟩:=info_parts Tryz.infoIt;have HR:=aA h;clear h;go_enter Tryz.func90,Tryz.ntmps90;go_wp2_with fail
 go_loopw [3,8] (fun v i wr=>∃ k:Nat,k≤es.length∧i=.int .i64 k∧Hid (LI w wr v (es.take k))∧Hid (Below w.heap.size w wr)) (fun _ i _=>es.length - (intOf i).toNat)
 case atStart=>exact ⟨0,Nat.zero_le _,rfl,aA (LI.nil _ _),aA (Below.refl _ _)⟩
 case round =>
  obtain ⟨k,hk,rfl,HL,HW⟩:=hrel;have hsz:=HW.out.size;obtain ⟨lv,lc,hv⟩:=HL.out.shape;rw[eW hk]at hv;subst hv;by_cases hlt:k<es.length
  ·obtain ⟨b,off,e,x,cc,rfl,hb,he,c0,c1,c2,c3,hr⟩:=(HR.out.below HW.out).at hlt
   obtain ⟨b',off',e',x',cc',hbb,hb',he',d0,d1,d2,d3,hr'⟩:=HR.out.at hlt;simp only[Option.some.injEq,Addr.mk.injEq,and_true]at hbb;obtain ⟨rfl,rfl⟩:=hbb;have:e'=e:=Option.some.inj (he'.symm.trans he);subst this;have d3':=(HW.out.cell (p:=⟨b,off+k * 4+3,none⟩) hb').trans d3;rw[c3]at d3';simp only[Option.some.injEq,Value.slice.injEq,true_and]at d3';obtain ⟨rfl,rfl⟩:=d3';have HX:=aA he;have HRc:=aA hr';clear he hr hr' he' d0 d1 d2 d3;have BA:=aA (aC wr (.cells #[.string (str e'.path),.int .i64 e'.kind,.int .i64 e'.size,.slice x e'.chunks.length cc] 87));go_wp2_with fail
   refine (jS _ _ _ _ _ _ _).mono ?_;rintro r w3 ⟨rfl,hb3⟩;have BB5:=aA (aB BA.out hb3);clear hb3 c0 c1 c2 c3 BA;obtain ⟨rs,g1,g2,g3⟩:=HL.out;rw[eW hk]at g2;have G1:=aA g1;have G2:=aA (aJ g2 BB5.out);have G3:=aA g3;have HK:=aA (eW hk);clear g1 g2 g3;have hm1:k+1≤maxLen:=by unfold maxLen;omega
   have hm1':(k+1) * 56≤140737488355328:=by omega
   have hsz5:=BB5.out.size;go_wp2_with (at_builtin;refine dJ rfl (.tmp 12) (.tmp 15) 118 rfl w.heap.size 91 i1 (.agg #[.int .i64 0,.slice none 0 0,.string ⟨#[]⟩,.int .i64 0]) 4 56 Tryz.underlying118 ki kz0 kz1 kz2 rfl (by decide) _ _ _ rfl G2.out _ rfl rfl rfl (by intro u hu;simp at hu;rcases hu with rfl | rfl | rfl | rfl <;> rfl) hm1 hm1' (by omega) ?_;intro av6 cv6 w6 hown6 hk6;have O6:=aA hown6;have K6:=aA hk6;clear hown6 hk6)
   go_roundw
   case rel =>
    refine ⟨k+1,by omega,by go_num,aA ?_,aA ?_⟩
    ·rw[bQ HX.out]
     exact LI.push (e:=e') (a:=x) (c:=cc) G1.out HK.out.symm G3.out HRc.out O6.out
    ·exact (aB HW.out BB5.out).trans (K6.out.below (by omega) (fun q hq hS=>by have:=(G2.out.lt q hS).1;omega))
   case measure=>simp[intOf];omega
  ·have hke:k=es.length:=by omega
   have HE:=aA (show es.take k=es from List.take_of_length_le (by omega))
   have HL2:Hid (LI w wr (.slice lv k lc) es):=by have:=HL.out;rw[HE.out]at this;exact this
   clear HL HE;subst hke;go_wp2_with fail
   go_ret
   exact ⟨lv,lc,rfl,HL2.out,HW.out⟩
def mA (W0:World) (fn:FuncId) (cap:Array Value) (f:En→Bool):Prop :=
 (∀ args w,(callFunc fn args).run Tryz.prog w=.ok (.enter fn args) w)∧∀ (e:En) (a:Option Addr) (c:Nat) (w:World),e.path.length≤1048576→e.chunks.length≤1048576→aZ .i64 w a e.chunks→Below W0.heap.size W0 w →
  Calls Tryz.prog fn (#[.agg #[.int .i64 e.size,.slice a e.chunks.length c,.string (str e.path),.int .i64 e.kind]]++cap) w fun r w'=>r=.returned (.bool (f e))∧Below w.heap.size w w'
theorem mA.next {W0 W:World} {fn:FuncId} {cap:Array Value} {f:En→Bool} (h:mA W0 fn cap f) (hb:Below W0.heap.size W0 W):mA W fn cap f :=
 ⟨h.1,fun e a c w he hc hr hw=>h.2 e a c w he hc hr (aB hb hw)⟩
theorem zdc {es:List En} {f:En→Bool} {k:Nat} {e:En} (he:es[k]?=some e) (h:es.find? f=(es.drop k).find? f) (hf:f e=false):es.find? f=(es.drop (k+1)).find? f:=by
 rw[h,dP he,List.find?_cons,hf]
theorem zye {es:List En} {f:En→Bool} {k:Nat} {e:En} (he:es[k]?=some e) (h:es.find? f=(es.drop k).find? f) (hf:f e=true):es.find? f=some e:=by
 rw[h,dP he,List.find?_cons,hf]
theorem zec {es:List En} {f:En→Bool} {k:Nat} (hk:es.length≤k) (h:es.find? f=(es.drop k).find? f):es.find? f=none:=by
 rw[h,List.drop_eq_nil_of_le hk];rfl
def zai (o:Option En) (w:World) (r:Ending):Prop :=
 (∃ e x cc,o=some e∧r=.returned (.tuple #[.agg #[.int .i64 e.size,.slice x e.chunks.length cc,.string (str e.path),.int .i64 e.kind],.bool true])∧aZ .i64 w x e.chunks) ∨
  (o=none∧r=.returned (.tuple #[.agg #[.int .i64 0,.slice none 0 0,.string ⟨#[]⟩,.int .i64 0],.bool false]))
theorem zfc (a:Option Addr) (c n:Nat) (es:List En) (fn:FuncId) (cap:Array Value) (f:En→Bool) (w:World) (h:RdI w a es) (hn:n=es.length) (hl:es.length≤1048576) (hs:bJ es) (hf:mA w fn cap f) :
  Calls Tryz.prog 178 #[.slice a n c,.func (.func fn) #[] cap] w fun r w'=>zai (es.find? f) w r∧Below w.heap.size w w':=by
 subst hn;have eg:=hf.1;have HF:=aA hf;have HR:=aA h;have HS:=aA hs;have X0:=aA (mS.new w (.int .i64 0) (.slice none 0 0) (.string ⟨#[]⟩) (.int .i64 0) 91);have B0:=aA (aC w (.cells #[.int .i64 0,.slice none 0 0,.string ⟨#[]⟩,.int .i64 0] 91));clear h hf hs;go_enter Tryz.func178,Tryz.ntmps178;go_wp2_with fail
 generalize w.alloc (.cells #[.int .i64 0,.slice none 0 0,.string ⟨#[]⟩,.int .i64 0] 91)=W0 at *;go_loopw [11] (fun i wr=>∃ k:Nat,k≤es.length∧i=.int .i64 k∧Hid (es.find? f=(es.drop k).find? f)∧Hid (Below W0.heap.size W0 wr)) (fun i _=>es.length - (intOf i).toNat)
 case atStart=>exact ⟨0,Nat.zero_le _,rfl,aA (by simp),aA (Below.refl _ _)⟩
 case round =>
  obtain ⟨k,hk,rfl,HFi,HW0⟩:=hrel;have HW:=aA (aB B0.out HW0.out);have hsz:=HW.out.size;by_cases hlt:k<es.length
  ·obtain ⟨b,off,e,x,cc,rfl,hb,he,c0,c1,c2,c3,hr⟩:=(HR.out.below HW.out).at hlt
   obtain ⟨b',off',e',x',cc',hbb,hb',he',d0,d1,d2,d3,hr'⟩:=HR.out.at hlt;simp only[Option.some.injEq,Addr.mk.injEq,and_true]at hbb;obtain ⟨rfl,rfl⟩:=hbb;have:e'=e:=Option.some.inj (he'.symm.trans he);subst this;have d1':=(HW.out.cell (p:=⟨b,off+k * 4+1,none⟩) hb').trans d1;rw[c1]at d1';simp only[Option.some.injEq,Value.slice.injEq,true_and]at d1';obtain ⟨rfl,rfl⟩:=d1';have hsm:=HS.out e' (List.mem_of_getElem? he);have HX:=aA he;have HRc:=aA hr';clear he hr hr' he' d0 d1 d2 d3;have BA:=aA (aC wr (.cells #[.int .i64 e'.size,.slice x e'.chunks.length cc,.string (str e'.path),.int .i64 e'.kind] 91))
   have F4:=aA (cP.new wr (.int .i64 e'.size) (.slice x e'.chunks.length cc) (.string (str e'.path)) (.int .i64 e'.kind) 91);go_wp2_with fail
   refine (HF.out.2 e' x cc _ hsm.1 hsm.2 (HRc.out.below (aB HW.out BA.out)) (aB HW.out BA.out)).mono ?_;rintro r w3 ⟨rfl,hb3⟩;have BB3:=aA (aB HW0.out (aB BA.out hb3));obtain ⟨f0,f1,f2,f3⟩:=F4.out.below hb3;clear hb3 c0 c1 c2 c3;cases hq:f e'
   ·have HN:=aA (zdc HX.out HFi.out hq)
    clear hq;go_wp2_with fail
    go_roundw
    case rel=>exact ⟨k+1,by omega,by go_num,HN,BB3⟩
    case measure=>simp[intOf];omega
   ·have HN:=aA (zye HX.out HFi.out hq)
    clear hq;obtain ⟨⟨t0,t1,t2,t3⟩,tf⟩:=X0.out.below BB3.out;have tf0:=tf 0;have tf1:=tf 1;have tf2:=tf 2;have tf3:=tf 3;clear tf;go_wp2_with fail
    refine bodyPost_ret (v:=.tuple #[.agg #[.int .i64 e'.size,.slice x e'.chunks.length cc,.string (str e'.path),.int .i64 e'.kind],.bool true]) (by simp[results,Tryz.results178,go_sem,t0,t1,t2,t3]) rfl ?_
    exact ⟨.inl ⟨e',x,cc,HN.out,rfl,HRc.out⟩,((((aB B0.out BB3.out).setCell (p:=⟨w.heap.size,0,none⟩) (Nat.le_refl _) _).setCell (p:=⟨w.heap.size,1,none⟩) (Nat.le_refl _) _).setCell (p:=⟨w.heap.size,2,none⟩) (Nat.le_refl _) _).setCell (p:=⟨w.heap.size,3,none⟩) (Nat.le_refl _) _⟩
  ·have HN:=aA (zec (by omega) HFi.out)
   have BA:=aA (aC wr (.cells #[.int .i64 0,.slice none 0 0,.string ⟨#[]⟩,.int .i64 0] 91));obtain ⟨⟨t0,t1,t2,t3⟩,tf⟩:=X0.out.below (aB HW0.out BA.out);have tf0:=tf 0;have tf1:=tf 1;have tf2:=tf 2;have tf3:=tf 3;clear tf;go_wp2_with fail
   refine bodyPost_ret (v:=.tuple #[.agg #[.int .i64 0,.slice none 0 0,.string ⟨#[]⟩,.int .i64 0],.bool false]) (by simp[results,Tryz.results178,go_sem,t0,t1,t2,t3]) rfl ?_
   exact ⟨.inr ⟨HN.out,rfl⟩,((((aB HW.out BA.out).setCell (p:=⟨w.heap.size,0,none⟩) (Nat.le_refl _) _).setCell (p:=⟨w.heap.size,1,none⟩) (Nat.le_refl _) _).setCell (p:=⟨w.heap.size,2,none⟩) (Nat.le_refl _) _).setCell (p:=⟨w.heap.size,3,none⟩) (Nat.le_refl _) _⟩
end Go.Proofs.YtgaeikgoknoamaaGreat
namespace Go.Proofs.YtgaeikgoknoamaaGreat
structure Fit (es:List En):Prop where
 ent:∀ e∈es,aH e=0
 rise:fG es
 home:∀ e∈es,cI es e.path=true
structure jH (es:List En):Prop where
 fit:Fit es
 kind:∀ e∈es,iX e.kind=true
theorem zjh:Fit []:=⟨fun e he=>by simp at he,List.Pairwise.nil,fun e he=>by simp at he⟩
theorem zze:jH []:=⟨zjh,fun e he=>by simp at he⟩
theorem iV {es:List En}:bD es↔Fit es∧es.length≤12:=⟨fun h=>⟨⟨h.ent,h.rise,h.home⟩,h.len⟩,fun h=>⟨h.2,h.1.ent,h.1.rise,h.1.home⟩⟩
theorem mM {es:List En}:zu2 es↔jH es∧es.length≤40:=⟨fun h=>⟨⟨⟨h.ent,h.rise,h.home⟩,h.kind⟩,h.len⟩,fun h=>⟨h.2,h.1.kind,h.1.fit.ent,h.1.fit.rise,h.1.fit.home⟩⟩
theorem Fit.path {es:List En} (h:Fit es) {e:En} (he:e∈es):aG e.path=0:=bO (h.ent e he)
theorem zo0:∀ (p:Bs) (c:UInt8) (r:Bs),Op.bytesLess p (p++c :: r)=true
 | [],c,r=>by simp[Op.bytesLess]
 | a :: p,c,r=>by simp[Op.bytesLess,zo0 p c r]
theorem yJ {q p:Bs} (h:bE q p=true):Op.bytesLess p q=true:=by
 obtain ⟨r,_,rfl⟩:=mG.1 h;exact zo0 p 47 r
theorem vZ {q p:Bs} (h:Op.bytesLess q p=true):bE q p=false:=by
 cases hb:bE q p
 ·rfl
 ·have:=iE (yJ hb);rw[h]at this;cases this
theorem zl6 (es:List En) (f:Bs→Bool) (q:Bs):aL (es.filter fun e=>f e.path) q=if f q then aL es q else none:=by
 unfold aL;rw[List.find?_filter];cases hq:f q
 ·rw[if_neg (by simp),List.find?_eq_none]
  intro x hx;by_cases e:x.path=q
  ·simp[e,hq]
  ·simp[e]
 ·rw[if_pos rfl]
  congr 1
  funext x
  by_cases e:x.path=q
  ·simp[e,hq]
  ·simp[e]
theorem zo9 {bs:List En} {e:En} (hn:∀ x∈bs,x.path≠e.path) (q:Bs):aL (dK bs e) q=if q=e.path then some e else aL bs q:=by
 unfold dK;by_cases h:q=e.path
 ·rw[if_pos h,aL,List.find?_append]
  have h1:List.find? (fun x:En=>decide (x.path=q)) (bs.take (kC bs e.path))=none:=by
   rw[List.find?_eq_none];intro x hx;simpa [h] using hn x (List.mem_of_mem_take hx)
  rw[h1];simp[h]
 ·rw[if_neg h]
  conv=>rhs;rw[←List.take_append_drop (kC bs e.path) bs]
  have h2:decide (e.path=q)=false:=by simpa using fun x:e.path=q=>h x.symm
  simp only[aL,List.find?_append,List.find?_cons,h2]
theorem zv0 {D:List En} {e:En} (hn:∀ x∈D,x.path≠e.path) (q:Bs):aL (D ++ [e]) q=if q=e.path then some e else aL D q:=by
 by_cases h:q=e.path
 ·rw[if_pos h,aL,List.find?_append]
  have h1:List.find? (fun x:En=>decide (x.path=q)) D=none:=by
   rw[List.find?_eq_none];intro x hx;simpa [h] using hn x hx
  rw[h1];simp[h]
 ·rw[if_neg h]
  have h2:decide (e.path=q)=false:=by simpa using fun x:e.path=q=>h x.symm
  simp only[aL,List.find?_append,List.find?_cons,h2,List.find?_nil,Option.or_none]
theorem zj5:∀ {es fs:List En},fG es→fG fs→(∀ q,aL es q=aL fs q)→es=fs
 | [],[],_,_,_=>rfl
 | [],y :: fs,_,h2,h=>by
  have:=h y.path;rw[eJ h2 List.mem_cons_self]at this;cases this
 | x :: es,[],h1,_,h=>by
  have:=h x.path;rw[eJ h1 List.mem_cons_self]at this;cases this
 | x :: es,y :: fs,h1,h2,h=>by
  have p1:=List.pairwise_cons.1 h1;have p2:=List.pairwise_cons.1 h2;have hx:x∈y :: fs:=by
   have:=h x.path;rw[eJ h1 List.mem_cons_self]at this;exact (eR this.symm).1
  have hy:y∈x :: es:=by
   have:=h y.path;rw[eJ h2 List.mem_cons_self]at this;exact (eR this).1
  have hxy:x=y:=by
   rcases List.mem_cons.1 hx with e | hx
   ·exact e
   ·rcases List.mem_cons.1 hy with e | hy
    ·exact e.symm
    ·have a1:=p2.1 x hx
     have a2:=p1.1 y hy;have:=iE a1;rw[a2]at this;cases this
  subst hxy
  congr 1
  refine zj5 p1.2 p2.2 (fun q=>?_)
  by_cases e:x.path=q
  ·rw[lW (fun y hy e2=>kD (p1.1 y hy) (e.trans e2.symm)),lW (fun y hy e2=>kD (p2.1 y hy) (e.trans e2.symm))]
  ·have:=h q
   simpa [aL,e] using this
theorem Fit.bare {es:List En} (h:Fit es) {p:Bs} (hp:aG p=0) (hf:∀ d∈es,d.path=p→cG d.kind=false):∀ x∈es,bE x.path p=false:=by
 have:∀ n,∀ x∈es,x.path.length≤n→bE x.path p=false:=by
  intro n
  induction n with
  | zero =>
   intro x hx hl;cases hb:bE x.path p
   ·rfl
   ·have:=eQ hb;omega
  | succ n ih =>
   intro x hx hl;cases hb:bE x.path p
   ·rfl
   ·exfalso
    obtain ⟨h0,h1⟩:=zr8 (h.path hx) hp hb;rcases dS.1 (h.home x hx) with h2 | ⟨d,hd,hdp,hdk⟩
    ·exact h0 h2
    ·rcases h1 with h1 | h1
     ·rw[hf d hd (hdp.trans h1)]at hdk;cases hdk
     ·have h3:=eQ (dX (h.path hx) h0).2
      have:=ih d hd (by rw[hdp];omega)
      rw[hdp,h1]at this;cases this
 exact fun x hx=>this _ x hx (Nat.le_refl _)
theorem Fit.bare_find {es:List En} (h:Fit es) {p q:Bs} (hp:aG p=0) (hf:∀ d∈es,d.path=p→cG d.kind=false) (hb:bE q p=true):aL es q=none:=by
 refine lW (fun x hx e=>?_)
 have:=h.bare hp hf x hx;rw[e,hb]at this;cases this
theorem Fit.up {es:List En} (h:Fit es) {p:Bs} {x:En} (hp:aG p=0) (hx:x∈es) (hb:bE x.path p=true):∃ d∈es,d.path=p∧cG d.kind=true:=by
 by_cases hd:∃ d∈es,d.path=p∧cG d.kind=true
 ·exact hd
 ·exfalso
  have:=h.bare hp (fun d hd1 hd2=>by
   cases hk:cG d.kind
   ·rfl
   ·exact absurd ⟨d,hd1,hd2,hk⟩ hd) x hx
  rw[hb]at this;cases this
theorem xF {e:En} (h:aH e=0) (hk:e.kind≠1):e.size=0∧e.chunks=[]:=by
 have hp:=bO h;have hf:gD e=true:=by
  cases hf:gD e
  ·rw[fS hp hf]at h;cases h
  ·rfl
 simp only[gD,decide_eq_true_eq]at hf;rcases hf.2 with h1 | ⟨h1,h2⟩
 ·exact absurd h1 hk
 ·exact ⟨h1,List.length_eq_zero_iff.1 h2⟩
theorem kJ {e:En} (h:aH e=0):e.kind=1∨e.kind=2∨e.kind=3∨e.kind=4:=by
 have hp:=bO h;have hf:gD e=true:=by
  cases hf:gD e
  ·rw[fS hp hf]at h;cases h
  ·rfl
 simp only[gD,decide_eq_true_eq]at hf;omega
theorem zy7 {d e:En} (h1:aH d=0) (h2:aH e=0) (hp:d.path=e.path) (hk:d.kind=e.kind) (hn:e.kind≠1):d=e:=by
 obtain ⟨a1,a2⟩:=xF h1 (by rw[hk];exact hn)
 obtain ⟨b1,b2⟩:=xF h2 hn;cases d;cases e;simp_all
def gE (e:En) (k:Int):En:={ e with kind:=k }
theorem zxe {e:En} {k:Int} (h:aH e=0) (hk:e.kind≠1∨(e.size=0∧e.chunks=[])) (h1:1≤k) (h2:k≤4):aH (gE e k)=0:=by
 have hp:=bO h;obtain ⟨a1,a2⟩:e.size=0∧e.chunks=[]:=hk.elim (fun x=>xF h x) id
 have b1:gD (gE e k)=true:=by simp[gD,gE,a1,a2,h1,h2]
 have b2:kF (gE e k)=true:=by simp[kF,gE,a1]
 have b3:kT (gE e k)=true:=by simp[kT,gE,a1,a2]
 have b4:(gE e k).chunks.all fV=true:=by simp[gE,a2]
 have b5:aG (gE e k).path=0:=hp;rw[fB b5 b1 b2 b3,if_pos b4]
theorem kM {t:List En} {p:Bs} {x:En}:x∈bF t p true↔x∈t∧x.path≠p∧bE x.path p=false:=by
 simp only[bF,jG,List.mem_filter,Bool.not_eq_true',Bool.or_eq_false_iff,Bool.true_and,decide_eq_false_iff_not];exact ⟨fun h=>⟨h.1,h.2.2,h.2.1⟩,fun h=>⟨h.1,h.2.2,h.2.1⟩⟩
theorem zu0 (t:List En) (p q:Bs):aL (bF t p true) q=if q=p then none else if bE q p then none else aL t q:=by
 have:=zl6 t (fun y=>!(bE y p||(true&&decide (y=p)))) q
 have e1:bF t p true=t.filter (fun e=>(fun y=>!(bE y p||(true&&decide (y=p)))) e.path):=rfl
 rw[e1,this];by_cases h1:q=p
 ·simp[h1]
 ·cases h2:bE q p <;> simp[h1]
theorem ztd {t:List En} (h:fG t) (p:Bs):fG (bF t p true):=h.sublist List.filter_sublist
theorem zsd {t:List En} (h:Fit t) {p:Bs} (hp:aG p=0):∀ x∈bF t p true,cI (bF t p true) x.path=true:=by
 intro x hx;obtain ⟨hx,hn,hb⟩:=kM.1 hx;rw[dS];rcases dS.1 (h.home x hx) with h0 | ⟨d,hd,hdp,hdk⟩
 ·exact .inl h0
 ·by_cases h0:aF x.path=[]
  ·exact .inl h0
  ·have hbx:=(dX (h.path hx) h0).2
   rw[←hdp]at hbx;refine .inr ⟨d,kM.2 ⟨hd,fun e=>?_,?_⟩,hdp,hdk⟩
   ·rw[e,hb]at hbx;cases hbx
   ·cases h3:bE d.path p
    ·rfl
    ·rw[nE hbx h3]at hb;cases hb
theorem zg5 {t:List En} (h:Fit t) {p:Bs} (hp:aG p=0):Fit (bF t p true) :=
 ⟨fun e he=>h.ent e (kM.1 he).1,ztd h.rise p,zsd h hp⟩
theorem zoc {t:List En} {p:Bs} (hp:aG p=0) (hh:cI t p=true):cI (bF t p true) p=true:=by
 rw[dS]at hh ⊢;rcases hh with h0 | ⟨d,hd,hdp,hdk⟩
 ·exact .inl h0
 ·by_cases h0:aF p=[]
  ·exact .inl h0
  ·have hb:=(dX hp h0).2
   have hl:=eQ hb;refine .inr ⟨d,kM.2 ⟨hd,fun e=>?_,?_⟩,hdp,hdk⟩
   ·rw[←hdp,e]at hl;omega
   ·cases h3:bE d.path p
    ·rfl
    ·have:=eQ h3;rw[hdp]at this;omega
theorem zhc {t:List En} {e:En} (h:Fit t) (he:aH e=0) (hh:cI t e.path=true):Fit (dK (bF t e.path true) e):=by
 have hp:=bO he;have hr:=zg5 h hp;have hn:∀ x∈bF t e.path true,x.path≠e.path:=fun x hx=>(kM.1 hx).2.1
 have hmono:∀ q,cI (bF t e.path true) q=true→cI (dK (bF t e.path true) e) q=true:=by
  intro q hq;rw[dS]at hq ⊢;rcases hq with h0 | ⟨d,hd,hd2⟩
  ·exact .inl h0
  ·exact .inr ⟨d,lX.2 (.inr hd),hd2⟩
 refine ⟨fun x hx=>?_,oV hr.rise hn,fun x hx=>?_⟩
 ·rcases lX.1 hx with rfl | hx
  ·exact he
  ·exact hr.ent x hx
 ·rcases lX.1 hx with rfl | hx
  ·exact hmono _ (zoc hp hh)
  ·exact hmono _ (hr.home x hx)
theorem zn9 (t:List En) (e:En) (q:Bs):aL (dK (bF t e.path true) e) q=if q=e.path then some e else if bE q e.path then none else aL t q:=by
 rw[zo9 (fun x hx=>(kM.1 hx).2.1),zu0]
 by_cases h:q=e.path
 ·simp[h]
 ·simp[h]
def asT (e:En):En:=if e.kind=4 then gE e 2 else e
theorem mU (e:En):(asT e).path=e.path:=by unfold asT;split <;> rfl
theorem zR {e:En} (h:aH e=0):aH (asT e)=0:=by
 unfold asT;split
 ·rename_i h4
  exact zxe h (.inl (by omega)) (by decide) (by decide)
 ·exact h
theorem zqe {e:En} (h:aH e=0) (h3:e.kind≠3):iX (asT e).kind=true:=by
 unfold asT;rcases kJ h with h1 | h1 | h1 | h1
 ·simp[h1,iX]
 ·simp[h1,iX]
 ·exact absurd h1 h3
 ·simp[h1,iX,gE]
theorem vK {e:En} (hk:cG e.kind=true):(asT e).kind=2:=by
 simp only[cG,decide_eq_true_eq]at hk;unfold asT;rcases hk with hk | hk <;> simp[hk,gE]
theorem zwg {d e:En} (h1:aH d=0) (h2:aH e=0) (hp:d.path=e.path) (hd:cG d.kind=true) (he:cG e.kind=true):asT d=asT e:=by
 refine zy7 (zR h1) (zR h2) (by rw[mU,mU,hp]) (by rw[vK hd,vK he]) (by rw[vK he];decide)
def gG (t:List En) (e:En):List En :=
 if e.kind=3 then bF t e.path true else if e.kind=2∧cU t e.path=true then t else dK (bF t e.path true) (asT e)
def cW (t L:List En):List En:=L.foldl gG t
theorem yO {t:List En} {p:Bs}:cU t p=true↔∃ d∈t,d.path=p∧cG d.kind=true:=by
 simp[cU]
theorem zs9 {t:List En} {p:Bs} (h:¬ cU t p=true):∀ d∈t,d.path=p→cG d.kind=false:=by
 intro d hd hp;cases hk:cG d.kind
 ·rfl
 ·exact absurd (yO.2 ⟨d,hd,hp,hk⟩) h
theorem jH.dir {t:List En} (h:jH t) {d:En} (hd:d∈t) (hk:cG d.kind=true):d.kind=2:=by
 have h1:=h.kind d hd;simp only[iX,cG,decide_eq_true_eq]at h1 hk;omega
theorem zp1 (t:List En) (e:En):dK (bF t e.path true) (asT e)=dK (bF t (asT e).path true) (asT e):=by rw[mU]
theorem zcc {t:List En} {e:En} (h:jH t) (he:aH e=0) (q:Bs) :
  aL (gG t e) q=if q=e.path then (if e.kind=3 then none else some (asT e)) else if (!decide (e.kind=2))&&bE q e.path then none else aL t q:=by
 have hp:=bO he;unfold gG;by_cases h3:e.kind=3
 ·rw[if_pos h3,zu0]
  have:(!decide (e.kind=2))=true:=by simp[h3]
  rw[this,Bool.true_and,if_pos h3]
 ·rw[if_neg h3,if_neg h3]
  by_cases hd:e.kind=2∧cU t e.path=true
  ·rw[if_pos hd]
   have e1:(!decide (e.kind=2))=false:=by simp[hd.1]
   rw[e1,Bool.false_and,if_neg Bool.false_ne_true];by_cases hq:q=e.path
   ·rw[if_pos hq]
    obtain ⟨d,hdm,hdp,hdk⟩:=yO.1 hd.2;have h2:=h.dir hdm hdk;have e2:asT e=e:=by unfold asT;rw[if_neg (by omega)]
    rw[hq,←hdp,eJ h.fit.rise hdm,e2,zy7 (h.fit.ent d hdm) he hdp (by rw[h2,hd.1]) (by omega)]
   ·rw[if_neg hq]
  ·rw[if_neg hd,zp1,zn9,mU]
   by_cases hq:q=e.path
   ·rw[if_pos hq,if_pos hq]
   ·rw[if_neg hq,if_neg hq]
    by_cases h2:e.kind=2
    ·have e1:(!decide (e.kind=2))=false:=by simp[h2]
     rw[e1,Bool.false_and,if_neg Bool.false_ne_true];cases hb:bE q e.path
     ·simp
     ·rw[if_pos rfl]
      exact (h.fit.bare_find hp (zs9 (fun x=>hd ⟨h2,x⟩)) hb).symm
    ·have e1:(!decide (e.kind=2))=true:=by simp[h2]
     rw[e1,Bool.true_and]
theorem zgc {t:List En} {e:En} (h:jH t) (he:aH e=0) (hh:cI t e.path=true):jH (gG t e):=by
 have hp:=bO he;unfold gG;by_cases h3:e.kind=3
 ·rw[if_pos h3]
  exact ⟨zg5 h.fit hp,fun x hx=>h.kind x (kM.1 hx).1⟩
 ·rw[if_neg h3]
  by_cases hd:e.kind=2∧cU t e.path=true
  ·rw[if_pos hd];exact h
  ·rw[if_neg hd,zp1]
   refine ⟨zhc h.fit (zR he) (by rw[mU];exact hh),fun x hx=>?_⟩
   rcases lX.1 hx with rfl | hx
   ·exact zqe he h3
   ·exact h.kind x (kM.1 hx).1
theorem za5 (bs:List En) (e:En):(dK bs e).length=bs.length+1:=by
 unfold dK;simp only[List.length_append,List.length_cons,List.length_take,List.length_drop];omega
theorem zzf (t:List En) (e:En):(gG t e).length≤t.length+1:=by
 have:=uU t e.path true;unfold gG;split
 ·omega
 ·split
  ·omega
  ·rw[za5];omega
theorem zf1:∀ (L t:List En),(cW t L).length≤t.length+L.length
 | [],t=>by simp[cW]
 | e :: L,t=>by
  have h1:=zf1 L (gG t e);have h2:=zzf t e;have h3:cW t (e :: L)=cW (gG t e) L:=rfl;rw[h3,List.length_cons];omega
def hid (L:List En) (q:Bs):Bool:=L.any fun e=>(!decide (e.kind=2))&&bE q e.path
theorem zcf (D:List En) (e:En) (q:Bs):hid (D ++ [e]) q=(hid D q||((!decide (e.kind=2))&&bE q e.path)):=by
 simp[hid,List.any_append]
theorem zmh {L:List En} {q:Bs}:hid L q=true↔∃ e∈L,e.kind≠2∧bE q e.path=true:=by
 simp[hid]
def xX (t L:List En) (q:Bs):Option En :=
 match aL L q with
 | some e=>if e.kind=3 then none else some (asT e)
 | none=>if hid L q then none else aL t q
theorem lZ {t L:List En} {q:Bs} {e:En} (h:aL L q=some e):xX t L q=if e.kind=3 then none else some (asT e):=by simp[xX,h]
theorem uZ {t L:List En} {q:Bs} (h:aL L q=none):xX t L q=if hid L q then none else aL t q:=by simp[xX,h]
theorem zmf {L:List En} {k:Nat} {e:En} (hL:Fit L) (he:L[k]?=some e) :
  (∀ x∈L.take k,Op.bytesLess x.path e.path=true)∧(aF e.path=[]∨∃ d∈L.take k,d.path=aF e.path∧cG d.kind=true):=by
 have hem:=List.mem_of_getElem? he;obtain ⟨hk,hke⟩:=List.getElem?_eq_some_iff.1 he;have hs:L=L.take k++e :: L.drop (k+1):=by
  conv=>lhs;rw[←List.take_append_drop k L,List.drop_eq_getElem_cons hk,hke]
 have hr:=hL.rise;unfold fG at hr;rw[hs,List.pairwise_append]at hr;refine ⟨fun x hx=>hr.2.2 x hx e List.mem_cons_self,?_⟩
 rcases dS.1 (hL.home e hem) with h0 | ⟨d,hd,hdp,hdk⟩
 ·exact .inl h0
 ·by_cases h0:aF e.path=[]
  ·exact .inl h0
  ·have hb:=yJ (dX (hL.path hem) h0).2
   rw[←hdp]at hb;rw[hs]at hd;rcases List.mem_append.1 hd with hd | hd
   ·exact .inr ⟨d,hd,hdp,hdk⟩
   ·exfalso
    rcases List.mem_cons.1 hd with rfl | hd
    ·rw[fR]at hb;cases hb
    ·have:=iE ((List.pairwise_cons.1 hr.2.1).1 d hd)
     rw[hb]at this;cases this
theorem vG {L:List En} {k:Nat} {e:En} (he:L[k]?=some e):L.take (k+1)=L.take k ++ [e]:=by
 rw[List.take_add_one,he];rfl
theorem oQ {t L:List En} (ht:jH t) (hL:Fit L):∀ k,k≤L.length→jH (cW t (L.take k))∧∀ q,aL (cW t (L.take k)) q=xX t (L.take k) q
 | 0,_=>by
  refine ⟨by simpa [cW] using ht,fun q=>?_⟩
  simp[cW,xX,aL,hid]
 | k+1,hk=>by
  obtain ⟨e,he⟩:∃ e,L[k]?=some e:=⟨_,List.getElem?_eq_getElem (by omega)⟩
  obtain ⟨ih1,ih2⟩:=oQ ht hL k (by omega)
  obtain ⟨hlt,hho⟩:=zmf hL he;have hee:=hL.ent e (List.mem_of_getElem? he);have hrD:fG (L.take k):=hL.rise.sublist (List.take_sublist _ _);have hne:∀ x∈L.take k,x.path≠e.path:=fun x hx=>kD (hlt x hx)
  have hm:cW t (L.take (k+1))=gG (cW t (L.take k)) e:=by rw[vG he];simp[cW,List.foldl_append]
  rw[hm,vG he];generalize L.take k=D at *;have hhome:cI (cW t D) e.path=true:=by
   rw[dS];rcases hho with h0 | ⟨d,hd,hdp,hdk⟩
   ·exact .inl h0
   ·have h1:=ih2 d.path
    rw[lZ (eJ hrD hd)]at h1;have hd3:d.kind≠3:=by intro e3;rw[e3]at hdk;cases hdk
    rw[if_neg hd3]at h1;exact .inr ⟨asT d,(eR h1).1,by rw[mU,hdp],by rw[vK hdk];rfl⟩
  refine ⟨zgc ih1 hee hhome,fun q=>?_⟩
  rw[zcc ih1 hee,ih2 q];by_cases hq:q=e.path
  ·rw[if_pos hq,lZ (e:=e) (by rw[zv0 hne,if_pos hq])]
  ·rw[if_neg hq]
   have hf:aL (D ++ [e]) q=aL D q:=by rw[zv0 hne,if_neg hq]
   cases hD:aL D q with
   | some x =>
    have hx:=eR hD;have hb:=vZ (hlt x hx.1);rw[hx.2]at hb;rw[hb,Bool.and_false,if_neg (by simp),lZ hD,lZ (hf.trans hD)]
   | none =>
    rw[uZ hD,uZ (hf.trans hD),zcf];cases (!decide (e.kind=2))&&bE q e.path <;> cases hid D q <;> simp
theorem pZ {t L:List En} (ht:jH t) (hL:Fit L):jH (cW t L):=by
 have:=(oQ ht hL L.length (Nat.le_refl _)).1;rwa [List.take_length]at this
theorem zF {t L:List En} (ht:jH t) (hL:Fit L) (q:Bs):aL (cW t L) q=xX t L q:=by
 have:=(oQ ht hL L.length (Nat.le_refl _)).2 q;rwa [List.take_length]at this
def tU (es:List En) (q:Bs):Bool:=(aL es q).any fun e=>!decide (e.kind=2)
def cO (es:List En) (q:Bs):Int :=
 match aL es q with
 | some e=>if e.kind=3∨e.kind=1 then 2 else if e.kind=4 then 1 else 0
 | none=>0
def dO (es:List En) (ups:List Bs):Int:=if ups.any (fun u=>decide (cO es u=2)) then 2 else if ups.any (fun u=>decide (cO es u=1)) then 1 else 0
def eS (es:List En) (p:Bs):Int:=if dO es (bM p)=2∨cO es p=2 then 2 else if dO es (bM p)=1∨cO es p=1 then 1 else 0
theorem qF {es:List En} {q:Bs} (h:aL es q=none):cO es q=0:=by simp[cO,h]
theorem zd5 {es:List En} {q:Bs} {e:En} (h:aL es q=some e) (hk:e.kind=3∨e.kind=1):cO es q=2:=by simp only[cO,h];rw[if_pos hk]
theorem zjg {es:List En} {q:Bs} {e:En} (h:aL es q=some e) (hk:e.kind=4):cO es q=1:=by simp[cO,h,hk]
theorem zig {es:List En} {q:Bs} {e:En} (h:aL es q=some e) (h1:e.kind≠1) (h3:e.kind≠3) (h4:e.kind≠4):cO es q=0:=by simp[cO,h,h1,h3,h4]
theorem zr1 {es:List En} (h:bD es) (q:Bs):tU es q=decide (cO es q≠0):=by
 cases hf:aL es q with
 | none=>simp[tU,cO,hf]
 | some e =>
  have he:=(eR hf).1;rcases kJ (h.ent e he) with hk | hk | hk | hk <;> simp[tU,cO,hf,hk]
theorem sP (es:List En) (q:Bs):cO es q=0∨cO es q=1∨cO es q=2:=by
 unfold cO;split
 ·split
  ·exact Or.inr (Or.inr rfl)
  ·split
   ·exact Or.inr (Or.inl rfl)
   ·exact Or.inl rfl
 ·exact Or.inl rfl
theorem oS (es:List En) (ups:List Bs):dO es ups=0∨dO es ups=1∨dO es ups=2:=by
 unfold dO;split
 ·exact Or.inr (Or.inr rfl)
 ·split
  ·exact Or.inr (Or.inl rfl)
  ·exact Or.inl rfl
theorem zkd {es:List En} {ups:List Bs}:dO es ups≠0↔∃ u∈ups,cO es u≠0:=by
 unfold dO;constructor
 ·intro h
  split at h
  ·rename_i h2
   obtain ⟨u,hu,hr⟩:=List.any_eq_true.1 h2;exact ⟨u,hu,by have:=of_decide_eq_true hr;omega⟩
  ·split at h
   ·rename_i h2
    obtain ⟨u,hu,hr⟩:=List.any_eq_true.1 h2;exact ⟨u,hu,by have:=of_decide_eq_true hr;omega⟩
   ·exact absurd rfl h
 ·rintro ⟨u,hu,hr⟩
  rcases sP es u with h | h | h
  ·exact absurd h hr
  ·split
   ·omega
   ·rw[if_pos (List.any_eq_true.2 ⟨u,hu,decide_eq_true h⟩)];omega
  ·rw[if_pos (List.any_eq_true.2 ⟨u,hu,decide_eq_true h⟩)];omega
theorem tF {es:List En} {ups:List Bs} {k:Nat} {u:Bs} (hu:ups[k]?=some u) (h:cO es u=2):dO es ups=2:=by
 unfold dO;rw[if_pos (List.any_eq_true.2 ⟨u,List.mem_of_getElem? hu,decide_eq_true h⟩)]
theorem rH {α:Type} {l:List α} {k:Nat} {x:α} (h:l[k]?=some x):l.take (k+1)=l.take k ++ [x]:=by rw[List.take_add_one,h];rfl
theorem qA {es:List En} {ups:List Bs} {k:Nat} {u:Bs} (hu:ups[k]?=some u) (h2:dO es (ups.take k)≠2) (h:cO es u≠2):dO es (ups.take (k+1))=if cO es u=1 then 1 else dO es (ups.take k):=by
 rw[rH hu];unfold dO at h2 ⊢;simp only[List.any_append,List.any_cons,List.any_nil,Bool.or_false,h,decide_false];split at h2
 ·exact absurd rfl h2
 ·rename_i h3
  simp only[h3,Bool.false_eq_true,if_false];by_cases h4:cO es u=1
  ·simp[h4]
  ·simp[h4]
theorem pN {es:List En} {ups:List Bs} {k:Nat} {u:Bs} (hu:ups[k]?=some u) (h2:dO es (ups.take k)≠2) (h:cO es u≠2):dO es (ups.take (k+1))≠2:=by
 rw[qA hu h2 h];split
 ·omega
 ·exact h2
end Go.Proofs.YtgaeikgoknoamaaGreat
namespace Go.Proofs.YtgaeikgoknoamaaGreat
open Go.RowKit Go.Maps
attribute [local go_sem ↓] Go.wp_at_zero Go.wp_at_succ
def RdL (w:World) (a:Option Addr) (ls:List (List En)):Prop :=
 ls≠[]→∃ (b off:Nat) (A:Nat→Option Addr) (C:Nat→Nat),a=some ⟨b,off,none⟩∧b<w.heap.size∧∀ i es,ls[i]?=some es→w.cell? ⟨b,off+i,none⟩=some (.slice (A i) es.length (C i))∧RdE w (A i) es
theorem RdL.below {w w':World} {a:Option Addr} {ls:List (List En)} (h:RdL w a ls) (hk:Below w.heap.size w w'):RdL w' a ls:=by
 intro hz;obtain ⟨b,off,A,C,e,hb,hc⟩:=h hz;refine ⟨b,off,A,C,e,Nat.lt_of_lt_of_le hb hk.size,fun i es hx=>?_⟩
 obtain ⟨c0,r⟩:=hc i es hx;exact ⟨(hk.cell (p:=⟨b,off+i,none⟩) hb).trans c0,r.below hk⟩
theorem RdL.at {w:World} {a:Option Addr} {ls:List (List En)} (h:RdL w a ls) {k:Nat} (hk:k<ls.length) :
  ∃ b off es x c,a=some ⟨b,off,none⟩∧b<w.heap.size∧ls[k]?=some es∧w.cell? ⟨b,off+k,none⟩=some (.slice x es.length c)∧RdE w x es:=by
 obtain ⟨b,off,A,C,e,hb,hc⟩:=h (by intro e;simp[e]at hk)
 have hx:ls[k]?=some ls[k]:=List.getElem?_eq_getElem hk;obtain ⟨c0,r⟩:=hc k _ hx;exact ⟨b,off,ls[k],A k,C k,e,hb,hx,c0,r⟩
def gB (ls:List (List En)) (i:Nat) (p:Bs):Option En:=(ls[i]?).bind fun es=>aL es p
theorem gJ {es:List En} {p:Bs} (h:atE es p=none):aL es p=none:=by rw[mV,h];rfl
theorem kK {es:List En} {p:Bs} {k:Nat} (h:atE es p=some k):∃ e,es[k]?=some e∧aL es p=some e:=by
 have hk:=nO h;obtain ⟨e,he⟩:∃ e,es[k]?=some e:=⟨_,List.getElem?_eq_getElem hk⟩;exact ⟨e,he,by rw[mV,h];exact he⟩
theorem zw5 {p:Bs} (hp:aG p=0):∀ u∈bM p,u.length≤p.length:=by
 intro u hu;have hb:eG p u=true:=by simpa [eG] using hu
 rw[kL hp]at hb;have:=eQ (of_decide_eq_true hb).2;omega
theorem sC (a:Option Addr) (c n:Nat) (es:List En) (p:Bs) (w:World) (h:RdE w a es) (hn:n=es.length) (hl:es.length≤1048576) (hp:aG p=0) (hpl:p.length≤1048576) :
  Calls Tryz.prog 283 #[.slice a n c,.string (str p)] w fun r w'=>r=.returned (.int .i64 (dO es (bM p)))∧Below w.heap.size w w':=by
 subst hn;have HR:=aA h;have hsz:=aN p;have h1:1≤(str p).size:=oM (by rw[aV];exact hp)
 have HU:=aA (show bH (bB (str p).data.toList.tail)=bM p from by rw[aV,eL hp])
 have HUl:=aA (pS p);clear h hp;generalize bM p=ups at *;go_enter Tryz.func283,Tryz.ntmps283;go_wp2_with fail
 refine (nH (str p) _ h1 (by omega)).mono ?_
 rintro r w1 ⟨v,rfl,ho,hb1⟩;rw[HU.out]at ho;obtain ⟨av,cv,rfl⟩:=aR ho;have RU:=aA (bR.reads ho);have B1:=aA hb1;clear ho hb1 HU;go_wp2_with fail
 go_loopw [5,7] (fun v i wr=>∃ k:Nat,k≤ups.length∧v=.int .i64 (dO es (ups.take k))∧i=.int .i64 k∧Hid (dO es (ups.take k)≠2)∧Hid (Below w1.heap.size w1 wr)) (fun _ i _=>ups.length - (intOf i).toNat)
 case atStart=>exact ⟨0,Nat.zero_le _,rfl,rfl,aA (by simp[dO]),aA (Below.refl _ _)⟩
 case round =>
  obtain ⟨k,hk,rfl,rfl,HN2,HW⟩:=hrel;have hul:=HUl.out;by_cases hlt:k<ups.length
  ·obtain ⟨b,off,rfl,hb,hc⟩:=(RU.out.below HW.out) (by intro e;simp[e]at hlt)
   have q0:=hc k hlt;have hx:ups[k]?=some (ups.getD k []):=by rw[List.getD_eq_getElem?_getD,List.getElem?_eq_getElem hlt];rfl
   clear hc;generalize ups.getD k []=u at *;have HX:=aA hx;clear hx;have HE:=aA ((HR.out.below B1.out).below HW.out);have HAT:=aA (gU a c es.length es u wr HE.out rfl hl);cases ha:atE es u with
   | none =>
    have HZ:=aA (qA HX.out HN2.out (by rw[qF (gJ ha)];decide))
    have HZ2:=aA (pN HX.out HN2.out (by rw[qF (gJ ha)];decide))
    rw[qF (gJ ha)]at HZ;rw[ha]at HAT;have e1:cD none = -1:=rfl;rw[e1]at HAT;clear ha e1;go_wp2_with fail
    refine HAT.out.mono ?_;rintro r w2 ⟨rfl,rfl⟩;clear q0;go_wp2_with fail
    go_roundw
    case rel=>exact ⟨k+1,by omega,by rw[HZ.out];rfl,by go_num,HZ2,HW⟩
    case measure=>simp[intOf];omega
   | some m =>
    obtain ⟨e,he,hf⟩:=kK ha;have hm:=nO ha;rw[ha]at HAT;have e1:cD (some m)=(m:Int):=rfl;rw[e1]at HAT;obtain ⟨bb,off2,e',x,cc,rfl,hb2,he',c0,c1,c2,c3,hr⟩:=HE.out.at hm;have:e'=e:=Option.some.inj (he'.symm.trans he);subst this;have hk0:¬ (m:Int)<0:=by omega
    have hk2:(0:Int)≤(m:Int):=by omega
    have hk1:(m:Int)<(es.length:Int):=by omega
    clear ha e1 he he' hr c0 c2 c3;by_cases h3:e'.kind=3
    ·have HZ:=aA (tF HX.out (zd5 hf (Or.inl h3)))
     have h3':(e'.kind==3)=true:=by simpa using h3
     clear h3 hf;go_wp2_with fail
     refine HAT.out.mono ?_;rintro r w2 ⟨rfl,rfl⟩;go_wp2_with fail
     go_ret
     exact ⟨by rw[HZ.out];rfl,aB B1.out HW.out⟩
    ·have h3':(e'.kind==3)=false:=by simpa using h3
     by_cases h1k:e'.kind=1
     ·have HZ:=aA (tF HX.out (zd5 hf (Or.inr h1k)))
      have h1':(e'.kind==1)=true:=by simpa using h1k
      clear h3 h1k hf;go_wp2_with fail
      refine HAT.out.mono ?_;rintro r w2 ⟨rfl,rfl⟩;go_wp2_with fail
      go_ret
      exact ⟨by rw[HZ.out];rfl,aB B1.out HW.out⟩
     ·have h1':(e'.kind==1)=false:=by simpa using h1k
      by_cases h4:e'.kind=4
      ·have hrk:=zjg hf h4
       have HZ:=aA (qA HX.out HN2.out (by rw[hrk];decide))
       have HZ2:=aA (pN HX.out HN2.out (by rw[hrk];decide))
       rw[hrk]at HZ;have h4':(e'.kind==4)=true:=by simpa using h4
       clear h3 h1k h4 hf hrk;go_wp2_with fail
       refine HAT.out.mono ?_;rintro r w2 ⟨rfl,rfl⟩;go_wp2_with fail
       go_roundw
       case rel=>exact ⟨k+1,by omega,by rw[HZ.out];rfl,by go_num,HZ2,HW⟩
       case measure=>simp[intOf];omega
      ·have h4':(e'.kind==4)=false:=by simpa using h4
       have hrk:=zig hf h1k h3 h4;have HZ:=aA (qA HX.out HN2.out (by rw[hrk];decide))
       have HZ2:=aA (pN HX.out HN2.out (by rw[hrk];decide))
       rw[hrk]at HZ;clear h3 h1k h4 hf hrk;go_wp2_with fail
       refine HAT.out.mono ?_;rintro r w2 ⟨rfl,rfl⟩;go_wp2_with fail
       go_roundw
       case rel=>exact ⟨k+1,by omega,by rw[HZ.out];rfl,by go_num,HZ2,HW⟩
       case measure=>simp[intOf];omega
  ·have HE:=aA (show ups.take k=ups from List.take_of_length_le (by omega))
   go_wp2_with fail
   go_ret
   exact ⟨by rw[HE.out];rfl,aB B1.out HW.out⟩
def iT:List (List En)→Int
 | []=>0
 | es :: r=>if aQ es=0 then iT r else aQ es
def cL (ls:List (List En)):Int:=if 4<ls.length then 2 else iT ls
theorem wR:∀ {ls:List (List En)},iT ls=0↔∀ es∈ls,bD es
 | []=>by simp[iT]
 | es :: r=>by
  have ih:=wR (ls:=r);unfold iT;by_cases h:aQ es=0
  ·rw[if_pos h,ih]
   simp[dM.1 h]
  ·rw[if_neg h]
   constructor
   ·intro h2;exact absurd h2 h
   ·intro h2;exact absurd (dM.2 (h2 es (by simp))) h
theorem fM {ls:List (List En)}:cL ls=0↔ls.length≤4∧∀ es∈ls,bD es:=by
 unfold cL;by_cases h:4<ls.length
 ·rw[if_pos h];constructor
  ·intro h2;cases h2
  ·intro h2;omega
 ·rw[if_neg h,wR];constructor
  ·intro h2;exact ⟨by omega,h2⟩
  ·intro h2;exact h2.2
theorem zE {ls:List (List En)} {k:Nat} {es:List En} (he:ls[k]?=some es) (hf:aQ es≠0):iT (ls.drop k)=aQ es:=by
 obtain ⟨hk,hx⟩:=List.getElem?_eq_some_iff.1 he;rw[List.drop_eq_getElem_cons hk,hx];simp[iT,hf]
theorem wQ {ls:List (List En)} {k:Nat} {es:List En} (he:ls[k]?=some es) (hf:aQ es=0):iT (ls.drop k)=iT (ls.drop (k+1)):=by
 obtain ⟨hk,hx⟩:=List.getElem?_eq_some_iff.1 he;rw[List.drop_eq_getElem_cons hk,hx];simp[iT,hf]
def mE (ls:List (List En)):Prop:=∀ es∈ls,es.length≤1048576∧bJ es
theorem tI (a:Option Addr) (c n:Nat) (ls:List (List En)) (w:World) (h:RdL w a ls) (hn:n=ls.length) (hl:ls.length≤1048576) (hs:mE ls) :
  Calls Tryz.prog 47 #[.slice a n c] w fun r w'=>r=.returned (.int .i64 (cL ls))∧Below w.heap.size w w':=by
 subst hn;have HR:=aA h;have HS:=aA hs;clear h hs;by_cases h4:4<ls.length
 ·have HZ:=aA (show cL ls=2 by simp[cL,h4])
  have h4':(4:Int)<(ls.length:Int):=by omega
  go_enter Tryz.func47,Tryz.ntmps47;go_wp2_with fail
  go_ret
  exact ⟨by rw[HZ.out];rfl,Below.refl _ _⟩
 ·have HZ:=aA (show cL ls=iT (ls.drop 0) by simp[cL,h4])
  have h4':¬ (4:Int)<(ls.length:Int):=by omega
  clear h4;generalize cL ls=V at *;go_enter Tryz.func47,Tryz.ntmps47;go_wp2_with fail
  go_loopw [11] (fun i wr=>∃ k:Nat,k≤ls.length∧i=.int .i64 k∧Hid (V=iT (ls.drop k))∧Hid (Below w.heap.size w wr)) (fun i _=>ls.length - (intOf i).toNat)
  case atStart=>exact ⟨0,Nat.zero_le _,rfl,HZ,aA (Below.refl _ _)⟩
  case round =>
   obtain ⟨k,hk,rfl,HV,HW⟩:=hrel;by_cases hlt:k<ls.length
   ·obtain ⟨b,off,es,x,cc,rfl,hb,he,c0,hr⟩:=(HR.out.below HW.out).at hlt
    obtain ⟨hel,hsm⟩:=HS.out es (List.mem_of_getElem? he);have HLF:=aA (gK x cc es.length es wr hr rfl (by omega) hsm)
    have HX:=aA he;clear he hr hsm;by_cases hf:aQ es=0
    ·have HN:=aA (HV.out.trans (wQ HX.out hf))
     rw[hf]at HLF;clear hf;go_wp2_with fail
     refine HLF.out.mono ?_;rintro r w1 ⟨rfl,hb1⟩;have B1:=aA (aB HW.out hb1);clear hb1 c0;go_wp2_with fail
     go_roundw
     case rel=>exact ⟨k+1,by omega,by go_num,HN,B1⟩
     case measure=>simp[intOf];omega
    ·have HN:=aA (HV.out.trans (zE HX.out hf))
     generalize aQ es=F at *;have hf2:(F != 0)=true:=by simp;exact hf
     clear hf;go_wp2_with fail
     refine HLF.out.mono ?_;rintro r w1 ⟨rfl,hb1⟩;have B1:=aA (aB HW.out hb1);clear hb1 c0;go_wp2_with fail
     go_ret
     exact ⟨by rw[HN.out];rfl,B1.out⟩
   ·have HN:=aA (show V=0 by rw[HV.out,List.drop_eq_nil_of_le (by omega)];rfl)
    go_wp2_with fail
    go_ret
    exact ⟨by rw[HN.out];rfl,HW.out⟩
def fE (S:Nat→Bs→Option En) (p:Bs):Nat→Option Nat
 | 0=>none
 | n+1=>match S n p with
  | some e=>if e.kind=3 then none else some n
  | none=>if (bM p).any (fun q=>(S n q).any fun e=>!decide (e.kind=2)) then none else fE S p n
theorem sW {S:Nat→Bs→Option En} {p:Bs} {n:Nat} {e:En} (h:S n p=some e):fE S p (n+1)=if e.kind=3 then none else some n:=by simp[fE,h]
theorem xY {S:Nat→Bs→Option En} {p:Bs} {n:Nat} (h:S n p=none) (hh:((bM p).any fun q=>(S n q).any fun e=>!decide (e.kind=2))=true):fE S p (n+1)=none:=by simp[fE,h,hh]
theorem qI {S:Nat→Bs→Option En} {p:Bs} {n:Nat} (h:S n p=none) (hh:((bM p).any fun q=>(S n q).any fun e=>!decide (e.kind=2))=false):fE S p (n+1)=fE S p n:=by simp[fE,h,hh]
end Go.Proofs.YtgaeikgoknoamaaGreat
