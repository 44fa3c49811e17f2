/-
  Texts put together: EntI TreL TreA SeeA MerL OvrL.
-/
import Derived.Test.YtolnlfnndnpiiaaGreatKSnaps5
import Derived.Test.YtolnlfnndnpiiaaGreatKSnaps7
import Derived.Test.YtolnlfnndnpiiaaGreatKSnaps6
import Derived.Maps.OwnSet
import Derived.DeepKeys5
set_option linter.unusedVariables false
set_option maxHeartbeats 3200000
set_option maxRecDepth 100000
namespace Go.Proofs.YtolnlfnndnpiiaaGreat
open Go.RowKit Go.Maps
theorem aD.four (w:World) (b:Nat) (u0 u1 u2 u3:Value):aD (fun x=>x=b) w ((((w.setCell ⟨b,0,none⟩ u0).setCell ⟨b,1,none⟩ u1).setCell ⟨b,2,none⟩ u2).setCell ⟨b,3,none⟩ u3) :=
 aD.setCell (S:=fun x=>x=b) (p:=⟨b,3,none⟩) (aD.setCell (S:=fun x=>x=b) (p:=⟨b,2,none⟩) (aD.two w b 0 1 u0 u1) (fun _=>rfl) u2) (fun _=>rfl) u3
theorem jZ (zs:List Int):(jY zs (cut zs).length).length=(cut zs).length:=by simp[jY]
def cV (p:Bs) (zs:List Int):En:=⟨p,1,zs.length,jY zs (cut zs).length⟩
theorem uS (p:Bs) (a:Option Addr) (cap:Nat) (zs:List Int) (w:World) (h:aP .u8 w a zs) (hu:U8 zs) (hcap:zs.length≤cap) (hl:zs.length≤24) :
  Calls Tryz.prog 171 #[.string (str p),.slice a zs.length cap] w fun r w'=>∃ av cv,r=.returned (.agg #[.string (str p),.int .i64 1,.int .i64 zs.length,.slice av (cut zs).length cv])∧w'.ownsRow w.heap.size 2 1 (.slice av (cut zs).length cv) (cut zs).length ((jY zs (cut zs).length).map (Value.int .i64))∧Below w.heap.size w w':=by
 have HD:=aA (fun u hb=>zv5 a cap zs u (h.below hb) hu hcap hl)
 clear h hu;go_enter Tryz.func171,Tryz.ntmps171;have B0:=aA (aC w (.cells #[.string ⟨#[]⟩,.int .i64 0,.int .i64 0,.slice none 0 0] 50));have F0:=aA (cI.new w (.string ⟨#[]⟩) (.int .i64 0) (.int .i64 0) (.slice none 0 0) 50);have Z0:=aA (show ∀ i,i<4→(w.alloc (.cells #[.string ⟨#[]⟩,.int .i64 0,.int .i64 0,.slice none 0 0] 50)).frozen? ⟨w.heap.size,i,none⟩=false from fun i hi=>by simp)
 go_wp2_with fail
 refine (HD.out _ B0.out).mono ?_;rintro r w1 ⟨v,rfl,hG,hb1⟩;obtain ⟨av,cv,rfl⟩:=bH hG;have hlt0:=F0.out.lt;have B1:=aA (aB B0.out hb1);obtain ⟨f0,f1,f2,f3⟩:=F0.out.below hb1;have z0:=(hb1.frozen (p:=⟨w.heap.size,0,none⟩) hlt0).trans (Z0.out 0 (by omega))
 have z1:=(hb1.frozen (p:=⟨w.heap.size,1,none⟩) hlt0).trans (Z0.out 1 (by omega))
 have z2:=(hb1.frozen (p:=⟨w.heap.size,2,none⟩) hlt0).trans (Z0.out 2 (by omega))
 have z3:=(hb1.frozen (p:=⟨w.heap.size,3,none⟩) hlt0).trans (Z0.out 3 (by omega))
 have GG:=aA hG;clear hG hb1 B0 F0 Z0;go_wp2_with fail
 refine bodyPost_ret (v:=.agg #[.string (str p),.int .i64 1,.int .i64 zs.length,.slice av (cut zs).length cv]) (by simp[results,Tryz.results171,go_sem,f0,f1,f2,f3]) rfl ⟨av,cv,rfl,?_,(((B1.out.setCell (Nat.le_refl _) _).setCell (Nat.le_refl _) _).setCell (Nat.le_refl _) _).setCell (Nat.le_refl _) _⟩
 exact bF (aL (S:=fun b=>b=w.heap.size) GG.out (aD.four _ _ _ _ _ _) (fun b hb e=>by have:=(GG.out.lt b hb).1;omega)) (by omega)
end Go.Proofs.YtolnlfnndnpiiaaGreat
namespace Go.Proofs.YtolnlfnndnpiiaaGreat
def jH (k:Int):Bool:=decide (k=1∨k=2)
def dX (es:List En):Int:=if 40<es.length then 2 else if es.all (fun e=>jH e.kind) then cP (cR es) none es else 1
structure zh6 (es:List En):Prop where
 len:es.length≤40
 kind:∀ e∈es,jH e.kind=true
 ent:∀ e∈es,aH e=0
 rise:dY es
 home:∀ e∈es,cR es e.path=true
theorem zz8 {es:List En}:dX es=0↔zh6 es:=by
 unfold dX;by_cases h:40<es.length
 ·rw[if_pos h]
  exact ⟨fun x=>(by cases x),fun x=>(by have:=x.len;omega)⟩
 ·rw[if_neg h]
  cases hk:es.all (fun e=>jH e.kind)
  ·refine ⟨fun x=>(by simp at x),fun x=>?_⟩
   exfalso
   have:=List.all_eq_true.2 x.kind;rw[this]at hk;cases hk
  ·rw[if_pos rfl,mW]
   exact ⟨fun ⟨a,b,_⟩=>⟨by omega,List.all_eq_true.1 hk,fun e he=>(a e he).1,b,fun e he=>(a e he).2⟩,fun x=>⟨fun e he=>⟨x.ent e he,x.home e he⟩,x.rise,fun q hq=>by cases hq⟩⟩
def nO (es:List En):Prop:=cP (cR es) none es=cP (eU es) none es
theorem nO.good {es:List En} (h:nO es):zg6 es:=by
 by_cases hl:12<es.length
 ·exact zug hl
 ·exact zmm hl h
theorem uH {es:List En} (h:dY es):nO es:=oZ (fun x hx _=>nB h x.path)
theorem zsd {es:List En} {e:En} (hr:dY es) (hh:∀ x∈es,cR es x.path=true):nO (es ++ [e]):=by
 refine oZ (fun x hx hxe=>?_)
 rcases List.mem_append.1 hx with hx | hx
 ·have h1:=hh x hx
  have h2:cR (es ++ [e]) x.path=true:=by
   rw[eM]at h1 ⊢;rcases h1 with h1 | ⟨d,hd,h1⟩
   ·exact .inl h1
   ·exact .inr ⟨d,List.mem_append_left _ hd,h1⟩
  rw[h2]
  symm
  rw[nB hr]at h1;unfold eU at h1 ⊢;by_cases h0:aE x.path=[]
  ·simp[h0]
  ·rw[if_neg h0]at h1 ⊢
   cases hf:aG es (aE x.path) with
   | none=>rw[hf]at h1;simp at h1
   | some d =>
    rw[hf]at h1;have:aG (es ++ [e]) (aE x.path)=some d:=by
     rw[aG,List.find?_append];have hf':List.find? (fun y:En=>decide (y.path=aE x.path)) es=some d:=hf
     rw[hf'];rfl
    rw[this];exact h1
 ·simp only[List.mem_singleton]at hx
  subst hx;by_cases h0:aE x.path=[]
  ·simp[cR,eU,h0]
  ·have hne:=xI (bM hxe) h0
   have e1:cR (es ++ [x]) x.path=cR es x.path:=by
    simp[cR,h0,dL,hne.symm]
   have e2:eU (es ++ [x]) x.path=eU es x.path:=by
    have:aG (es ++ [x]) (aE x.path)=aG es (aE x.path):=by
     simp[aG,List.find?_append,hne.symm]
    simp only[eU,this]
   rw[e1,e2,nB hr]
theorem ztg {r0 e:En} {tl:List En} (h:aU (r0 :: tl)):nO (e :: tl):=by
 have hrt:dY tl:=(List.pairwise_cons.1 h.rise).2;by_cases hr:dY (e :: tl)
 ·exact uH hr
 ·have hb:dT (cR (e :: tl)) none e=dT (eU (e :: tl)) none e:=by
   unfold dT;by_cases he:aH e=0
   ·have:cR (e :: tl) e.path=eU (e :: tl) e.path:=by
     by_cases h0:aE e.path=[]
     ·simp[cR,eU,h0]
     ·have hne:=xI (bM he) h0
      have e1:cR (e :: tl) e.path=cR tl e.path:=by simp[cR,h0,dL,hne.symm]
      have e2:eU (e :: tl) e.path=eU tl e.path:=by
       have:aG (e :: tl) (aE e.path)=aG tl (aE e.path):=by simp[aG,hne.symm]
       simp only[eU,this]
      rw[e1,e2,nB hrt]
    rw[this]
   ·simp[he]
  unfold nO;simp only[cP];rw[hb];by_cases hz:dT (eU (e :: tl)) none e=0
  ·rw[if_pos hz,if_pos hz]
   cases tl with
   | nil=>rfl
   | cons t1 r =>
    have ht:aH t1=0:=h.ent t1 (by simp)
    have hlow:iP (some e) t1=true:=by
     cases hlo:iP (some e) t1
     ·exfalso
      refine hr (List.pairwise_cons.2 ⟨fun y hy=>?_,hrt⟩)
      have h1:=zn4 hlo;rcases List.mem_cons.1 hy with rfl | hy
      ·exact h1
      ·exact gI _ _ _ h1 ((List.pairwise_cons.1 hrt).1 y hy)
     ·rfl
    simp only[cP];have b1:∀ H:Bs→Bool,dT H (some e) t1=1:=fun H=>by simp[dT,ht,hlow]
    rw[b1,b1];rfl
  ·rw[if_neg hz,if_neg hz]
theorem zma {e:En} {tl:List En} (h:aH e≠0):nO (e :: tl):=by
 have b1:∀ H:Bs→Bool,dT H none e=aH e:=fun H=>by simp[dT,h]
 unfold nO;simp only[cP,b1,if_neg h]
theorem tH {ns:List Bs} (h:1<ns.length):(bR ns).getLastD []=cA (ns.take (ns.length - 1)):=by
 obtain ⟨m,hm⟩:∃ m,ns.length - 1=m+1:=⟨ns.length - 2,by omega⟩
 unfold bR;rw[hm,List.range_succ,List.map_append,List.getLastD_eq_getLast?];simp
theorem ztc {x p:Bs} (hx:aF x=0) (hp:aF p=0) (h:bD x p=true):aE x≠[]∧(aE x=p∨bD (aE x) p=true):=by
 have hm:=(kO hx).2 ⟨hp,h⟩;have hne:bR (aX x.tail)≠[]:=fun e=>by rw[e]at hm;simp at hm
 have h0:aE x≠[]:=fun e=>hne (kC.1 e)
 refine ⟨h0,?_⟩;obtain ⟨ns,hN,hxe,hc,-⟩:=fV hx;rw[hc]at hm hne;obtain ⟨k,hk0,hk1,hpk⟩:=qQ.1 hm;have hpar:aE x=cA (ns.take (ns.length - 1)):=by unfold aE;rw[hc];exact tH (by omega)
 by_cases hk:k=ns.length - 1
 ·exact .inl (by rw[hpar,hpk,hk])
 ·refine .inr ?_
  have hT:nP (ns.take (ns.length - 1)):=qS hN (by omega)
  have hf:=pV hT;rw[hpar];refine ((kO hf).1 ?_).2;rw[zzf hT,qQ];refine ⟨k,hk0,by rw[List.length_take];omega,?_⟩
  rw[hpk,List.take_take,Nat.min_eq_left (by omega)]
def fP (es:List En) (p:Bs):List En:=es.filter fun x=>!decide (x.path=p)
theorem zjk {es:List En} {p:Bs} {x:En}:x∈fP es p↔x∈es∧x.path≠p:=by simp[fP]
theorem znk (es:List En) (p:Bs):(fP es p).length≤es.length:=List.length_filter_le _ _
def dU (es:List En) (p:Bs):Int :=
 if aE p=[] then 0 else
  match aG es (aE p) with
  | none=>4
  | some e=>if e.kind=1 then 9 else 0
theorem sC {es:List En} {p:Bs} (h:aE p=[]):dU es p=0:=by simp[dU,h]
theorem uK {es:List En} {p:Bs} (h:aE p≠[]) (hf:aG es (aE p)=none):dU es p=4:=by simp[dU,h,hf]
def wD (p:Bs):En:=⟨p,2,0,[]⟩
def cL (es:List En) (p:Bs):List En:=es.filter fun x=>decide (aE x.path=p)
theorem zeh {es:List En} {p:Bs}:cL es p=[]↔∀ x∈es,aE x.path≠p:=by
 unfold cL;rw[List.filter_eq_nil_iff];simp
def zo3 (es:List En) (p:Bs):Int :=
 match aG es p with
 | none=>4
 | some _=>if cL es p=[] then 0 else 1
theorem uG {p:Bs} (hp:aF p=0):aH (wD p)=0:=by
 rw[fX (e:=wD p) hp (by simp[iJ,wD]) (by simp[lM,wD]) (by simp[mF,wD])]
 rfl
end Go.Proofs.YtolnlfnndnpiiaaGreat
namespace Go.Proofs.YtolnlfnndnpiiaaGreat
open Go.RowKit Go.Maps
attribute [local go_sem ↓] Go.wp_at_zero Go.wp_at_succ
theorem zo2 (a:Option Addr) (c n:Nat) (es:List En) (w:World) (h:RdE w a es) (hn:n=es.length) (hl:es.length≤1048576) :
  Calls Tryz.prog 88 #[.slice a n c] w fun r w'=>∃ av cv,r=.returned (.slice av n cv)∧LI w w' (.slice av n cv) es∧Below w.heap.size w w':=by
 subst hn;obtain ⟨i1,ki,kz0,kz1,kz2⟩:=info_parts Tryz.infoIt;have HR:=aA h;clear h;go_enter Tryz.func88,Tryz.ntmps88;go_wp2_with fail
 go_loopw [3,8] (fun v i wr=>∃ k:Nat,k≤es.length∧i=.int .i64 k∧Hid (LI w wr v (es.take k))∧Hid (Below w.heap.size w wr)) (fun _ i _=>es.length - (intOf i).toNat)
 case atStart=>exact ⟨0,Nat.zero_le _,rfl,aA (LI.nil _ _),aA (Below.refl _ _)⟩
 case round =>
  obtain ⟨k,hk,rfl,HL,HW⟩:=hrel;have hsz:=HW.out.size;obtain ⟨lv,lc,hv⟩:=HL.out.shape;rw[gP hk]at hv;subst hv;by_cases hlt:k<es.length
  ·obtain ⟨b,off,e,x,cc,rfl,hb,he,c0,c1,c2,c3,hr⟩:=(HR.out.below HW.out).at hlt
   obtain ⟨b',off',e',x',cc',hbb,hb',he',d0,d1,d2,d3,hr'⟩:=HR.out.at hlt;simp only[Option.some.injEq,Addr.mk.injEq,and_true]at hbb;obtain ⟨rfl,rfl⟩:=hbb;have:e'=e:=Option.some.inj (he'.symm.trans he);subst this;have d3':=(HW.out.cell (p:=⟨b,off+k * 4+3,none⟩) hb').trans d3;rw[c3]at d3';simp only[Option.some.injEq,Value.slice.injEq,true_and]at d3';obtain ⟨rfl,rfl⟩:=d3';have HX:=aA he;have HRc:=aA hr';clear he hr hr' he' d0 d1 d2 d3;have BA:=aA (aC wr (.cells #[.string (str e'.path),.int .i64 e'.kind,.int .i64 e'.size,.slice x e'.chunks.length cc] 50));go_wp2_with fail
   refine (fY _ _ _ _ _ _ _).mono ?_;rintro r w3 ⟨rfl,hb3⟩;have BB5:=aA (aB BA.out hb3);clear hb3 c0 c1 c2 c3 BA;obtain ⟨rs,g1,g2,g3⟩:=HL.out;rw[gP hk]at g2;have G1:=aA g1;have G2:=aA (aI g2 BB5.out);have G3:=aA g3;have HK:=aA (gP hk);clear g1 g2 g3;have hm1:k+1≤maxLen:=by unfold maxLen;omega
   have hm1':(k+1) * 56≤140737488355328:=by omega
   have hsz5:=BB5.out.size;go_wp2_with (at_builtin;refine dB rfl (.tmp 12) (.tmp 15) 116 rfl w.heap.size 88 i1 (.agg #[.int .i64 0,.slice none 0 0,.string ⟨#[]⟩,.int .i64 0]) 4 56 Tryz.underlying116 ki kz0 kz1 kz2 rfl (by decide) _ _ _ rfl G2.out _ rfl rfl rfl (by intro u hu;simp at hu;rcases hu with rfl | rfl | rfl | rfl <;> rfl) hm1 hm1' (by omega) ?_;intro av6 cv6 w6 hown6 hk6;have O6:=aA hown6;have K6:=aA hk6;clear hown6 hk6)
   go_roundw
   case rel =>
    refine ⟨k+1,by omega,by go_num,aA ?_,aA ?_⟩
    ·rw[bY HX.out]
     exact LI.push (e:=e') (a:=x) (c:=cc) G1.out HK.out.symm G3.out HRc.out O6.out
    ·exact (aB HW.out BB5.out).trans (K6.out.below (by omega) (fun q hq hS=>by have:=(G2.out.lt q hS).1;omega))
   case measure=>simp[intOf];omega
  ·have hke:k=es.length:=by omega
   have HE:=aA (show es.take k=es from List.take_of_length_le (by omega))
   have HL2:Hid (LI w wr (.slice lv k lc) es):=by have:=HL.out;rw[HE.out]at this;exact this
   clear HL HE;subst hke;go_wp2_with fail
   go_ret
   exact ⟨lv,lc,rfl,HL2.out,HW.out⟩
def mY (W0:World) (fn:FuncId) (cap:Array Value) (f:En→Bool):Prop :=
 (∀ args w,(callFunc fn args).run Tryz.prog w=.ok (.enter fn args) w)∧∀ (e:En) (a:Option Addr) (c:Nat) (w:World),e.path.length≤1048576→e.chunks.length≤1048576→aP .i64 w a e.chunks→Below W0.heap.size W0 w →
  Calls Tryz.prog fn (#[.agg #[.int .i64 e.size,.slice a e.chunks.length c,.string (str e.path),.int .i64 e.kind]]++cap) w fun r w'=>r=.returned (.bool (f e))∧Below w.heap.size w w'
theorem mY.next {W0 W:World} {fn:FuncId} {cap:Array Value} {f:En→Bool} (h:mY W0 fn cap f) (hb:Below W0.heap.size W0 W):mY W fn cap f :=
 ⟨h.1,fun e a c w he hc hr hw=>h.2 e a c w he hc hr (aB hb hw)⟩
theorem zog {es:List En} {f:En→Bool} {k:Nat} {e:En} (he:es[k]?=some e) (h:es.find? f=(es.drop k).find? f) (hf:f e=false):es.find? f=(es.drop (k+1)).find? f:=by
 rw[h,eG he,List.find?_cons,hf]
theorem znj {es:List En} {f:En→Bool} {k:Nat} {e:En} (he:es[k]?=some e) (h:es.find? f=(es.drop k).find? f) (hf:f e=true):es.find? f=some e:=by
 rw[h,eG he,List.find?_cons,hf]
theorem zpg {es:List En} {f:En→Bool} {k:Nat} (hk:es.length≤k) (h:es.find? f=(es.drop k).find? f):es.find? f=none:=by
 rw[h,List.drop_eq_nil_of_le hk];rfl
def zin (o:Option En) (w:World) (r:Ending):Prop :=
 (∃ e x cc,o=some e∧r=.returned (.tuple #[.agg #[.int .i64 e.size,.slice x e.chunks.length cc,.string (str e.path),.int .i64 e.kind],.bool true])∧aP .i64 w x e.chunks) ∨
  (o=none∧r=.returned (.tuple #[.agg #[.int .i64 0,.slice none 0 0,.string ⟨#[]⟩,.int .i64 0],.bool false]))
theorem zqg (a:Option Addr) (c n:Nat) (es:List En) (fn:FuncId) (cap:Array Value) (f:En→Bool) (w:World) (h:RdI w a es) (hn:n=es.length) (hl:es.length≤1048576) (hs:aV es) (hf:mY w fn cap f) :
  Calls Tryz.prog 179 #[.slice a n c,.func (.func fn) #[] cap] w fun r w'=>zin (es.find? f) w r∧Below w.heap.size w w':=by
 subst hn;have eg:=hf.1;have HF:=aA hf;have HR:=aA h;have HS:=aA hs;have X0:=aA (mI.new w (.int .i64 0) (.slice none 0 0) (.string ⟨#[]⟩) (.int .i64 0) 88);have B0:=aA (aC w (.cells #[.int .i64 0,.slice none 0 0,.string ⟨#[]⟩,.int .i64 0] 88));clear h hf hs;go_enter Tryz.func179,Tryz.ntmps179;go_wp2_with fail
 generalize w.alloc (.cells #[.int .i64 0,.slice none 0 0,.string ⟨#[]⟩,.int .i64 0] 88)=W0 at *;go_loopw [11] (fun i wr=>∃ k:Nat,k≤es.length∧i=.int .i64 k∧Hid (es.find? f=(es.drop k).find? f)∧Hid (Below W0.heap.size W0 wr)) (fun i _=>es.length - (intOf i).toNat)
 case atStart=>exact ⟨0,Nat.zero_le _,rfl,aA (by simp),aA (Below.refl _ _)⟩
 case round =>
  obtain ⟨k,hk,rfl,HFi,HW0⟩:=hrel;have HW:=aA (aB B0.out HW0.out);have hsz:=HW.out.size;by_cases hlt:k<es.length
  ·obtain ⟨b,off,e,x,cc,rfl,hb,he,c0,c1,c2,c3,hr⟩:=(HR.out.below HW.out).at hlt
   obtain ⟨b',off',e',x',cc',hbb,hb',he',d0,d1,d2,d3,hr'⟩:=HR.out.at hlt;simp only[Option.some.injEq,Addr.mk.injEq,and_true]at hbb;obtain ⟨rfl,rfl⟩:=hbb;have:e'=e:=Option.some.inj (he'.symm.trans he);subst this;have d1':=(HW.out.cell (p:=⟨b,off+k * 4+1,none⟩) hb').trans d1;rw[c1]at d1';simp only[Option.some.injEq,Value.slice.injEq,true_and]at d1';obtain ⟨rfl,rfl⟩:=d1';have hsm:=HS.out e' (List.mem_of_getElem? he);have HX:=aA he;have HRc:=aA hr';clear he hr hr' he' d0 d1 d2 d3;have BA:=aA (aC wr (.cells #[.int .i64 e'.size,.slice x e'.chunks.length cc,.string (str e'.path),.int .i64 e'.kind] 88))
   have F4:=aA (cI.new wr (.int .i64 e'.size) (.slice x e'.chunks.length cc) (.string (str e'.path)) (.int .i64 e'.kind) 88);go_wp2_with fail
   refine (HF.out.2 e' x cc _ hsm.1 hsm.2 (HRc.out.below (aB HW.out BA.out)) (aB HW.out BA.out)).mono ?_;rintro r w3 ⟨rfl,hb3⟩;have BB3:=aA (aB HW0.out (aB BA.out hb3));obtain ⟨f0,f1,f2,f3⟩:=F4.out.below hb3;clear hb3 c0 c1 c2 c3;cases hq:f e'
   ·have HN:=aA (zog HX.out HFi.out hq)
    clear hq;go_wp2_with fail
    go_roundw
    case rel=>exact ⟨k+1,by omega,by go_num,HN,BB3⟩
    case measure=>simp[intOf];omega
   ·have HN:=aA (znj HX.out HFi.out hq)
    clear hq;obtain ⟨⟨t0,t1,t2,t3⟩,tf⟩:=X0.out.below BB3.out;have tf0:=tf 0;have tf1:=tf 1;have tf2:=tf 2;have tf3:=tf 3;clear tf;go_wp2_with fail
    refine bodyPost_ret (v:=.tuple #[.agg #[.int .i64 e'.size,.slice x e'.chunks.length cc,.string (str e'.path),.int .i64 e'.kind],.bool true]) (by simp[results,Tryz.results179,go_sem,t0,t1,t2,t3]) rfl ?_
    exact ⟨.inl ⟨e',x,cc,HN.out,rfl,HRc.out⟩,((((aB B0.out BB3.out).setCell (p:=⟨w.heap.size,0,none⟩) (Nat.le_refl _) _).setCell (p:=⟨w.heap.size,1,none⟩) (Nat.le_refl _) _).setCell (p:=⟨w.heap.size,2,none⟩) (Nat.le_refl _) _).setCell (p:=⟨w.heap.size,3,none⟩) (Nat.le_refl _) _⟩
  ·have HN:=aA (zpg (by omega) HFi.out)
   have BA:=aA (aC wr (.cells #[.int .i64 0,.slice none 0 0,.string ⟨#[]⟩,.int .i64 0] 88));obtain ⟨⟨t0,t1,t2,t3⟩,tf⟩:=X0.out.below (aB HW0.out BA.out);have tf0:=tf 0;have tf1:=tf 1;have tf2:=tf 2;have tf3:=tf 3;clear tf;go_wp2_with fail
   refine bodyPost_ret (v:=.tuple #[.agg #[.int .i64 0,.slice none 0 0,.string ⟨#[]⟩,.int .i64 0],.bool false]) (by simp[results,Tryz.results179,go_sem,t0,t1,t2,t3]) rfl ?_
   exact ⟨.inr ⟨HN.out,rfl⟩,((((aB HW.out BA.out).setCell (p:=⟨w.heap.size,0,none⟩) (Nat.le_refl _) _).setCell (p:=⟨w.heap.size,1,none⟩) (Nat.le_refl _) _).setCell (p:=⟨w.heap.size,2,none⟩) (Nat.le_refl _) _).setCell (p:=⟨w.heap.size,3,none⟩) (Nat.le_refl _) _⟩
theorem zze:laidOutB Tryz.prog=true:=by kernel_rfl
theorem gE:Keyed Tryz.prog 170:=Keyed.of_law (deep_law_gate zze (by decide +kernel) (by decide +kernel) (by kernel_rfl) (by kernel_rfl))
def gO (i:Nat) (p:Bs):Value:=.agg #[.int .i64 i,.string (str p)]
def eP (i:Nat) (p:Bs):Lit:=.string (keyBytes [.int .i64 i,.string (str p).data.toList])
theorem zll:Tryz.prog.keyType 170=true:=by kernel_rfl
theorem zk5:Tryz.prog.cellsOf 170=2:=by kernel_rfl
theorem zrj:Tryz.prog.cellsOf 3=1:=by kernel_rfl
theorem znl:Tryz.prog.cellsOf 9=1:=by kernel_rfl
theorem zun:∃ m,Tryz.prog.types.size+1=m+1+1:=⟨Tryz.prog.types.size - 1,by have:1≤Tryz.prog.types.size:=(by decide +kernel);omega⟩
theorem zpm {i:Nat} (h:i≤100):(Lit.int .i64 (i:Int)).wf=true:=by
 simp[Lit.wf,IntKind.min,IntKind.max,IntKind.signed,IntKind.bits];omega
theorem mD {i:Nat} {p:Bs} (hi:i≤100) (hp:p.length≤1048576):keyOf Tryz.prog 170 (gO i p)=some (eP i p):=by
 have hs:(str p).size≤maxLen:=by rw[aK];unfold maxLen;omega
 have hw:=zpm hi;obtain ⟨m,hm⟩:=zun;unfold keyOf gO eP;rw[Tryz.underlying170];simp only[zll,Value.formed,Tryz.underlying170,zk5,Value.cells];rw[hm];simp[Program.keyLits,Tryz.underlying170,zk5,Tryz.underlying3,Tryz.underlying9,zrj,znl,hs,hw]
theorem zoi {i j:Nat} {p q:Bs} (h:gO i p=gO j q):i=j∧p=q:=by
 unfold gO at h;simp only[Value.agg.injEq,Array.mk.injEq,List.cons.injEq,Value.int.injEq,Value.string.injEq,true_and,and_true]at h;refine ⟨by omega,?_⟩
 have:=congrArg (fun s:ByteArray=>s.data.toList) h.2
 simpa [aT] using this
theorem sQ {i j:Nat} {p q:Bs} (hi:i≤100) (hj:j≤100) (hp:p.length≤1048576) (hq:q.length≤1048576) (h:eP i p=eP j q):i=j∧p=q:=by
 have h1:=mD hi hp;have h2:=mD hj hq;rw[←h]at h2;exact zoi (gE.inj h1 h2)
def RVs (v:Value):Option (DataW Value × List MemPlace):=some (.held v,[])
def itV (e:En) (a:Option Addr) (c:Nat):Value:=.agg #[.int .i64 e.size,.slice a e.chunks.length c,.string (str e.path),.int .i64 e.kind]
theorem zt9 (w:World):(zeroValue 88).run Tryz.prog w=.ok (.agg #[.int .i64 0,.slice none 0 0,.string ⟨#[]⟩,.int .i64 0]) w:=by kernel_rfl
def eL (w0 w:World) (b N:Nat) (S:Nat→Bs→Option En):Prop :=
 ∃ (Dt:DataW Value) (A:Nat→Bs→Option Addr) (C:Nat→Bs→Nat),w.ownsMap Tryz.prog 170 RVs b N Dt ∧
  (∀ i p,i≤100→p.length≤1048576→has Dt (eP i p)=(S i p).isSome) ∧
  (∀ i p e,i≤100→p.length≤1048576→S i p=some e→(∀ z,Dt.atKey (eP i p) z=.held (itV e (A i p) (C i p)))∧aP .i64 w0 (A i p) e.chunks) ∧
  (∀ kl,has Dt kl=true→∃ i p,i≤100∧p.length≤1048576∧kl=eP i p)
theorem eL.lt {w0 w:World} {b N:Nat} {S:Nat→Bs→Option En} (h:eL w0 w b N S):b<w.heap.size:=by
 obtain ⟨Dt,A,C,h1,_⟩:=h;exact h1.lt
theorem eL.kept {Q:Nat→Prop} {w0 w w':World} {b N:Nat} {S:Nat→Bs→Option En} (h:eL w0 w b N S) (hk:aD Q w w') (hb:¬ Q b):eL w0 w' b N S:=by
 obtain ⟨Dt,A,C,h1,h2⟩:=h;have hlt:=h1.lt;obtain ⟨es,clock,hh,r⟩:=h1;exact ⟨Dt,A,C,⟨es,clock,(hk.block b hlt hb).trans hh,r⟩,h2⟩
theorem eL.below {w0 w w':World} {b N:Nat} {S:Nat→Bs→Option En} (h:eL w0 w b N S) (hk:Below w.heap.size w w'):eL w0 w' b N S :=
 h.kept (Q:=fun _=>False) (aD.of_below hk) id
theorem eL.congr {w0 w:World} {b N:Nat} {S S':Nat→Bs→Option En} (h:eL w0 w b N S) (hS:∀ i p,S i p=S' i p):eL w0 w b N S':=by
 have:S=S':=funext fun i=>funext fun p=>hS i p
 rw[←this];exact h
theorem eL.made (w0 w:World):eL w0 (w.alloc (.map #[] 0)) w.heap.size 0 (fun _ _=>none):=by
 refine ⟨.map [],fun _ _=>none,fun _ _=>0,World.ownsMap_made _ _ _ _,?_,?_,?_⟩
 ·intro i p _ _
  simp[has]
 ·intro i p e _ _ h
  simp at h
 ·intro kl h
  simp[has]at h
theorem xU {w w':World} {b:Nat} (h:w.grownBy w' (some b)):aD (fun x=>x=b) w w' :=
 ⟨h.os,h.tape,h.output,h.size,fun k hk hn=>h.block k hk (fun e=>hn (by simpa using e))⟩
theorem vL {i:Nat} {p:Bs} (hi:i≤100) (hp:p.length≤1048576):WideAt.IsKeyLit (eP i p):=gE.key (mD hi hp)
theorem eL.put {w0 w:World} {b N i:Nat} {p:Bs} {S:Nat→Bs→Option En} {e:En} {a:Option Addr} {c:Nat} (h:eL w0 w b N S) (hi:i≤100) (hp:p.length≤1048576) (hr:aP .i64 w0 a e.chunks) :
  ∃ Dt,w.ownsMap Tryz.prog 170 RVs b N Dt∧∀ w',w'.ownsMap Tryz.prog 170 RVs b (N+1) (Dt.put (eP i p) (.held (itV e a c)))→eL w0 w' b (N+1) (fun j q=>if j=i∧q=p then some e else S j q):=by
 obtain ⟨Dt,A,C,h1,h2,h3,h4⟩:=h;refine ⟨Dt,h1,fun w' ho=>?_⟩
 refine ⟨_,fun j q=>if j=i∧q=p then a else A j q,fun j q=>if j=i∧q=p then c else C j q,ho,fun j q hj hq=>?_,fun j q x hj hq hx=>?_,fun kl hkl=>?_⟩
 ·by_cases e1:j=i∧q=p
  ·obtain ⟨rfl,rfl⟩:=e1
   rw[has_put_same h1.isMap (vL hj hq)];simp
  ·have hne:eP j q≠eP i p:=fun hk=>e1 (sQ hj hi hq hp hk)
   rw[has_put_other (by simpa using hne),h2 j q hj hq]
   simp[e1]
 ·by_cases e1:j=i∧q=p
  ·simp only[if_pos e1]at hx ⊢
   cases hx
   obtain ⟨rfl,rfl⟩:=e1;exact ⟨fun z=>atKey_put_same h1.isMap (vL hj hq) _ _,hr⟩
  ·have hne:eP j q≠eP i p:=fun hk=>e1 (sQ hj hi hq hp hk)
   simp only[if_neg e1]at hx ⊢;exact ⟨fun z=>by rw[atKey_put_other (by simpa using hne)];exact (h3 j q x hj hq hx).1 z,(h3 j q x hj hq hx).2⟩
 ·by_cases e1:kl=eP i p
  ·exact ⟨i,p,hi,hp,e1⟩
  ·rw[has_put_other (by simpa using e1)]at hkl
   exact h4 kl hkl
theorem eL.yes {w0 w:World} {b N i:Nat} {p:Bs} {S:Nat→Bs→Option En} {e:En} (h:eL w0 w b N S) (hi:i≤100) (hp:p.length≤1048576) (he:S i p=some e) :
  ∃ a c,(Instr.lookup 167 (.map (some b)) (gO i p) true).run Tryz.prog w=.ok (.tuple #[itV e a c,.bool true]) w∧(Instr.lookup 167 (.map (some b)) (gO i p) false).run Tryz.prog w=.ok (itV e a c) w∧aP .i64 w0 a e.chunks:=by
 obtain ⟨Dt,A,C,h1,h2,h3,h4⟩:=h;refine ⟨A i p,C i p,?_,?_,(h3 i p e hi hp he).2⟩
 ·obtain ⟨v,ps,hrun,hv⟩:=h1.look_ok gE Tryz.underlying167 (zt9 w) (zd:=.held (.agg #[.int .i64 0,.slice none 0 0,.string ⟨#[]⟩,.int .i64 0])) (zp:=[]) rfl (mD hi hp)
  simp only[RVs,Option.some.injEq,Prod.mk.injEq,(h3 i p e hi hp he).1]at hv;have e1:=hv.1;simp only[DataW.held.injEq]at e1;rw[hrun,h2 i p hi hp,he];simp[e1]
 ·obtain ⟨v,ps,hrun,hv⟩:=h1.lookup gE Tryz.underlying167 (zt9 w) (zd:=.held (.agg #[.int .i64 0,.slice none 0 0,.string ⟨#[]⟩,.int .i64 0])) (zp:=[]) rfl (mD hi hp)
  simp only[RVs,Option.some.injEq,Prod.mk.injEq,(h3 i p e hi hp he).1]at hv;have e1:=hv.1;simp only[DataW.held.injEq]at e1;rw[hrun];simp[e1]
theorem eL.no {w0 w:World} {b N i:Nat} {p:Bs} {S:Nat→Bs→Option En} (h:eL w0 w b N S) (hi:i≤100) (hp:p.length≤1048576) (he:S i p=none) :
  (Instr.lookup 167 (.map (some b)) (gO i p) true).run Tryz.prog w=.ok (.tuple #[.agg #[.int .i64 0,.slice none 0 0,.string ⟨#[]⟩,.int .i64 0],.bool false]) w:=by
 obtain ⟨Dt,A,C,h1,h2,h3,h4⟩:=h;obtain ⟨v,ps,hrun,hv⟩:=h1.look_ok gE Tryz.underlying167 (zt9 w) (zd:=.held (.agg #[.int .i64 0,.slice none 0 0,.string ⟨#[]⟩,.int .i64 0])) (zp:=[]) rfl (mD hi hp);have hh:has Dt (eP i p)=false:=by rw[h2 i p hi hp,he];rfl
 rw[atKey_of_not_has hh]at hv;simp only[RVs,Option.some.injEq,Prod.mk.injEq]at hv;have e1:=hv.1;simp only[DataW.held.injEq]at e1;rw[hrun,hh,e1]
theorem iQ {P:Program} {w:World} {ops:Array Oper} {rest:List Oper} {o:Oper} {a:Act} {Q:Exit→Act→World→Prop} (hg:o.guard=none) (m x:Operand) (t:TypeId) (c:Bool) (hop:o.op=Op.lookup t m x c)
  (vm vx v:Value) (hm:a.eval m=vm) (hx:a.eval x=vx) (hrun:(Instr.lookup t vm vx c).run P w=.ok v w) (h:wpList P ops Q rest (a.put o.dst v) w):wpList P ops Q (o :: rest) a w:=by
 refine wpList_plain hg fun K' hK'=>?_
 unfold Oper.wp;simp[execOp,hop,hm,hx,hrun,Result.andThen]
 exact hK' _ _ h
end Go.Proofs.YtolnlfnndnpiiaaGreat
namespace Go.Proofs.YtolnlfnndnpiiaaGreat
structure Fit (es:List En):Prop where
 ent:∀ e∈es,aH e=0
 rise:dY es
 home:∀ e∈es,cR es e.path=true
structure iW (es:List En):Prop where
 fit:Fit es
 kind:∀ e∈es,jH e.kind=true
theorem zkm:Fit []:=⟨fun e he=>by simp at he,List.Pairwise.nil,fun e he=>by simp at he⟩
theorem zoj:iW []:=⟨zkm,fun e he=>by simp at he⟩
theorem fU {es:List En}:aU es↔Fit es∧es.length≤12:=⟨fun h=>⟨⟨h.ent,h.rise,h.home⟩,h.len⟩,fun h=>⟨h.2,h.1.ent,h.1.rise,h.1.home⟩⟩
theorem oL {es:List En}:zh6 es↔iW es∧es.length≤40:=⟨fun h=>⟨⟨⟨h.ent,h.rise,h.home⟩,h.kind⟩,h.len⟩,fun h=>⟨h.2,h.1.kind,h.1.fit.ent,h.1.fit.rise,h.1.fit.home⟩⟩
theorem Fit.path {es:List En} (h:Fit es) {e:En} (he:e∈es):aF e.path=0:=bM (h.ent e he)
theorem zw3:∀ (p:Bs) (c:UInt8) (r:Bs),Op.bytesLess p (p++c :: r)=true
 | [],c,r=>by simp[Op.bytesLess]
 | a :: p,c,r=>by simp[Op.bytesLess,zw3 p c r]
theorem zm1 {q p:Bs} (h:bD q p=true):Op.bytesLess p q=true:=by
 obtain ⟨r,_,rfl⟩:=nR.1 h;exact zw3 p 47 r
theorem yY {q p:Bs} (h:Op.bytesLess q p=true):bD q p=false:=by
 cases hb:bD q p
 ·rfl
 ·have:=iB (zm1 hb);rw[h]at this;cases this
theorem zL (es:List En) (f:Bs→Bool) (q:Bs):aG (es.filter fun e=>f e.path) q=if f q then aG es q else none:=by
 unfold aG;rw[List.find?_filter];cases hq:f q
 ·rw[if_neg (by simp),List.find?_eq_none]
  intro x hx;by_cases e:x.path=q
  ·simp[e,hq]
  ·simp[e]
 ·rw[if_pos rfl]
  congr 1
  funext x
  by_cases e:x.path=q
  ·simp[e,hq]
  ·simp[e]
theorem zr1 {bs:List En} {e:En} (hn:∀ x∈bs,x.path≠e.path) (q:Bs):aG (dV bs e) q=if q=e.path then some e else aG bs q:=by
 unfold dV;by_cases h:q=e.path
 ·rw[if_pos h,aG,List.find?_append]
  have h1:List.find? (fun x:En=>decide (x.path=q)) (bs.take (kM bs e.path))=none:=by
   rw[List.find?_eq_none];intro x hx;simpa [h] using hn x (List.mem_of_mem_take hx)
  rw[h1];simp[h]
 ·rw[if_neg h]
  conv=>rhs;rw[←List.take_append_drop (kM bs e.path) bs]
  have h2:decide (e.path=q)=false:=by simpa using fun x:e.path=q=>h x.symm
  simp only[aG,List.find?_append,List.find?_cons,h2]
theorem wK {D:List En} {e:En} (hn:∀ x∈D,x.path≠e.path) (q:Bs):aG (D ++ [e]) q=if q=e.path then some e else aG D q:=by
 by_cases h:q=e.path
 ·rw[if_pos h,aG,List.find?_append]
  have h1:List.find? (fun x:En=>decide (x.path=q)) D=none:=by
   rw[List.find?_eq_none];intro x hx;simpa [h] using hn x hx
  rw[h1];simp[h]
 ·rw[if_neg h]
  have h2:decide (e.path=q)=false:=by simpa using fun x:e.path=q=>h x.symm
  simp only[aG,List.find?_append,List.find?_cons,h2,List.find?_nil,Option.or_none]
theorem vG:∀ {es fs:List En},dY es→dY fs→(∀ q,aG es q=aG fs q)→es=fs
 | [],[],_,_,_=>rfl
 | [],y :: fs,_,h2,h=>by
  have:=h y.path;rw[eN h2 List.mem_cons_self]at this;cases this
 | x :: es,[],h1,_,h=>by
  have:=h x.path;rw[eN h1 List.mem_cons_self]at this;cases this
 | x :: es,y :: fs,h1,h2,h=>by
  have p1:=List.pairwise_cons.1 h1;have p2:=List.pairwise_cons.1 h2;have hx:x∈y :: fs:=by
   have:=h x.path;rw[eN h1 List.mem_cons_self]at this;exact (eZ this.symm).1
  have hy:y∈x :: es:=by
   have:=h y.path;rw[eN h2 List.mem_cons_self]at this;exact (eZ this).1
  have hxy:x=y:=by
   rcases List.mem_cons.1 hx with e | hx
   ·exact e
   ·rcases List.mem_cons.1 hy with e | hy
    ·exact e.symm
    ·have a1:=p2.1 x hx
     have a2:=p1.1 y hy;have:=iB a1;rw[a2]at this;cases this
  subst hxy
  congr 1
  refine vG p1.2 p2.2 (fun q=>?_)
  by_cases e:x.path=q
  ·rw[jR (fun y hy e2=>jL (p1.1 y hy) (e.trans e2.symm)),jR (fun y hy e2=>jL (p2.1 y hy) (e.trans e2.symm))]
  ·have:=h q
   simpa [aG,e] using this
theorem Fit.bare {es:List En} (h:Fit es) {p:Bs} (hp:aF p=0) (hf:∀ d∈es,d.path=p→bZ d.kind=false):∀ x∈es,bD x.path p=false:=by
 have:∀ n,∀ x∈es,x.path.length≤n→bD x.path p=false:=by
  intro n
  induction n with
  | zero =>
   intro x hx hl;cases hb:bD x.path p
   ·rfl
   ·have:=dZ hb;omega
  | succ n ih =>
   intro x hx hl;cases hb:bD x.path p
   ·rfl
   ·exfalso
    obtain ⟨h0,h1⟩:=ztc (h.path hx) hp hb;rcases eM.1 (h.home x hx) with h2 | ⟨d,hd,hdp,hdk⟩
    ·exact h0 h2
    ·rcases h1 with h1 | h1
     ·rw[hf d hd (hdp.trans h1)]at hdk;cases hdk
     ·have h3:=dZ (cU (h.path hx) h0).2
      have:=ih d hd (by rw[hdp];omega)
      rw[hdp,h1]at this;cases this
 exact fun x hx=>this _ x hx (Nat.le_refl _)
theorem Fit.bare_find {es:List En} (h:Fit es) {p q:Bs} (hp:aF p=0) (hf:∀ d∈es,d.path=p→bZ d.kind=false) (hb:bD q p=true):aG es q=none:=by
 refine jR (fun x hx e=>?_)
 have:=h.bare hp hf x hx;rw[e,hb]at this;cases this
theorem Fit.up {es:List En} (h:Fit es) {p:Bs} {x:En} (hp:aF p=0) (hx:x∈es) (hb:bD x.path p=true):∃ d∈es,d.path=p∧bZ d.kind=true:=by
 by_cases hd:∃ d∈es,d.path=p∧bZ d.kind=true
 ·exact hd
 ·exfalso
  have:=h.bare hp (fun d hd1 hd2=>by
   cases hk:bZ d.kind
   ·rfl
   ·exact absurd ⟨d,hd1,hd2,hk⟩ hd) x hx
  rw[hb]at this;cases this
theorem zd0 {e:En} (h:aH e=0) (hk:e.kind≠1):e.size=0∧e.chunks=[]:=by
 have hp:=bM h;have hf:iJ e=true:=by
  cases hf:iJ e
  ·rw[gU hp hf]at h;cases h
  ·rfl
 simp only[iJ,decide_eq_true_eq]at hf;rcases hf.2 with h1 | ⟨h1,h2⟩
 ·exact absurd h1 hk
 ·exact ⟨h1,List.length_eq_zero_iff.1 h2⟩
theorem kQ {e:En} (h:aH e=0):e.kind=1∨e.kind=2∨e.kind=3∨e.kind=4:=by
 have hp:=bM h;have hf:iJ e=true:=by
  cases hf:iJ e
  ·rw[gU hp hf]at h;cases h
  ·rfl
 simp only[iJ,decide_eq_true_eq]at hf;omega
theorem zcc {d e:En} (h1:aH d=0) (h2:aH e=0) (hp:d.path=e.path) (hk:d.kind=e.kind) (hn:e.kind≠1):d=e:=by
 obtain ⟨a1,a2⟩:=zd0 h1 (by rw[hk];exact hn)
 obtain ⟨b1,b2⟩:=zd0 h2 hn;cases d;cases e;simp_all
def gX (e:En) (k:Int):En:={ e with kind:=k }
theorem zmj {e:En} {k:Int} (h:aH e=0) (hk:e.kind≠1∨(e.size=0∧e.chunks=[])) (h1:1≤k) (h2:k≤4):aH (gX e k)=0:=by
 have hp:=bM h;obtain ⟨a1,a2⟩:e.size=0∧e.chunks=[]:=hk.elim (fun x=>zd0 h x) id
 have b1:iJ (gX e k)=true:=by simp[iJ,gX,a1,a2,h1,h2]
 have b2:lM (gX e k)=true:=by simp[lM,gX,a1]
 have b3:mF (gX e k)=true:=by simp[mF,gX,a1,a2]
 have b4:(gX e k).chunks.all gW=true:=by simp[gX,a2]
 have b5:aF (gX e k).path=0:=hp;rw[fX b5 b1 b2 b3,if_pos b4]
theorem lX {t:List En} {p:Bs} {x:En}:x∈bB t p true↔x∈t∧x.path≠p∧bD x.path p=false:=by
 simp only[bB,kJ,List.mem_filter,Bool.not_eq_true',Bool.or_eq_false_iff,Bool.true_and,decide_eq_false_iff_not];exact ⟨fun h=>⟨h.1,h.2.2,h.2.1⟩,fun h=>⟨h.1,h.2.2,h.2.1⟩⟩
theorem wJ (t:List En) (p q:Bs):aG (bB t p true) q=if q=p then none else if bD q p then none else aG t q:=by
 have:=zL t (fun y=>!(bD y p||(true&&decide (y=p)))) q
 have e1:bB t p true=t.filter (fun e=>(fun y=>!(bD y p||(true&&decide (y=p)))) e.path):=rfl
 rw[e1,this];by_cases h1:q=p
 ·simp[h1]
 ·cases h2:bD q p <;> simp[h1]
theorem zdi {t:List En} (h:dY t) (p:Bs):dY (bB t p true):=h.sublist List.filter_sublist
theorem zci {t:List En} (h:Fit t) {p:Bs} (hp:aF p=0):∀ x∈bB t p true,cR (bB t p true) x.path=true:=by
 intro x hx;obtain ⟨hx,hn,hb⟩:=lX.1 hx;rw[eM];rcases eM.1 (h.home x hx) with h0 | ⟨d,hd,hdp,hdk⟩
 ·exact .inl h0
 ·by_cases h0:aE x.path=[]
  ·exact .inl h0
  ·have hbx:=(cU (h.path hx) h0).2
   rw[←hdp]at hbx;refine .inr ⟨d,lX.2 ⟨hd,fun e=>?_,?_⟩,hdp,hdk⟩
   ·rw[e,hb]at hbx;cases hbx
   ·cases h3:bD d.path p
    ·rfl
    ·rw[pE hbx h3]at hb;cases hb
theorem zy8 {t:List En} (h:Fit t) {p:Bs} (hp:aF p=0):Fit (bB t p true) :=
 ⟨fun e he=>h.ent e (lX.1 he).1,zdi h.rise p,zci h hp⟩
theorem zzg {t:List En} {p:Bs} (hp:aF p=0) (hh:cR t p=true):cR (bB t p true) p=true:=by
 rw[eM]at hh ⊢;rcases hh with h0 | ⟨d,hd,hdp,hdk⟩
 ·exact .inl h0
 ·by_cases h0:aE p=[]
  ·exact .inl h0
  ·have hb:=(cU hp h0).2
   have hl:=dZ hb;refine .inr ⟨d,lX.2 ⟨hd,fun e=>?_,?_⟩,hdp,hdk⟩
   ·rw[←hdp,e]at hl;omega
   ·cases h3:bD d.path p
    ·rfl
    ·have:=dZ h3;rw[hdp]at this;omega
theorem zsg {t:List En} {e:En} (h:Fit t) (he:aH e=0) (hh:cR t e.path=true):Fit (dV (bB t e.path true) e):=by
 have hp:=bM he;have hr:=zy8 h hp;have hn:∀ x∈bB t e.path true,x.path≠e.path:=fun x hx=>(lX.1 hx).2.1
 have hmono:∀ q,cR (bB t e.path true) q=true→cR (dV (bB t e.path true) e) q=true:=by
  intro q hq;rw[eM]at hq ⊢;rcases hq with h0 | ⟨d,hd,hd2⟩
  ·exact .inl h0
  ·exact .inr ⟨d,nK.2 (.inr hd),hd2⟩
 refine ⟨fun x hx=>?_,qX hr.rise hn,fun x hx=>?_⟩
 ·rcases nK.1 hx with rfl | hx
  ·exact he
  ·exact hr.ent x hx
 ·rcases nK.1 hx with rfl | hx
  ·exact hmono _ (zzg hp hh)
  ·exact hmono _ (hr.home x hx)
theorem zqd (t:List En) (e:En) (q:Bs):aG (dV (bB t e.path true) e) q=if q=e.path then some e else if bD q e.path then none else aG t q:=by
 rw[zr1 (fun x hx=>(lX.1 hx).2.1),wJ]
 by_cases h:q=e.path
 ·simp[h]
 ·simp[h]
def asT (e:En):En:=if e.kind=4 then gX e 2 else e
theorem gH (e:En):(asT e).path=e.path:=by unfold asT;split <;> rfl
theorem zu2 {e:En} (h:aH e=0):aH (asT e)=0:=by
 unfold asT;split
 ·rename_i h4
  exact zmj h (.inl (by omega)) (by decide) (by decide)
 ·exact h
theorem zej {e:En} (h:aH e=0) (h3:e.kind≠3):jH (asT e).kind=true:=by
 unfold asT;rcases kQ h with h1 | h1 | h1 | h1
 ·simp[h1,jH]
 ·simp[h1,jH]
 ·exact absurd h1 h3
 ·simp[h1,jH,gX]
theorem yI {e:En} (hk:bZ e.kind=true):(asT e).kind=2:=by
 simp only[bZ,decide_eq_true_eq]at hk;unfold asT;rcases hk with hk | hk <;> simp[hk,gX]
theorem zvl {d e:En} (h1:aH d=0) (h2:aH e=0) (hp:d.path=e.path) (hd:bZ d.kind=true) (he:bZ e.kind=true):asT d=asT e:=by
 refine zcc (zu2 h1) (zu2 h2) (by rw[gH,gH,hp]) (by rw[yI hd,yI he]) (by rw[yI he];decide)
def iL (t:List En) (e:En):List En :=
 if e.kind=3 then bB t e.path true else if e.kind=2∧dL t e.path=true then t else dV (bB t e.path true) (asT e)
def dA (t L:List En):List En:=L.foldl iL t
theorem zt1 {t:List En} {p:Bs}:dL t p=true↔∃ d∈t,d.path=p∧bZ d.kind=true:=by
 simp[dL]
theorem zud {t:List En} {p:Bs} (h:¬ dL t p=true):∀ d∈t,d.path=p→bZ d.kind=false:=by
 intro d hd hp;cases hk:bZ d.kind
 ·rfl
 ·exact absurd (zt1.2 ⟨d,hd,hp,hk⟩) h
theorem iW.dir {t:List En} (h:iW t) {d:En} (hd:d∈t) (hk:bZ d.kind=true):d.kind=2:=by
 have h1:=h.kind d hd;simp only[jH,bZ,decide_eq_true_eq]at h1 hk;omega
theorem zz4 (t:List En) (e:En):dV (bB t e.path true) (asT e)=dV (bB t (asT e).path true) (asT e):=by rw[gH]
theorem zng {t:List En} {e:En} (h:iW t) (he:aH e=0) (q:Bs) :
  aG (iL t e) q=if q=e.path then (if e.kind=3 then none else some (asT e)) else if (!decide (e.kind=2))&&bD q e.path then none else aG t q:=by
 have hp:=bM he;unfold iL;by_cases h3:e.kind=3
 ·rw[if_pos h3,wJ]
  have:(!decide (e.kind=2))=true:=by simp[h3]
  rw[this,Bool.true_and,if_pos h3]
 ·rw[if_neg h3,if_neg h3]
  by_cases hd:e.kind=2∧dL t e.path=true
  ·rw[if_pos hd]
   have e1:(!decide (e.kind=2))=false:=by simp[hd.1]
   rw[e1,Bool.false_and,if_neg Bool.false_ne_true];by_cases hq:q=e.path
   ·rw[if_pos hq]
    obtain ⟨d,hdm,hdp,hdk⟩:=zt1.1 hd.2;have h2:=h.dir hdm hdk;have e2:asT e=e:=by unfold asT;rw[if_neg (by omega)]
    rw[hq,←hdp,eN h.fit.rise hdm,e2,zcc (h.fit.ent d hdm) he hdp (by rw[h2,hd.1]) (by omega)]
   ·rw[if_neg hq]
  ·rw[if_neg hd,zz4,zqd,gH]
   by_cases hq:q=e.path
   ·rw[if_pos hq,if_pos hq]
   ·rw[if_neg hq,if_neg hq]
    by_cases h2:e.kind=2
    ·have e1:(!decide (e.kind=2))=false:=by simp[h2]
     rw[e1,Bool.false_and,if_neg Bool.false_ne_true];cases hb:bD q e.path
     ·simp
     ·rw[if_pos rfl]
      exact (h.fit.bare_find hp (zud (fun x=>hd ⟨h2,x⟩)) hb).symm
    ·have e1:(!decide (e.kind=2))=true:=by simp[h2]
     rw[e1,Bool.true_and]
theorem zrg {t:List En} {e:En} (h:iW t) (he:aH e=0) (hh:cR t e.path=true):iW (iL t e):=by
 have hp:=bM he;unfold iL;by_cases h3:e.kind=3
 ·rw[if_pos h3]
  exact ⟨zy8 h.fit hp,fun x hx=>h.kind x (lX.1 hx).1⟩
 ·rw[if_neg h3]
  by_cases hd:e.kind=2∧dL t e.path=true
  ·rw[if_pos hd];exact h
  ·rw[if_neg hd,zz4]
   refine ⟨zsg h.fit (zu2 he) (by rw[gH];exact hh),fun x hx=>?_⟩
   rcases nK.1 hx with rfl | hx
   ·exact zej he h3
   ·exact h.kind x (lX.1 hx).1
theorem zs8 (bs:List En) (e:En):(dV bs e).length=bs.length+1:=by
 unfold dV;simp only[List.length_append,List.length_cons,List.length_take,List.length_drop];omega
theorem zrk (t:List En) (e:En):(iL t e).length≤t.length+1:=by
 have:=xL t e.path true;unfold iL;split
 ·omega
 ·split
  ·omega
  ·rw[zs8];omega
theorem xF:∀ (L t:List En),(dA t L).length≤t.length+L.length
 | [],t=>by simp[dA]
 | e :: L,t=>by
  have h1:=xF L (iL t e);have h2:=zrk t e;have h3:dA t (e :: L)=dA (iL t e) L:=rfl;rw[h3,List.length_cons];omega
def hid (L:List En) (q:Bs):Bool:=L.any fun e=>(!decide (e.kind=2))&&bD q e.path
theorem zqj (D:List En) (e:En) (q:Bs):hid (D ++ [e]) q=(hid D q||((!decide (e.kind=2))&&bD q e.path)):=by
 simp[hid,List.any_append]
theorem zom {L:List En} {q:Bs}:hid L q=true↔∃ e∈L,e.kind≠2∧bD q e.path=true:=by
 simp[hid]
def zb1 (t L:List En) (q:Bs):Option En :=
 match aG L q with
 | some e=>if e.kind=3 then none else some (asT e)
 | none=>if hid L q then none else aG t q
theorem mB {t L:List En} {q:Bs} {e:En} (h:aG L q=some e):zb1 t L q=if e.kind=3 then none else some (asT e):=by simp[zb1,h]
theorem xT {t L:List En} {q:Bs} (h:aG L q=none):zb1 t L q=if hid L q then none else aG t q:=by simp[zb1,h]
theorem zck {L:List En} {k:Nat} {e:En} (hL:Fit L) (he:L[k]?=some e) :
  (∀ x∈L.take k,Op.bytesLess x.path e.path=true)∧(aE e.path=[]∨∃ d∈L.take k,d.path=aE e.path∧bZ d.kind=true):=by
 have hem:=List.mem_of_getElem? he;obtain ⟨hk,hke⟩:=List.getElem?_eq_some_iff.1 he;have hs:L=L.take k++e :: L.drop (k+1):=by
  conv=>lhs;rw[←List.take_append_drop k L,List.drop_eq_getElem_cons hk,hke]
 have hr:=hL.rise;unfold dY at hr;rw[hs,List.pairwise_append]at hr;refine ⟨fun x hx=>hr.2.2 x hx e List.mem_cons_self,?_⟩
 rcases eM.1 (hL.home e hem) with h0 | ⟨d,hd,hdp,hdk⟩
 ·exact .inl h0
 ·by_cases h0:aE e.path=[]
  ·exact .inl h0
  ·have hb:=zm1 (cU (hL.path hem) h0).2
   rw[←hdp]at hb;rw[hs]at hd;rcases List.mem_append.1 hd with hd | hd
   ·exact .inr ⟨d,hd,hdp,hdk⟩
   ·exfalso
    rcases List.mem_cons.1 hd with rfl | hd
    ·rw[gC]at hb;cases hb
    ·have:=iB ((List.pairwise_cons.1 hr.2.1).1 d hd)
     rw[hb]at this;cases this
theorem yD {L:List En} {k:Nat} {e:En} (he:L[k]?=some e):L.take (k+1)=L.take k ++ [e]:=by
 rw[List.take_add_one,he];rfl
theorem qR {t L:List En} (ht:iW t) (hL:Fit L):∀ k,k≤L.length→iW (dA t (L.take k))∧∀ q,aG (dA t (L.take k)) q=zb1 t (L.take k) q
 | 0,_=>by
  refine ⟨by simpa [dA] using ht,fun q=>?_⟩
  simp[dA,zb1,aG,hid]
 | k+1,hk=>by
  obtain ⟨e,he⟩:∃ e,L[k]?=some e:=⟨_,List.getElem?_eq_getElem (by omega)⟩
  obtain ⟨ih1,ih2⟩:=qR ht hL k (by omega)
  obtain ⟨hlt,hho⟩:=zck hL he;have hee:=hL.ent e (List.mem_of_getElem? he);have hrD:dY (L.take k):=hL.rise.sublist (List.take_sublist _ _);have hne:∀ x∈L.take k,x.path≠e.path:=fun x hx=>jL (hlt x hx)
  have hm:dA t (L.take (k+1))=iL (dA t (L.take k)) e:=by rw[yD he];simp[dA,List.foldl_append]
  rw[hm,yD he];generalize L.take k=D at *;have hhome:cR (dA t D) e.path=true:=by
   rw[eM];rcases hho with h0 | ⟨d,hd,hdp,hdk⟩
   ·exact .inl h0
   ·have h1:=ih2 d.path
    rw[mB (eN hrD hd)]at h1;have hd3:d.kind≠3:=by intro e3;rw[e3]at hdk;cases hdk
    rw[if_neg hd3]at h1;exact .inr ⟨asT d,(eZ h1).1,by rw[gH,hdp],by rw[yI hdk];rfl⟩
  refine ⟨zrg ih1 hee hhome,fun q=>?_⟩
  rw[zng ih1 hee,ih2 q];by_cases hq:q=e.path
  ·rw[if_pos hq,mB (e:=e) (by rw[wK hne,if_pos hq])]
  ·rw[if_neg hq]
   have hf:aG (D ++ [e]) q=aG D q:=by rw[wK hne,if_neg hq]
   cases hD:aG D q with
   | some x =>
    have hx:=eZ hD;have hb:=yY (hlt x hx.1);rw[hx.2]at hb;rw[hb,Bool.and_false,if_neg (by simp),mB hD,mB (hf.trans hD)]
   | none =>
    rw[xT hD,xT (hf.trans hD),zqj];cases (!decide (e.kind=2))&&bD q e.path <;> cases hid D q <;> simp
theorem qA {t L:List En} (ht:iW t) (hL:Fit L):iW (dA t L):=by
 have:=(qR ht hL L.length (Nat.le_refl _)).1;rwa [List.take_length]at this
theorem uY {t L:List En} (ht:iW t) (hL:Fit L) (q:Bs):aG (dA t L) q=zb1 t L q:=by
 have:=(qR ht hL L.length (Nat.le_refl _)).2 q;rwa [List.take_length]at this
def wO (es:List En) (q:Bs):Bool:=(aG es q).any fun e=>!decide (e.kind=2)
def dF (es:List En) (q:Bs):Int :=
 match aG es q with
 | some e=>if e.kind=3∨e.kind=1 then 2 else if e.kind=4 then 1 else 0
 | none=>0
def eB (es:List En) (ups:List Bs):Int:=if ups.any (fun u=>decide (dF es u=2)) then 2 else if ups.any (fun u=>decide (dF es u=1)) then 1 else 0
def fK (es:List En) (p:Bs):Int:=if eB es (bG p)=2∨dF es p=2 then 2 else if eB es (bG p)=1∨dF es p=1 then 1 else 0
theorem sM {es:List En} {q:Bs} (h:aG es q=none):dF es q=0:=by simp[dF,h]
theorem zw8 {es:List En} {q:Bs} {e:En} (h:aG es q=some e) (hk:e.kind=3∨e.kind=1):dF es q=2:=by simp only[dF,h];rw[if_pos hk]
theorem zal {es:List En} {q:Bs} {e:En} (h:aG es q=some e) (hk:e.kind=4):dF es q=1:=by simp[dF,h,hk]
theorem zzk {es:List En} {q:Bs} {e:En} (h:aG es q=some e) (h1:e.kind≠1) (h3:e.kind≠3) (h4:e.kind≠4):dF es q=0:=by simp[dF,h,h1,h3,h4]
theorem zc5 {es:List En} (h:aU es) (q:Bs):wO es q=decide (dF es q≠0):=by
 cases hf:aG es q with
 | none=>simp[wO,dF,hf]
 | some e =>
  have he:=(eZ hf).1;rcases kQ (h.ent e he) with hk | hk | hk | hk <;> simp[wO,dF,hf,hk]
theorem vD (es:List En) (q:Bs):dF es q=0∨dF es q=1∨dF es q=2:=by
 unfold dF;split
 ·split
  ·exact Or.inr (Or.inr rfl)
  ·split
   ·exact Or.inr (Or.inl rfl)
   ·exact Or.inl rfl
 ·exact Or.inl rfl
theorem qT (es:List En) (ups:List Bs):eB es ups=0∨eB es ups=1∨eB es ups=2:=by
 unfold eB;split
 ·exact Or.inr (Or.inr rfl)
 ·split
  ·exact Or.inr (Or.inl rfl)
  ·exact Or.inl rfl
theorem zvh {es:List En} {ups:List Bs}:eB es ups≠0↔∃ u∈ups,dF es u≠0:=by
 unfold eB;constructor
 ·intro h
  split at h
  ·rename_i h2
   obtain ⟨u,hu,hr⟩:=List.any_eq_true.1 h2;exact ⟨u,hu,by have:=of_decide_eq_true hr;omega⟩
  ·split at h
   ·rename_i h2
    obtain ⟨u,hu,hr⟩:=List.any_eq_true.1 h2;exact ⟨u,hu,by have:=of_decide_eq_true hr;omega⟩
   ·exact absurd rfl h
 ·rintro ⟨u,hu,hr⟩
  rcases vD es u with h | h | h
  ·exact absurd h hr
  ·split
   ·omega
   ·rw[if_pos (List.any_eq_true.2 ⟨u,hu,decide_eq_true h⟩)];omega
  ·rw[if_pos (List.any_eq_true.2 ⟨u,hu,decide_eq_true h⟩)];omega
theorem vR {es:List En} {ups:List Bs} {k:Nat} {u:Bs} (hu:ups[k]?=some u) (h:dF es u=2):eB es ups=2:=by
 unfold eB;rw[if_pos (List.any_eq_true.2 ⟨u,List.mem_of_getElem? hu,decide_eq_true h⟩)]
theorem nM {α:Type} {l:List α} {k:Nat} {x:α} (h:l[k]?=some x):l.take (k+1)=l.take k ++ [x]:=by rw[List.take_add_one,h];rfl
theorem sK {es:List En} {ups:List Bs} {k:Nat} {u:Bs} (hu:ups[k]?=some u) (h2:eB es (ups.take k)≠2) (h:dF es u≠2):eB es (ups.take (k+1))=if dF es u=1 then 1 else eB es (ups.take k):=by
 rw[nM hu];unfold eB at h2 ⊢;simp only[List.any_append,List.any_cons,List.any_nil,Bool.or_false,h,decide_false];split at h2
 ·exact absurd rfl h2
 ·rename_i h3
  simp only[h3,Bool.false_eq_true,if_false];by_cases h4:dF es u=1
  ·simp[h4]
  ·simp[h4]
theorem rO {es:List En} {ups:List Bs} {k:Nat} {u:Bs} (hu:ups[k]?=some u) (h2:eB es (ups.take k)≠2) (h:dF es u≠2):eB es (ups.take (k+1))≠2:=by
 rw[sK hu h2 h];split
 ·omega
 ·exact h2
theorem tP {es:List En} {p:Bs} (h:aU es) (hp:aF p=0):mZ es p=0:=by
 unfold mZ;rw[if_pos (eX.2 h)];exact hp
end Go.Proofs.YtolnlfnndnpiiaaGreat
