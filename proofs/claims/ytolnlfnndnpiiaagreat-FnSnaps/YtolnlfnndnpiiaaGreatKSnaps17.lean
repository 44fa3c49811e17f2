/-
  Texts put together: SnpC SnqD LayB SnpS AppL SnpH.
-/
import Derived.Test.YtolnlfnndnpiiaaGreatKSnaps15
import Derived.Test.YtolnlfnndnpiiaaGreatKSnaps16
import Derived.Shelf.SlSortCmp.WholeK
import Derived.Ground.SlsfProg
import Derived.Test.YtolnlfnndnpiiaaGreatProg
import Derived.Test.YtolnlfnndnpiiaaGreatKSnaps11
import Derived.Test.YtolnlfnndnpiiaaGreatKSnaps1
import Derived.Maps.AppendAt
import Derived.Test.YtolnlfnndnpiiaaGreatKSnaps12
set_option linter.unusedVariables false
set_option maxHeartbeats 6400000
set_option maxRecDepth 100000
namespace Go.Proofs.YtolnlfnndnpiiaaGreat
open Go.RowKit Go.Maps
attribute [local go_sem ↓] Go.wp_at_zero Go.wp_at_succ
theorem GW.apart {B B' s n:Nat} {t:TypeId} {w w':World} {v v':Value} {es:List En} {xs:List Value} (h:GW B w v es) (hr:w.ownsRow B' t s v' n xs) (h1:t≠50) (h2:t≠2) (hk:aD (fun b=>v'.ownBlock=some b) w w'):GW B w' v es:=by
 obtain ⟨rs,e,g1,g2⟩:=h;exact ⟨rs,e,aL g1 hk (fun b hb hS=>cW hr g1 h1 hS hb),fun r hx=>aL (g2 r hx) hk (fun b hb hS=>cW hr (g2 r hx) h2 hS hb)⟩
def lF (w0 w:World) (g c k:Nat) (l:List Sn):Prop :=
 ∃ rs:List Rs,rs.map Rs.s=l∧w.ownsRow w0.heap.size 37 5 (.slice (some ⟨g,0,none⟩) l.length c) l.length (aS rs)∧(∀ i r,rs[i]?=some r→k≤i→RdE w0 r.a r.s.layer)∧∀ i r,rs[i]?=some r→i<k→GW w0.heap.size w (.slice r.a r.s.layer.length r.c) r.s.layer
theorem lF.below {w0 w w':World} {g c k:Nat} {l:List Sn} (h:lF w0 w g c k l) (hb:Below w.heap.size w w'):lF w0 w' g c k l:=by
 obtain ⟨rs,h1,h2,h3,h4⟩:=h;exact ⟨rs,h1,aI h2 hb,h3,fun i r hr hi=>(h4 i r hr hi).below hb⟩
theorem lF.rd {w0 w:World} {g c k:Nat} {l:List Sn} (h:lF w0 w g c k l) (hb:Below w0.heap.size w0 w):RdS w (some ⟨g,0,none⟩) l:=by
 obtain ⟨rs,h1,h2,h3,h4⟩:=h;refine tV h1 h2 fun r hr=>?_
 obtain ⟨i,hi⟩:=List.mem_iff_getElem?.1 hr;by_cases hk:k≤i
 ·exact (h3 i r hi hk).below hb
 ·exact GW.rd (h4 i r hi (by omega))
def mE (B:Nat) (w:World) (a:Option Addr) (l:List Sn):Prop:=∀ w':World,aD (fun b=>b<B) w w'→RdS w' a l
theorem mE.rd {B:Nat} {w:World} {a:Option Addr} {l:List Sn} (h:mE B w a l):RdS w a l:=h w (aD.refl _ _)
theorem mE.nil (B:Nat) (w:World) (a:Option Addr):mE B w a []:=fun w' _=>RdS.nil _ _
theorem lF.held {w0 w:World} {g c k:Nat} {l:List Sn} (h:lF w0 w g c k l) (hk:l.length≤k):mE w0.heap.size w (some ⟨g,0,none⟩) l:=by
 intro w' hw;obtain ⟨rs,h1,h2,h3,h4⟩:=h;have hl:rs.length=l.length:=by rw[←h1,List.length_map]
 refine tV h1 (aL h2 hw (fun b hb hS=>by have:=(h2.lt b hb).1;omega)) fun r hr=>?_
 obtain ⟨i,hi⟩:=List.mem_iff_getElem?.1 hr;have hi0:=(List.getElem?_eq_some_iff.1 hi).1;exact GW.rd ((h4 i r hi (by omega)).kept hw (fun b hb hS=>by omega))
theorem lF.row {w0 w:World} {g c k K:Nat} {l:List Sn} {s:Sn} (h:lF w0 w g c K l) (hs:l[k]?=some s):∃ rs:List Rs,∃ r:Rs,rs.map Rs.s=l∧rs[k]?=some r∧r.s=s∧w.ownsRow w0.heap.size 37 5 (.slice (some ⟨g,0,none⟩) l.length c) l.length (aS rs)∧(∀ i r,rs[i]?=some r→K≤i→RdE w0 r.a r.s.layer) ∧
  ∀ i r,rs[i]?=some r→i<K→GW w0.heap.size w (.slice r.a r.s.layer.length r.c) r.s.layer:=by
 obtain ⟨rs,h1,h2,h3,h4⟩:=h;have hk:k<l.length:=(List.getElem?_eq_some_iff.1 hs).1;have hl:rs.length=l.length:=by rw[←h1,List.length_map]
 obtain ⟨r,hr⟩:∃ r,rs[k]?=some r:=⟨_,List.getElem?_eq_getElem (by omega)⟩
 refine ⟨rs,r,h1,hr,?_,h2,h3,h4⟩;have:(rs.map Rs.s)[k]?=some r.s:=by rw[List.getElem?_map,hr];rfl
 rw[h1,hs]at this;exact (Option.some.inj this).symm
theorem zy5 {xs:List Value} {j:Nat} {u:Value} (h:xs[j]?=some u):xs.set j u=xs:=by
 apply List.ext_getElem?
 intro i;rw[List.getElem?_set];by_cases hj:j=i
 ·subst hj
  rw[if_pos rfl,if_pos (List.getElem?_eq_some_iff.1 h).1,h]
 ·rw[if_neg hj]
theorem lF.same {w0 w:World} {g c k K q:Nat} {l:List Sn} {s:Sn} {u:Value} (h:lF w0 w g c K l) (hs:l[k]?=some s) (hq:q<4) (hu:(bE ⟨s,none,0⟩)[q]?=some u):lF w0 (w.setCell ⟨g,k * 5+q,none⟩ u) g c K l:=by
 obtain ⟨rs,r,h1,hr,rfl,h2,h3,h4⟩:=h.row hs;have hu2:(aS rs)[k * 5+q]?=some u:=by
  rw[mA rs k q r hr (by omega),←hu]
  match q,hq with
  | 0,_=>rfl
  | 1,_=>rfl
  | 2,_=>rfl
  | 3,_=>rfl
 have s1:=(h2.stored (k * 5+q) u).1;rw[zy5 hu2]at s1;have hkp:aD (fun b=>(Value.slice (some ⟨g,0,none⟩) l.length c).ownBlock=some b) w (w.setCell ⟨g,k * 5+q,none⟩ u):=aD.setCell (S:=fun b=>(Value.slice (some ⟨g,0,none⟩) l.length c).ownBlock=some b) (p:=⟨g,k * 5+q,none⟩) (aD.refl _ _) (fun _=>rfl) _
 exact ⟨rs,h1,s1,h3,fun i r0 hr0 hi=>(h4 i r0 hr0 hi).apart h2 (by decide) (by decide) hkp⟩
theorem zf5:∀ (rs:List Rs) (k:Nat) (r:Rs) (x:Option Addr) (cc:Nat),rs[k]?=some r→(aS rs).set (k * 5+4) (.slice x r.s.layer.length cc)=aS (rs.set k ⟨r.s,x,cc⟩)
 | [],k,r,x,cc,h=>by simp at h
 | y :: rs,0,r,x,cc,h=>by
  simp only[List.getElem?_cons_zero,Option.some.injEq]at h;subst h;simp[aS,bE]
 | y :: rs,k+1,r,x,cc,h=>by
  have:=zf5 rs k r x cc (by simpa using h)
  have e:(k+1) * 5+4=(bE y).length+(k * 5+4):=by simp[bE];omega
  simp only[aS,List.flatMap_cons,List.set_cons_succ]at this ⊢;rw[e,List.set_append_right _ _ (by omega),Nat.add_sub_cancel_left,this]
theorem lF.lay {w0 w:World} {g c k:Nat} {l:List Sn} {s:Sn} {x:Option Addr} {cc:Nat} (h:lF w0 w g c k l) (hs:l[k]?=some s) (hx:GW w0.heap.size w (.slice x s.layer.length cc) s.layer):lF w0 (w.setCell ⟨g,k * 5+4,none⟩ (.slice x s.layer.length cc)) g c (k+1) l:=by
 obtain ⟨rs,r,h1,hr,rfl,h2,h3,h4⟩:=h.row hs;have hk:k<l.length:=(List.getElem?_eq_some_iff.1 hs).1;have s1:=(h2.stored (k * 5+4) (.slice x r.s.layer.length cc)).1;rw[zf5 rs k r x cc hr]at s1;have hkp:aD (fun b=>(Value.slice (some ⟨g,0,none⟩) l.length c).ownBlock=some b) w (w.setCell ⟨g,k * 5+4,none⟩ (.slice x r.s.layer.length cc)):=aD.setCell (S:=fun b=>(Value.slice (some ⟨g,0,none⟩) l.length c).ownBlock=some b) (p:=⟨g,k * 5+4,none⟩) (aD.refl _ _) (fun _=>rfl) _
 refine ⟨rs.set k ⟨r.s,x,cc⟩,?_,s1,fun i r0 hr0 hi=>?_,fun i r0 hr0 hi=>?_⟩
 ·rw[List.map_set,h1]
  apply List.ext_getElem?
  intro j;rw[List.getElem?_set];by_cases hj:k=j
  ·subst hj;rw[if_pos rfl,if_pos hk,hs]
  ·rw[if_neg hj]
 ·rw[List.getElem?_set,if_neg (by omega)]at hr0
  exact h3 i r0 hr0 (by omega)
 ·rw[List.getElem?_set]at hr0
  by_cases hj:k=i
  ·subst hj
   rw[if_pos rfl]at hr0;split at hr0
   ·cases hr0;exact hx.apart h2 (by decide) (by decide) hkp
   ·cases hr0
  ·rw[if_neg hj]at hr0
   exact (h4 i r0 hr0 (by omega)).apart h2 (by decide) (by decide) hkp
theorem zy2 (a:Option Addr) (c n:Nat) (l:List Sn) (w:World) (h:RdS w a l) (hn:n=l.length) (hl:l.length≤1048576) (h0:0<l.length) :
  Calls Tryz.prog 95 #[.slice a n c] w fun r w'=>r=.returned (.slice (some ⟨w.heap.size,0,none⟩) l.length l.length)∧lF w w' w.heap.size l.length 0 l∧Below w.heap.size w w':=by
 subst hn;obtain ⟨i1,ki,kz0,kz1,kz2⟩:=info_parts Tryz.infoSn;obtain ⟨rs,hrs,hrd,hcl⟩:=zy0 h;have hz:l≠[]:=List.length_pos_iff.1 h0;obtain ⟨b,off,rfl,hb,hcl⟩:=hcl hz;have HC:Hid (∀ W:World,Below w.heap.size w W→aS rs≠[]→∃ ad,some (⟨b,off,none⟩:Addr)=some ad∧∀ (j:Nat) u,(aS rs)[j]?=some u→W.cell? (ad.add j)=some u):=aA fun W hW _=>⟨⟨b,off,none⟩,rfl,fun j u hu=>by rw[eY,hW.cell (p:=⟨b,off+j,none⟩) hb];exact hcl j u hu⟩
 have HV1:=aA (dP rs);have HRS:=aA hrs;have HRD:=aA hrd;have hby:i1.bytes * l.length≤281474976710656:=by rw[kz2];omega
 have hml:l.length≤maxLen:=by unfold maxLen;omega
 have HVN:=aA (show (aS rs).length=l.length * 5 by rw[dJ,←hrs,List.length_map])
 have HD:=aA (show (madeCells (Value.agg #[.string ⟨#[]⟩,.string ⟨#[]⟩,.int .i64 0,.bool false,.slice none 0 0]).cells (l.length * 5)).toList.drop (l.length * 5)=[] from xE _ _)
 have HFIN:=aA (show ∀ W:World,W.ownsRow w.heap.size 37 5 (.slice (some ⟨w.heap.size,0,none⟩) l.length l.length) l.length (aS rs)→lF w W w.heap.size l.length 0 l from fun W hW=>⟨rs,hrs,hW,fun i r hr _=>hrd r (List.mem_of_getElem? hr),fun i r hr hi=>absurd hi (Nat.not_lt_zero _)⟩)
 clear h hcl hrs hrd hz;generalize hNN:l.length=N at *;have hne:((N:Int)==0)=false:=by simp;omega
 clear hNN;go_enter Tryz.func95,Tryz.ntmps95;go_wp2_with (first
  | (at_make;refine wpList_make_full _ rfl (.tmp 8) (.tmp 8) 24 rfl w.heap.size 37 i1 (.agg #[.string ⟨#[]⟩,.string ⟨#[]⟩,.int .i64 0,.bool false,.slice none 0 0]) 5 Tryz.underlying24 ki kz0 kz1 .i64 .i64 _ _ N rfl rfl (by simp) (by simp) hby hml (Nat.le_refl _) ?_;intro w1 ho1 hg1;have O1:=aA ho1;have B1:=aA (sH hg1);clear ho1 hg1)
  | (refine lC rfl (.tmp 10) (.tmp 11) 24 rfl w.heap.size 37 i1 5 Tryz.underlying24 ki kz1 (by decide) w.heap.size N N _ rfl O1.out (some ⟨b,off,none⟩) N c (aS rs) rfl (Nat.le_refl _) HVN.out (HC.out w1 B1.out) HV1.out ?_;rw[HD.out,List.append_nil];intro w2 ho2 hk2;have O2:=aA ho2;have B2:=aA (B1.out.trans (hk2.below (B:=w.heap.size) B1.out.size (fun b hb e=>by omega)));clear ho2 hk2))
 go_ret
 exact ⟨rfl,HFIN.out _ O2.out,B2.out⟩
theorem zz2 (c:Nat) (a:Option Addr) (w:World) :
  Calls Tryz.prog 95 #[.slice a 0 c] w fun r w'=>r=.returned (.slice none 0 0)∧w'=w:=by
 go_enter Tryz.func95,Tryz.ntmps95;go_wp2_with fail
 go_ret
 exact ⟨rfl,rfl⟩
theorem nT (a:Option Addr) (c n:Nat) (l:List Sn) (w:World) (h:RdS w a l) (hn:n=l.length) (hl:l.length≤1048576) (hs:cD l) :
  Calls Tryz.prog 57 #[.slice a n c] w fun r w'=>∃ av cv,r=.returned (.slice av l.length cv)∧mE w.heap.size w' av l∧Below w.heap.size w w':=by
 subst hn;have HS:=aA hs;by_cases hz:l=[]
 ·subst hz
  go_enter Tryz.func57,Tryz.ntmps57;go_wp2_with fail
  refine (zz2 _ _ _).mono ?_;rintro r w1 ⟨rfl,rfl⟩;go_wp2_with fail
  go_loopw [10] (fun i wr=>i=.int .i64 0∧wr=w1) (fun _ _=>0)
  case atStart=>exact ⟨rfl,rfl⟩
  case round =>
   obtain ⟨rfl,hw9⟩:=hrel;subst hw9;go_wp2_with fail
   go_ret
   exact ⟨none,0,rfl,mE.nil _ _ _,Below.refl _ _⟩
 ·have h0:0<l.length:=List.length_pos_iff.2 hz
  have HCR:=aA (zy2 a c l.length l w h rfl hl h0);clear h hz hs;go_enter Tryz.func57,Tryz.ntmps57;go_wp2_with fail
  refine HCR.out.mono ?_;rintro r w1 ⟨rfl,hR1,hb1⟩;have B1:=aA hb1;have R1:=aA hR1;have hg1:w.heap.size<w1.heap.size:=by obtain ⟨rs,-,h2,-⟩:=hR1;exact (h2.lt w.heap.size rfl).2
  clear hR1 hb1 HCR;go_wp2_with fail
  go_loopw [10] (fun i wr=>∃ k:Nat,k≤l.length∧i=.int .i64 k∧Hid (lF w wr w.heap.size l.length k l)∧Hid (Below w.heap.size w wr)∧w.heap.size<wr.heap.size) (fun i _=>l.length - (intOf i).toNat)
  case atStart=>exact ⟨0,Nat.zero_le _,rfl,R1,B1,hg1⟩
  case round =>
   obtain ⟨k,hk,rfl,HX,HW,hgw⟩:=hrel;by_cases hlt:k<l.length
   ·obtain ⟨b,off,s,x,cc,hbb,hb,hsl,c0,c1,c2,c3,c4,hr⟩:=(HX.out.rd HW.out).at hlt
    simp only[Option.some.injEq,Addr.mk.injEq,and_true]at hbb;obtain ⟨rfl,rfl⟩:=hbb;rw[Nat.zero_add]at c0 c1 c2 c3 c4;have hsm:=HS.out.2 s (List.mem_of_getElem? hsl);have hsm1:=hsm.1;have hsm2:=hsm.2.1;have hsm3:=hsm.2.2.1;have HSE:=aA hsm.2.2.2;have HE:=aA hsl;have hk0:(0:Int)≤(k:Int):=by omega
    have hk1:(k:Int)<(l.length:Int):=by omega
    have BA:=aA (aC wr (.cells #[.string (str s.name),.string (str s.parent),.int .i64 s.kind,.bool s.lease,.slice x s.layer.length cc] 37));have FE:=aA (dE.new wr (.string (str s.name)) (.string (str s.parent)) (.int .i64 s.kind) (.bool s.lease) (.slice x s.layer.length cc) 37);have HRL:Hid (RdE w x s.layer):=aA (by
     obtain ⟨rs,r,q1,q2,q3,q4,q5,-⟩:=HX.out.row hsl;have hg:=(q4.cellAt (k * 5+4) (by omega)).trans (mA rs k 4 r q2 (by decide))
     rw[c4]at hg;simp only[bE,List.getElem?_cons_succ,List.getElem?_cons_zero,Option.some.injEq,Value.slice.injEq]at hg
     have:=q5 k r q2 (Nat.le_refl _);rw[q3]at this;rw[hg.1];exact this)
    clear hsl hr hsm;go_wp2_with fail
    have HX1:=aA (HX.out.below BA.out);generalize hWE:wr.alloc (.cells #[.string (str s.name),.string (str s.parent),.int .i64 s.kind,.bool s.lease,.slice x s.layer.length cc] 37)=WE at *;have hsE:wr.heap.size<WE.heap.size:=FE.out.lt;have hne:w.heap.size≠wr.heap.size:=by omega
    have hgE:w.heap.size<WE.heap.size:=by omega
    clear hWE c0 c1 c2 c3 c4;refine (pR (str s.name) _ (by rw[aK];omega)).mono ?_
    rintro r w2 ⟨rfl,hb2⟩;have X2:=aA (HX1.out.below hb2);have FE2:=aA (FE.out.below hb2);have BB2:=aA (aB HW.out (aB BA.out hb2));have hs2:=hb2.size;have fz0:w2.frozen? ⟨w.heap.size,k * 5,none⟩=false:=by obtain ⟨rs,-,h2,-⟩:=X2.out;exact h2.frozenAt _
    obtain ⟨b,off,s',x',cc',hbb,hb',he',d0,d1,d2,d3,d4,-⟩:=(X2.out.rd BB2.out).at hlt;simp only[Option.some.injEq,Addr.mk.injEq,and_true]at hbb;obtain ⟨rfl,rfl⟩:=hbb;rw[Nat.zero_add]at d0;have X3:=aA (X2.out.same (q:=0) HE.out (by decide) (u:=.string (str s.name)) rfl)
    rw[Nat.add_zero]at X3;have FE3:=aA (FE2.out.kept (aD.setCell (S:=fun b=>b=w.heap.size) (p:=⟨w.heap.size,k * 5,none⟩) (aD.refl _ w2) (fun _=>rfl) (.string (str s.name))) (fun e=>hne e.symm))
    have BB3:=aA (BB2.out.setCell (p:=⟨w.heap.size,k * 5,none⟩) (Nat.le_refl _) (.string (str s.name)));have hS3:(w2.setCell ⟨w.heap.size,k * 5,none⟩ (.string (str s.name))).heap.size=w2.heap.size:=by simp[World.setCell]
    obtain ⟨e0,e1,e2,e3,e4⟩:=FE3.out;clear hb2 d1 d2 d3 d4 he';go_wp2_with fail
    clear e0 e1 e2 e3 e4 d0 fz0;generalize w2.setCell ⟨w.heap.size,k * 5,none⟩ (.string (str s.name))=W3 at *;refine (pR (str s.parent) _ (by rw[aK];omega)).mono ?_
    rintro r w4 ⟨rfl,hb4⟩;have X4:=aA (X3.out.below hb4);have FE4:=aA (FE3.out.below hb4);have BB4:=aA (aB BB3.out hb4);have hs4:=hb4.size;have fz0:w4.frozen? ⟨w.heap.size,k * 5+1,none⟩=false:=by obtain ⟨rs,-,h2,-⟩:=X4.out;exact h2.frozenAt _
    obtain ⟨b,off,s',x',cc',hbb,hb',he',d0,d1,d2,d3,d4,-⟩:=(X4.out.rd BB4.out).at hlt;simp only[Option.some.injEq,Addr.mk.injEq,and_true]at hbb;obtain ⟨rfl,rfl⟩:=hbb;rw[Nat.zero_add]at d1;have X5:=aA (X4.out.same (q:=1) HE.out (by decide) (u:=.string (str s.parent)) rfl)
    have FE5:=aA (FE4.out.kept (aD.setCell (S:=fun b=>b=w.heap.size) (p:=⟨w.heap.size,k * 5+1,none⟩) (aD.refl _ w4) (fun _=>rfl) (.string (str s.parent))) (fun e=>hne e.symm))
    have BB5:=aA (BB4.out.setCell (p:=⟨w.heap.size,k * 5+1,none⟩) (Nat.le_refl _) (.string (str s.parent)));have hS5:(w4.setCell ⟨w.heap.size,k * 5+1,none⟩ (.string (str s.parent))).heap.size=w4.heap.size:=by simp[World.setCell]
    obtain ⟨e0,e1,e2,e3,e4⟩:=FE5.out;clear hb4 d0 d2 d3 d4 he';go_wp2_with fail
    clear e0 e1 e2 e3 e4 d1 fz0;generalize w4.setCell ⟨w.heap.size,k * 5+1,none⟩ (.string (str s.parent))=W5 at *;refine (mJ x cc s.layer.length s.layer W5 (HRL.out.below BB5.out) rfl hsm3 HSE.out).mono ?_;rintro r w6 ⟨av,cv,rfl,hG6,hb6⟩;have X6:=aA (X5.out.below hb6);have BB6:=aA (aB BB5.out hb6);have G6:=aA hG6;have hs6:=hb6.size;have fz0:w6.frozen? ⟨w.heap.size,k * 5+4,none⟩=false:=by obtain ⟨rs,-,h2,-⟩:=X6.out;exact h2.frozenAt _
    obtain ⟨b,off,s',x',cc',hbb,hb',he',d0,d1,d2,d3,d4,-⟩:=(X6.out.rd BB6.out).at hlt;simp only[Option.some.injEq,Addr.mk.injEq,and_true]at hbb;obtain ⟨rfl,rfl⟩:=hbb;rw[Nat.zero_add]at d4;clear hG6 hb6 d0 d1 d2 d3 he';go_wp2_with fail
    go_roundw
    case rel =>
     refine ⟨k+1,by omega,by go_num,aA ?_,aA ?_,?_⟩
     ·exact X6.out.lay HE.out (G6.out.mono (by omega))
     ·exact BB6.out.setCell (p:=⟨w.heap.size,k * 5+4,none⟩) (Nat.le_refl _) _
     ·simp[World.setCell];omega
    case measure=>simp[intOf];omega
   ·have HRD:=aA (HX.out.held (by omega))
    go_wp2_with fail
    go_ret
    exact ⟨some ⟨w.heap.size,0,none⟩,l.length,rfl,HRD.out,HW.out⟩
def GS (B:Nat) (w:World) (v:Value) (l:List Sn):Prop :=
 ∃ rs:List Rs,rs.map Rs.s=l∧w.ownsRow B 37 5 v l.length (aS rs)∧∀ r∈rs,GW B w (.slice r.a r.s.layer.length r.c) r.s.layer
theorem GS.shape {B:Nat} {w:World} {v:Value} {l:List Sn} (h:GS B w v l):∃ a c,v=.slice a l.length c:=by
 obtain ⟨rs,_,h1,_⟩:=h;exact bH h1
theorem GS.made (w:World):GS w.heap.size (w.alloc (.cells #[] 37)) (.slice (some ⟨w.heap.size,0,none⟩) 0 0) [] :=
 ⟨[],rfl,World.ownsRow_made w #[] 0 (Nat.le_refl _) (Nat.zero_le _) rfl,fun r hr=>by simp at hr⟩
theorem GS.kept {S:Nat→Prop} {B:Nat} {w w':World} {v:Value} {l:List Sn} (h:GS B w v l) (hk:aD S w w') (hS:∀ b,B≤b→¬ S b):GS B w' v l:=by
 obtain ⟨rs,h1,h2,h3⟩:=h;exact ⟨rs,h1,aL h2 hk (fun b hb hs=>hS b (h2.lt b hb).1 hs),fun r hr=>(h3 r hr).kept hk hS⟩
theorem GS.below {B:Nat} {w w':World} {v:Value} {l:List Sn} (h:GS B w v l) (hk:Below w.heap.size w w'):GS B w' v l:=h.kept (S:=fun _=>False) (aD.of_below hk) (fun _ _=>id)
theorem GS.mono {B B':Nat} {w:World} {v:Value} {l:List Sn} (h:GS B w v l) (hb:B'≤B):GS B' w v l:=by
 obtain ⟨rs,h1,h2,h3⟩:=h;exact ⟨rs,h1,bF h2 hb,fun r hr=>(h3 r hr).mono hb⟩
theorem GS.rd {B:Nat} {w:World} {a:Option Addr} {n c:Nat} {l:List Sn} (h:GS B w (.slice a n c) l):RdS w a l:=by
 obtain ⟨rs,h1,h2,h3⟩:=h;exact tV h1 h2 (fun r hr=>GW.rd (h3 r hr))
theorem GS.later {S:Nat→Prop} {B:Nat} {w w' w2:World} {v:Value} {l:List Sn} (h:GS B w v l) (hb:Below w.heap.size w w') (hk:aD S w' w2) (hS:∀ b,S b→w.heap.size≤b):GS B w2 v l:=by
 obtain ⟨rs,h1,h2,h3⟩:=h;have key:∀ {e:TypeId} {s n:Nat} {u:Value} {xs:List Value},w.ownsRow B e s u n xs→w2.ownsRow B e s u n xs:=fun ho =>
  aL (aI ho hb) hk (fun b hbb hs=>by have h8:=(ho.lt b hbb).2;have h9:=hS b hs;omega)
 refine ⟨rs,h1,key h2,fun r hr=>?_⟩
 obtain ⟨qs,e,g1,g2⟩:=h3 r hr;exact ⟨qs,e,key g1,fun q hq=>key (g2 q hq)⟩
theorem GS.push {B:Nat} {w w2:World} {v v':Value} {l:List Sn} {rs:List Rs} {s:Sn} {a:Option Addr} {c m:Nat} (he:rs.map Rs.s=l) (hm:m=l.length) (h1:w.ownsRow B 37 5 v m (aS rs)) (h2:∀ r∈rs,GW B w (.slice r.a r.s.layer.length r.c) r.s.layer) (hG:GW B w (.slice a s.layer.length c) s.layer)
  (hv':w2.ownsRow B 37 5 v' (m+1) (aS rs++bE ⟨s,a,c⟩)) (hk:aD (fun b=>v.ownBlock=some b) w w2):GS B w2 v' (l ++ [s]):=by
 subst hm;refine ⟨rs ++ [⟨s,a,c⟩],by rw[List.map_append,he];rfl,?_,fun r hx=>?_⟩
 ·rw[mR,List.length_append]
  simpa [aS] using hv'
 ·rcases List.mem_append.1 hx with hx | hx
  ·exact (h2 r hx).apart h1 (by decide) (by decide) hk
  ·simp only[List.mem_singleton]at hx
   subst hx;exact hG.apart h1 (by decide) (by decide) hk
theorem dE.set4' {w:World} {b:Nat} {u0 u1 u2 u3 u4:Value} (h:dE w b u0 u1 u2 u3 u4) (v:Value):dE (w.setCell ⟨b,4,none⟩ v) b u0 u1 u2 u3 v:=by
 have ne:∀ j:Nat,4≠j→(⟨b,4,none⟩:Addr)≠⟨b,j,none⟩:=fun j hij e=>hij (by injection e)
 obtain ⟨h0,h1,h2,h3,h4⟩:=h;exact ⟨(aM (ne 0 (by decide))).trans h0,(aM (ne 1 (by decide))).trans h1,(aM (ne 2 (by decide))).trans h2,(aM (ne 3 (by decide))).trans h3,dG h4⟩
theorem eD (a:Option Addr) (c n:Nat) (l:List Sn) (w:World) (h:RdS w a l) (hn:n=l.length) (hl:l.length≤1048576) (hs:cD l) :
  Calls Tryz.prog 72 #[.slice a n c] w fun r w'=>∃ av cv,r=.returned (.slice av l.length cv)∧GS w.heap.size w' (.slice av l.length cv) l∧Below w.heap.size w w':=by
 subst hn;obtain ⟨i1,ki,kz0,kz1,kz2⟩:=info_parts Tryz.infoSn;have HA:=aA h;have HS:=aA hs;clear h hs;go_enter Tryz.func72,Tryz.ntmps72;go_wp2_with fail
 go_loopw [3,4] (fun v i wr=>∃ j:Nat,j≤l.length∧i=.int .i64 j∧Hid (GS w.heap.size wr v (l.take j))∧Hid (Below w.heap.size w wr)) (fun _ i _=>l.length - (intOf i).toNat)
 case atStart=>exact ⟨0,Nat.zero_le _,rfl,aA (GS.made w),aA (aC _ _)⟩
 case round =>
  obtain ⟨j,hj,rfl,HG,HW⟩:=hrel;obtain ⟨lv,lc,hv⟩:=HG.out.shape;rw[gP hj]at hv;subst hv;have hsz:=HW.out.size;by_cases hlt:j<l.length
  ·obtain ⟨b,off,s,x,cc,rfl,hb,hsl,c0,c1,c2,c3,c4,hr⟩:=(HA.out.below HW.out).at hlt
   have HX:=aA hsl;have hsm:=HS.out.2 s (List.mem_of_getElem? hsl);have hs3:=hsm.2.2.1;have HSE:=aA hsm.2.2.2;have BA:=aA (aC wr (.cells #[.string (str s.name),.string (str s.parent),.int .i64 s.kind,.bool s.lease,.slice x s.layer.length cc] 37));have XE:=aA (jB.new wr (.string (str s.name)) (.string (str s.parent)) (.int .i64 s.kind) (.bool s.lease) (.slice x s.layer.length cc) 37);have HRL:=aA (hr.below BA.out);clear hsl hr hsm;go_wp2_with fail
   clear c0 c1 c2 c3 c4;have HG1:=aA (HG.out.below BA.out);have hsz1:(wr.alloc (.cells #[.string (str s.name),.string (str s.parent),.int .i64 s.kind,.bool s.lease,.slice x s.layer.length cc] 37)).heap.size=wr.heap.size+1:=by simp
   generalize wr.alloc (.cells #[.string (str s.name),.string (str s.parent),.int .i64 s.kind,.bool s.lease,.slice x s.layer.length cc] 37)=WE at *;refine (jF x cc s.layer.length s.layer WE HRL.out rfl hs3 HSE.out).mono ?_;rintro r w2 ⟨g2,cv2,rfl,-,hG2,hb2⟩;have B2:=aA (aB BA.out hb2);have G2:=aA (GW.of hG2);have HG2:=aA (HG1.out.below hb2);have XE2:=aA (XE.out.below hb2);have hs2:=hb2.size;obtain ⟨⟨e0,e1,e2,e3,e4⟩,ef⟩:=XE2.out;have ef4:=ef 4;clear hG2 hb2 ef;have KS:=aA (aD.setCell (S:=fun q=>q=wr.heap.size) (p:=⟨wr.heap.size,4,none⟩) (aD.refl _ w2) (fun _=>rfl) (.slice (some ⟨g2,0,none⟩) s.layer.length cv2))
   have FS:Hid (dE (w2.setCell ⟨wr.heap.size,4,none⟩ (.slice (some ⟨g2,0,none⟩) s.layer.length cv2)) wr.heap.size (.string (str s.name)) (.string (str s.parent)) (.int .i64 s.kind) (.bool s.lease) (.slice (some ⟨g2,0,none⟩) s.layer.length cv2)):=aA (dE.set4' XE2.out.1 _);have GY:=aA (HG.out.later B2.out KS.out (fun q e=>by omega))
   have LY:=aA (G2.out.kept KS.out (fun q hq e=>by omega))
   have BY:=aA ((aB HW.out B2.out).setCell (p:=⟨wr.heap.size,4,none⟩) (by show w.heap.size≤wr.heap.size;omega) (.slice (some ⟨g2,0,none⟩) s.layer.length cv2))
   have hsY:=KS.out.size;have hm1:j+1≤maxLen:=by unfold maxLen;omega
   have hm1':(j+1) * 72≤140737488355328:=by omega
   obtain ⟨f0,f1,f2,f3,f4⟩:=FS.out;obtain ⟨rs,q1,q2,q3⟩:=GY.out;rw[gP hj]at q2;have Q1:=aA q1;have Q2:=aA q2;have Q3:=aA q3;have HJ:=aA (gP hj);clear q1 q2 q3 HG HG1 HG2 KS GY;have HYS:=aA (show w2.heap.size=(w2.setCell ⟨wr.heap.size,4,none⟩ (.slice (some ⟨g2,0,none⟩) s.layer.length cv2)).heap.size by simp[World.setCell])
   go_wp2_with (at_builtin;generalize w2.setCell ⟨wr.heap.size,4,none⟩ (.slice (some ⟨g2,0,none⟩) s.layer.length cv2)=Y at *;rw[HYS.out];refine dB rfl (.tmp 21) (.tmp 23) 24 rfl w.heap.size 37 i1 (.agg #[.string ⟨#[]⟩,.string ⟨#[]⟩,.int .i64 0,.bool false,.slice none 0 0]) 5 72 Tryz.underlying24 ki kz0 kz1 kz2 rfl (by decide) _ _ _ rfl Q2.out _ rfl rfl rfl (by intro u hu;simp at hu;rcases hu with rfl | rfl | rfl | rfl | rfl <;> rfl) hm1 hm1' (by omega) ?_;intro av6 cv6 w6 hown6 hk6;have O6:=aA hown6;have K6:=aA hk6;clear hown6 hk6)
   go_roundw
   case rel =>
    refine ⟨j+1,by omega,by go_num,aA ?_,aA ?_⟩
    ·rw[bY HX.out]
     exact GS.push (s:=s) (a:=some ⟨g2,0,none⟩) (c:=cv2) Q1.out HJ.out.symm Q2.out Q3.out (LY.out.mono (by omega)) O6.out K6.out
    ·exact BY.out.trans (K6.out.below (by omega) (fun q hq hS=>by have:=(Q2.out.lt q hS).1;omega))
   case measure=>simp[intOf];omega
  ·have hje:j=l.length:=by omega
   have HE:=aA (show l.take j=l from List.take_of_length_le (by omega))
   have HG2:Hid (GS w.heap.size wr (.slice lv j lc) l):=by have:=HG.out;rw[HE.out]at this;exact this
   clear HG HE;subst hje;go_wp2_with fail
   go_ret
   exact ⟨lv,lc,rfl,HG2.out,HW.out⟩
end Go.Proofs.YtolnlfnndnpiiaaGreat
namespace Go.Proofs.YtolnlfnndnpiiaaGreat
open Go.RowKit Go.Sort Go.Shelf
def Tryz.sortN_ren:Go.Shelf.Ren:=⟨fun | 6=>113 | 15=>157 | 14=>156 | 28=>211 | 29=>212 | 20=>203 | 21=>204 | 22=>205 | 23=>206 | 24=>207 | 25=>208 | 26=>209 | 27=>210 | 46=>243 | 47=>244 | 48=>245 | 49=>246 | 50=>247 | 57=>260 | n=>n,fun | 22=>24 | 24=>37 | 25=>140 | 3=>3 | 39=>175 | 0=>0 | 53=>218 | 55=>220 | 4=>4 | 46=>211 | 45=>210 | 50=>215 | 5=>5 | 9=>9 | 66=>241 | 70=>245 | 76=>253 | 77=>254 | n=>n,fun | n=>n⟩
theorem Tryz.sortN:Go.Proofs.SlLaysF0.n6 Tryz.prog Tryz.sortN_ren:={
 mixed:=by kernel_rfl
 f6:=⟨Tryz.f113.name,by decide,Tryz.func113.trans (congrArg some (by kernel_rfl))⟩
 f14:=⟨Tryz.f156.name,by decide,Tryz.func156.trans (congrArg some (by kernel_rfl))⟩
 f15:=Tryz.func157.trans (congrArg some (by kernel_rfl))
 f20:=⟨Tryz.f203.name,by decide,Tryz.func203.trans (congrArg some (by kernel_rfl))⟩
 f21:=⟨Tryz.f204.name,by decide,Tryz.func204.trans (congrArg some (by kernel_rfl))⟩
 f22:=⟨Tryz.f205.name,by decide,Tryz.func205.trans (congrArg some (by kernel_rfl))⟩
 f23:=⟨Tryz.f206.name,by decide,Tryz.func206.trans (congrArg some (by kernel_rfl))⟩
 f24:=⟨Tryz.f207.name,by decide,Tryz.func207.trans (congrArg some (by kernel_rfl))⟩
 f25:=⟨Tryz.f208.name,by decide,Tryz.func208.trans (congrArg some (by kernel_rfl))⟩
 f26:=⟨Tryz.f209.name,by decide,Tryz.func209.trans (congrArg some (by kernel_rfl))⟩
 f27:=⟨Tryz.f210.name,by decide,Tryz.func210.trans (congrArg some (by kernel_rfl))⟩
 f28:=Tryz.func211.trans (congrArg some (by kernel_rfl))
 f29:=Tryz.func212.trans (congrArg some (by kernel_rfl))
 f46:=⟨Tryz.f243.name,by decide,Tryz.func243.trans (congrArg some (by kernel_rfl))⟩
 f47:=Tryz.func244.trans (congrArg some (by kernel_rfl))
 f48:=Tryz.func245.trans (congrArg some (by kernel_rfl))
 f49:=⟨Tryz.f246.name,by decide,Tryz.func246.trans (congrArg some (by kernel_rfl))⟩
 f50:=⟨Tryz.f247.name,by decide,Tryz.func247.trans (congrArg some (by kernel_rfl))⟩
 f57:=⟨Tryz.f260.name,by decide,Tryz.func260.trans (congrArg some (by kernel_rfl))⟩
 t0:=Tryz.underlying0
 a0:=Tryz.isAgg0
 z0:=Tryz.sizeOf0
 v0:=Tryz.zeroValue0
 t3:=Tryz.underlying3
 a3:=Tryz.isAgg3
 z3:=Tryz.sizeOf3
 v3:=Tryz.zeroValue3
 t4:=Tryz.underlying4
 a4:=Tryz.isAgg4
 z4:=Tryz.sizeOf4
 v4:=Tryz.zeroValue4
 t5:=Tryz.underlying5
 a5:=Tryz.isAgg5
 z5:=Tryz.sizeOf5
 v5:=Tryz.zeroValue5
 t9:=Tryz.underlying9
 a9:=Tryz.isAgg9
 z9:=Tryz.sizeOf9
 v9:=Tryz.zeroValue9
 t22:=Tryz.underlying24
 a22:=Tryz.isAgg24
 z22:=Tryz.sizeOf24
 v22:=Tryz.zeroValue24
 t25:=Tryz.underlying140
 a25:=Tryz.isAgg140
 z25:=Tryz.sizeOf140
 v25:=Tryz.zeroValue140
 t39:=Tryz.underlying175
 a39:=Tryz.isAgg175
 z39:=Tryz.sizeOf175
 v39:=Tryz.zeroValue175
 t45:=Tryz.underlying210
 a45:=Tryz.isAgg210
 z45:=Tryz.sizeOf210
 v45:=Tryz.zeroValue210
 t46:=Tryz.underlying211
 a46:=Tryz.isAgg211
 z46:=Tryz.sizeOf211
 v46:=Tryz.zeroValue211
 t50:=Tryz.underlying215
 a50:=Tryz.isAgg215
 z50:=Tryz.sizeOf215
 v50:=Tryz.zeroValue215
 t53:=Tryz.underlying218
 a53:=Tryz.isAgg218
 z53:=Tryz.sizeOf218
 v53:=Tryz.zeroValue218
 t55:=Tryz.underlying220
 a55:=Tryz.isAgg220
 z55:=Tryz.sizeOf220
 v55:=Tryz.zeroValue220
 t66:=Tryz.underlying241
 a66:=Tryz.isAgg241
 z66:=Tryz.sizeOf241
 v66:=Tryz.zeroValue241
 t70:=Tryz.underlying245
 a70:=Tryz.isAgg245
 z70:=Tryz.sizeOf245
 v70:=Tryz.zeroValue245
 t76:=Tryz.underlying253
 a76:=Tryz.isAgg253
 z76:=Tryz.sizeOf253
 v76:=Tryz.zeroValue253
 t77:=Tryz.underlying254
 a77:=Tryz.isAgg254
 z77:=Tryz.sizeOf254
 v77:=Tryz.zeroValue254 }
end Go.Proofs.YtolnlfnndnpiiaaGreat
namespace Go.Proofs.YtolnlfnndnpiiaaGreat
open Go.RowKit Go.Sort
theorem zg9 (x y:Rs) (W:World):Calls Tryz.prog 114 #[.agg (bE x).toArray,.agg (bE y).toArray] W fun e w'=>e=.returned (.int .i64 (gJ x.s.name y.s.name))∧∃ q os',w'=grow (W.drewN q) os':=by
 have hcon:=fun W'=>zI x.s.name y.s.name W'
 generalize gJ x.s.name y.s.name=r at hcon ⊢;show Calls Tryz.prog 114 #[.agg #[.string (str x.s.name),.string (str x.s.parent),.int .i64 x.s.kind,.bool x.s.lease,.slice x.a x.s.layer.length x.c],.agg #[.string (str y.s.name),.string (str y.s.parent),.int .i64 y.s.kind,.bool y.s.lease,.slice y.a y.s.layer.length y.c]] W _
 go_enter Tryz.func114,Tryz.ntmps114;go_wp2_with (go_at_call 115;refine (hcon _).mono ?_;rintro e w' ⟨rfl,rfl⟩)
 go_ret
 exact ⟨rfl,0,_,by rw[alloc_eq_grow,alloc_eq_grow,grow_grow];rfl⟩
theorem vU:∀ {l1 l2:List Rs},l1.Perm l2→l1.Pairwise (fun x y=>Op.bytesLess x.s.name y.s.name=true)→l2.Pairwise (fun x y=>Op.bytesLess x.s.name y.s.name=true)→l1=l2
 | [],l2,hp,_,_=>hp.symm.eq_nil.symm
 | a :: l1,[],hp,_,_=>by have:=hp.length_eq;simp at this
 | a :: l1,b :: l2,hp,h1,h2=>by
  have p1:=List.pairwise_cons.1 h1;have p2:=List.pairwise_cons.1 h2;have hab:a=b:=by
   have ha:a∈b :: l2:=hp.subset List.mem_cons_self;have hb:b∈a :: l1:=hp.symm.subset List.mem_cons_self;rcases List.mem_cons.1 ha with h | ha
   ·exact h
   ·rcases List.mem_cons.1 hb with h | hb
    ·exact h.symm
    ·have q1:=p2.1 a ha
     have q2:=p1.1 b hb;rw[iB q1]at q2;cases q2
  subst hab;rw[vU (List.Perm.cons_inv hp) p1.2 p2.2]
theorem zol:SWO (ltOf fun x y:Rs=>gJ x.s.name y.s.name):=by
 have e:∀ x y:Rs,ltOf (fun x y:Rs=>gJ x.s.name y.s.name) x y=Op.bytesLess x.s.name y.s.name:=fun x y=>qZ _ _
 refine ⟨fun x=>by rw[e,gC],fun x y z=>by rw[e,e,e];exact gI _ _ _,fun x y z=>?_⟩
 rw[e,e,e];intro h1 h2;cases h3:Op.bytesLess x.s.name z.s.name
 ·rfl
 ·by_cases h4:y.s.name=z.s.name
  ·rw[h4]at h1;rw[h1]at h3;cases h3
  ·have:=gI _ _ _ h3 (fR _ _ h2 h4)
   rw[h1]at this;cases this
theorem zf6 (B g n c:Nat) (rs ss:List Rs) (w:World) (h:w.ownsRow B 37 5 (.slice (some ⟨g,0,none⟩) n c) n (aS rs)) (hn:n=rs.length) (h12:n≤1048577) (hp:ss.Perm rs) (hs:ss.Pairwise (fun x y=>Op.bytesLess x.s.name y.s.name=true)) :
  Calls Tryz.prog 113 #[.slice (some ⟨g,0,none⟩) n c,.func (.func 114) #[] #[]] w fun e w'=>e=.returned (.tuple #[])∧(∀ i q r,ss[i]?=some r→q<5→w'.cell? ⟨g,i * 5+q,none⟩=(bE r)[q]?)∧aD (fun b=>b=g) w w':=by
 subst hn;haveI:Inhabited Rs:=⟨⟨⟨[],[],0,false,[]⟩,none,0⟩⟩;have hg:=(h.lt g rfl).2;have hH:HoldsK bE 5 w g 0 rs.toArray:=by
  intro j hj;rw[size_flatK]at hj;have hj5:j<rs.length * 5:=by simpa using hj
  have h1:j / 5<rs.length:=by omega
  obtain ⟨r,hr⟩:∃ r,rs[j / 5]?=some r:=⟨_,List.getElem?_eq_getElem h1⟩;have hc:=(h.cellAt (j / 5 * 5+j % 5) (by omega)).trans (mA rs (j / 5) (j % 5) _ hr (by omega))
  rw[show j / 5 * 5+j % 5=j by omega]at hc
  refine ⟨?_,h.frozenAt _⟩;rw[Nat.zero_add,hc,get_flatK _ _ _ _ hj];have e1:rs.toArray[j / 5]! = r:=by
   have:=List.getElem?_eq_some_iff.1 hr;simp[h1,this.2]
  rw[e1];have hl:j % 5<(bE r).length:=by show j % 5<5;omega
  simp only[id];rw[List.getElem?_eq_getElem hl,getElem!_pos (bE r) (j % 5) hl]
 have eg:∀ args w,(callFunc 114 args).run Tryz.prog w=.ok (.enter 114 args) w:=enters_of Tryz.func114 (by kernel_rfl) rfl
 have hcon:=AnyQ.slices_SortFunc Tryz.sortN 5 Tryz.isAgg37 Tryz.sizeOf37 bE (fun _=>rfl) (fun x v hv=>dP [x] v (by simpa [aS] using hv)) (fun x y=>gJ x.s.name y.s.name) zol 114 #[] g 0 c rs.toArray w eg (fun _ _ _ _ x y=>zg9 x y _) hH hg (by have h2:=h12;simpa using (by omega:rs.length<4611686018427387904))
 refine (show Calls Tryz.prog 113 #[.slice (some ⟨g,0,none⟩) rs.length c,.func (.func 114) #[] #[]] w _ from hcon).mono ?_
 rintro e w' ⟨he,d',m,os,hperm,hsort,rfl⟩;obtain ⟨hsz,_,hpm⟩:=hperm;have hsz':d'.size=rs.length:=by simpa using hsz
 have hpm':d'.toList.Perm rs:=by
  have e1:(d'.extract 0 rs.toArray.size).toList=d'.toList:=by simp[←hsz']
  have e2:(rs.toArray.extract 0 rs.toArray.size).toList=rs:=by simp
  rw[e1,e2]at hpm;exact hpm
 have hnd:ss.Pairwise (fun x y=>x.s.name≠y.s.name):=hs.imp (fun h=>jL h)
 have hnd':d'.toList.Pairwise (fun x y=>x.s.name≠y.s.name):=(hpm'.trans hp.symm).symm.pairwise hnd (fun h=>h.symm)
 have hd:d'.toList=ss:=by
  refine vU (hpm'.trans hp.symm) ?_ hs;rw[List.pairwise_iff_getElem];intro i j hi hj hij;have hne:=List.pairwise_iff_getElem.1 hnd' i j hi hj hij;have hlt:=hsort i j (Nat.zero_le _) hij (by simpa [←hsz'] using hj)
  have e1:ltOf (fun x y:Rs=>gJ x.s.name y.s.name) d'[j]! d'[i]! = Op.bytesLess d'[j]!.s.name d'[i]!.s.name:=qZ _ _
  rw[e1]at hlt;have hi':i<d'.size:=by simpa using hi
  have hj':j<d'.size:=by simpa using hj
  rw[getElem!_pos d' i hi',getElem!_pos d' j hj']at hlt;simp only[Array.getElem_toList]at hne ⊢;exact fR _ _ hlt (fun x=>hne x.symm)
 have hK:=holdsK_sortWorldK_c bE 5 w g 0 rs.toArray d' m os hH hg (by simpa using hsz')
 refine ⟨he,fun i q r hi hq=>?_,?_⟩
 ·rw[←hd]at hi
  have hi':i<d'.size:=by have:=(List.getElem?_eq_some_iff.1 hi).1;simpa using this
  have:=(hK.cell (i:=i) (c:=q) hi' hq).1;rw[Nat.zero_add]at this;rw[this];have e1:d'[i]! = r:=by
   rw[getElem!_pos d' i hi'];have:=(List.getElem?_eq_some_iff.1 hi).2;simpa using this
  rw[e1];have hl:q<(bE r).length:=hq;rw[List.getElem?_eq_getElem hl,getElem!_pos (bE r) q hl]
 ·refine ⟨rfl,rfl,rfl,?_,fun k hk hn=>?_⟩
  ·show w.heap.size≤((w.heap.modify g _)++os).size
   simp
  ·show ((w.heap.modify g _)++os)[k]?=w.heap[k]?
   rw[Array.getElem?_append_left (by simpa using hk),Array.getElem?_modify]
   have:¬ g=k:=fun e=>hn e.symm
   simp[this]
end Go.Proofs.YtolnlfnndnpiiaaGreat
namespace Go.Proofs.YtolnlfnndnpiiaaGreat
open Go.RowKit
theorem rV {P:Program} {w:World} {ops:Array Oper} {o:Oper} {a:Act} {K:Act→World→Prop} {Q:Exit→Act→World→Prop} {E:Prop} (hgd:o.guard=none) (s x:Operand) (t:TypeId)
  (ho:o.op=.call { callee:=.builtin .append,args:=#[s,x],argTypes:=#[t,t] })
  (base:Nat) (e:TypeId) (i:TypeInfo) (z:Value) (size bytes:Nat) (ht:P.underlying t=some (.slice e)) (hi:P.info? e=some i) (hz:i.zero=some z)
  (hsize:i.size=size) (hby:i.bytes=bytes) (hzs:z.cells.size=size) (hsz:0<size)
  (v:Value) (n:Nat) (xs:List Value) (hs:a.eval s=v) (hown:w.ownsRow base e size v n xs)
  (ad:Addr) (m c:Nat) (news:List Value) (hx:a.eval x=.slice (some ad) m c) (hl:news.length=m * size) (hnews:∀ j u,news[j]?=some u→w.cell? (ad.add j)=some u) (h1:∀ u∈news,u.oneCell'=true)
  (N:Nat) (hN:n+m=N) (h63:n+m≤maxLen) (hbytes:(n+m) * bytes≤140737488355328) (hbase:base≤w.heap.size)
  (h:∀ av cv w',w'.ownsRow base e size (.slice av N cv) N (xs++news)→aD (fun b=>v.ownBlock=some b) w w'→K (a.put o.dst (.slice av N cv)) w') :
  if Region.wanted o (yielded ops a.tmps)=true then Oper.wp P o a w K Q else E:=by
 have hw:Region.wanted o (yielded ops a.tmps)=true:=by simp[Region.wanted,hgd]
 rw[if_pos hw];refine wp_append_own w s x t ho base e i z size bytes ht hi hz hsize hby hzs hsz v n xs hs hown ad m c news hx hl hnews h1 h63 hbytes hbase fun v' w' h2 h3 _=>?_
 rw[hN]at h2;obtain ⟨av,cv,rfl⟩:=bH h2;exact h av cv w' h2 ⟨h3.os,h3.tape,h3.output,h3.size,fun q hq hn=>h3.block q hq (fun e=>hn e.symm)⟩
theorem zi6 (b o j:Nat):(⟨b,o,none⟩:Addr).add j=⟨b,o+j,none⟩:=by unfold Addr.add;split <;> simp_all
end Go.Proofs.YtolnlfnndnpiiaaGreat
namespace Go.Proofs.YtolnlfnndnpiiaaGreat
open Go.RowKit Go.Maps Go.Sort
attribute [local go_sem ↓] Go.wp_at_zero Go.wp_at_succ
theorem zxh {α β:Type} (f:α→β) {ys zs:List β} (h:ys.Perm zs):∀ xs:List α,xs.map f=ys→∃ us:List α,us.Perm xs∧us.map f=zs:=by
 induction h with
 | nil=>intro xs hx;exact ⟨xs,List.Perm.refl _,hx⟩
 | cons b hp ih =>
  intro xs hx;cases xs with
  | nil=>simp at hx
  | cons x xs =>
   simp only[List.map_cons,List.cons.injEq]at hx;obtain ⟨us,h1,h2⟩:=ih xs hx.2;exact ⟨x :: us,h1.cons x,by rw[List.map_cons,h2,hx.1]⟩
 | swap b c l =>
  intro xs hx
  match xs,hx with
  | [],hx=>simp at hx
  | [x],hx=>simp at hx
  | x :: y :: xs,hx =>
   simp only[List.map_cons,List.cons.injEq]at hx;exact ⟨y :: x :: xs,List.Perm.swap x y xs,by simp[hx.1,hx.2.1,hx.2.2]⟩
 | trans h1 h2 ih1 ih2 =>
  intro xs hx;obtain ⟨us,p1,q1⟩:=ih1 xs hx;obtain ⟨vs,p2,q2⟩:=ih2 us q1;exact ⟨vs,p2.trans p1,q2⟩
theorem zok {l:List Sn} {s:Sn} (h:∀ e∈l,e.name=s.name→e.parent=s.parent):l.filter (fun e=>!(e.name==s.name&&e.parent==s.parent))=dO l s.name:=by
 unfold dO;apply List.filter_congr
 intro e he;by_cases hn:e.name=s.name
 ·have:=h e he hn
  simp[hn,this]
 ·simp[hn]
theorem zo4 {u:World} {b:Nat} {s:Sn} {x:Option Addr} {cc:Nat} (h:dE u b (.string (str s.name)) (.string (str s.parent)) (.int .i64 s.kind) (.bool s.lease) (.slice x s.layer.length cc)):∀ j v,(bE ⟨s,x,cc⟩)[j]?=some v→u.cell? ((⟨b,0,none⟩:Addr).add j)=some v:=by
 intro j v hj;rw[eY,Nat.zero_add];obtain ⟨h0,h1,h2,h3,h4⟩:=h
 match j,hj with
 | 0,hj=>simp[bE]at hj;subst hj;exact h0
 | 1,hj=>simp[bE]at hj;subst hj;exact h1
 | 2,hj=>simp[bE]at hj;subst hj;exact h2
 | 3,hj=>simp[bE]at hj;subst hj;exact h3
 | 4,hj=>simp[bE]at hj;subst hj;exact h4
theorem yE (s:Sn) (x:Option Addr) (cc:Nat) (b:Nat) (e:Sn) (a:Option Addr) (c:Nat) (w:World) (h:dE w b (.string (str s.name)) (.string (str s.parent)) (.int .i64 s.kind) (.bool s.lease) (.slice x s.layer.length cc)) :
  Calls Tryz.prog 97 #[.agg #[.string (str e.name),.string (str e.parent),.int .i64 e.kind,.bool e.lease,.slice a e.layer.length c],.pointer (some ⟨b,0,none⟩)] w fun r w'=>r=.returned (.bool (e.name==s.name&&e.parent==s.parent))∧Below w.heap.size w w':=by
 have B0:=aA (aC w (.cells #[.string (str e.name),.string (str e.parent),.int .i64 e.kind,.bool e.lease,.slice a e.layer.length c] 37));have F1:=aA (h.below B0.out);have F2:=aA (dE.new w (.string (str e.name)) (.string (str e.parent)) (.int .i64 e.kind) (.bool e.lease) (.slice a e.layer.length c) 37);have HC1:=aA (fun u=>uD e a c u)
 have HC2:=aA (fun u=>uD s x cc u)
 have hbe:((str e.name).toList==(str s.name).toList)=(e.name==s.name):=by rw[rB];by_cases h:e.name=s.name <;> simp[h]
 have hbp:((str e.parent).toList==(str s.parent).toList)=(e.parent==s.parent):=by rw[rB];by_cases h:e.parent=s.parent <;> simp[h]
 generalize (e.name==s.name)=Z1 at *;generalize (e.parent==s.parent)=Z2 at *;clear h;go_enter Tryz.func97,Tryz.ntmps97;go_wp2_with fail
 generalize w.alloc (.cells #[.string (str e.name),.string (str e.parent),.int .i64 e.kind,.bool e.lease,.slice a e.layer.length c] 37)=W0 at *;have KC:Hid (∀ w':World,Below W0.heap.size W0 w'→dE w' w.heap.size (.string (str e.name)) (.string (str e.parent)) (.int .i64 e.kind) (.bool e.lease) (.slice a e.layer.length c)∧dE w' b (.string (str s.name)) (.string (str s.parent)) (.int .i64 s.kind) (.bool s.lease) (.slice x s.layer.length cc)):=aA (fun w' hb=>⟨F2.out.below hb,F1.out.below hb⟩)
 refine wp_region_held_drew (S:=fun w'=>dE w' w.heap.size (.string (str e.name)) (.string (str e.parent)) (.int .i64 e.kind) (.bool e.lease) (.slice a e.layer.length c)∧dE w' b (.string (str s.name)) (.string (str s.parent)) (.int .i64 s.kind) (.bool s.lease) (.slice x s.layer.length cc)) (by kernel_rfl) (KC.out _ (Below.refl _ _).drew) (fun hHeld=>?_)
 change wpAnyH _ _ _ _ _ _ (Array.replicate _ false) _ _;refine wpAnyH_take (i:=0) (oi:=⟨some 4,_,_,_,_,_⟩) (v:=.agg #[.string (str e.name),.string (str e.parent),.int .i64 e.kind,.bool e.lease,.slice a e.layer.length c]) rfl (by kernel_rfl) (by kernel_rfl) (by kernel_rfl) (fun _ _ _ h=>h) (Or.inl ⟨by rfl,?_⟩) hHeld ?_
 ·rintro w ⟨⟨q0,q1,q2,q3,q4⟩,p0,p1,p2,p3,p4⟩
  go_simp
 try simp only[Act.put,zsE]
 refine wpAnyH_take (i:=2) (oi:=⟨some 6,_,_,_,_,_⟩) (v:=.agg #[.string (str s.name),.string (str s.parent),.int .i64 s.kind,.bool s.lease,.slice x s.layer.length cc]) rfl (by kernel_rfl) (by kernel_rfl) (by kernel_rfl) (fun _ _ _ h=>h) (Or.inl ⟨by rfl,?_⟩) hHeld ?_
 ·rintro w ⟨⟨q0,q1,q2,q3,q4⟩,p0,p1,p2,p3,p4⟩
  go_simp
 try simp only[Act.put,zsE]
 refine wpAnyH_ready (rs:=[1]) (by kernel_rfl) (by simp) ?_
 refine AllReadyH.cons rfl (fun K hK=>?_) AllReadyH.nil
 ·go_simp
  refine (HC1.out _).mono ?_;rintro r w3 ⟨rfl,hb3⟩;have B3:=aA (aB ((Below.refl W0.heap.size W0).drew) hb3);clear hb3;go_wp2_with fail
  refine hK.out _ _ (KC.out _ B3.out) (fun hHeld=>?_)
  clear hK K;try simp only[Act.put,zsE]
  refine wpAnyH_ready (rs:=[3]) (by kernel_rfl) (by simp) ?_
  refine AllReadyH.cons rfl (fun K hK=>?_) AllReadyH.nil
  go_simp
  refine (HC2.out _).mono ?_;rintro r w4 ⟨rfl,hb4⟩;have B4:=aA (aB B3.out hb4);clear hb4;go_wp2_with fail
  refine hK.out _ _ (KC.out _ B4.out) (fun hHeld=>?_)
  clear hK K;try simp only[Act.put,zsE]
  refine wpAnyH_take (i:=4) (oi:=⟨some 8,_,_,_,_,_⟩) (v:=.bool (Z1&&Z2)) rfl (by kernel_rfl) (by kernel_rfl) (by kernel_rfl) (fun _ _ _ h=>h) (Or.inl ⟨by rfl,?_⟩) hHeld ?_
  ·rintro w ⟨⟨q0,q1,q2,q3,q4⟩,p0,p1,p2,p3,p4⟩
   go_simp;(cases Z1 <;> cases Z2 <;> rfl)
  try simp only[Act.put,zsE]
  refine wpAnyH_take (i:=5) (oi:=⟨some 3,_,_,_,_,_⟩) (v:=.bool (Z1&&Z2)) rfl (by kernel_rfl) (by kernel_rfl) (by kernel_rfl) (fun _ _ _ h=>h) (Or.inl ⟨by rfl,?_⟩) hHeld ?_
  ·rintro w ⟨⟨q0,q1,q2,q3,q4⟩,p0,p1,p2,p3,p4⟩
   go_simp
  try simp only[Act.put,zsE]
  refine wpAnyH_done (by kernel_rfl) ?_ _
  go_wp2_with fail
  go_ret
  exact ⟨rfl,aB B0.out B4.out⟩
theorem sT (a:Option Addr) (c n:Nat) (l:List Sn) (s:Sn) (x:Option Addr) (cc:Nat) (w0 w:World) (hb0:Below w0.heap.size w0 w) (h:RdS w0 a l) (hn:n=l.length) (hl:l.length≤1048576) (hbd:∀ e∈l,e.name=s.name→e.parent=s.parent) :
  Calls Tryz.prog 58 #[.slice a n c,.agg #[.string (str s.name),.string (str s.parent),.int .i64 s.kind,.bool s.lease,.slice x s.layer.length cc]] w fun r w'=>∃ av cv,r=.returned (.slice av (dO l s.name).length cv)∧LN w.heap.size w0 w' (.slice av (dO l s.name).length cv) (dO l s.name)∧Below w.heap.size w w':=by
 have hmf:∀ (fn:Fn) (first cap:Array Value) (w:World),(Instr.makeFunc fn first cap).run Tryz.prog w=.ok (.func fn first cap) w:=fun _ _ _ _=>rfl
 subst hn;have B0:=aA (aC w (.cells #[.string (str s.name),.string (str s.parent),.int .i64 s.kind,.bool s.lease,.slice x s.layer.length cc] 37));have HA:Hid (tX (w.alloc (.cells #[.string (str s.name),.string (str s.parent),.int .i64 s.kind,.bool s.lease,.slice x s.layer.length cc] 37)) 97 #[.pointer (some ⟨w.heap.size,0,none⟩)] (fun e=>e.name==s.name&&e.parent==s.parent)):=aA ⟨enters_of Tryz.func97 (by kernel_rfl) rfl,fun e a c w' hb =>
  yE s x cc w.heap.size e a c w' ((dE.new w (.string (str s.name)) (.string (str s.parent)) (.int .i64 s.kind) (.bool s.lease) (.slice x s.layer.length cc) 37).below hb)⟩
 have HC:=aA (zp9 a c l.length l _ _ (fun e=>e.name==s.name&&e.parent==s.parent) w0 _ (aB hb0 B0.out) h rfl hl HA.out)
 rw[zok hbd]at HC;clear h HA hb0 hbd;go_enter Tryz.func58,Tryz.ntmps58;go_wp2_with fail
 generalize w.alloc (.cells #[.string (str s.name),.string (str s.parent),.int .i64 s.kind,.bool s.lease,.slice x s.layer.length cc] 37)=W0 at *;refine HC.out.mono ?_;rintro r w1 ⟨av,cv,rfl,hL,hb1⟩;have HL:=aA hL;have B1:=aA hb1;clear hL hb1 HC;go_wp2_with fail
 go_ret
 exact ⟨av,cv,rfl,HL.out.mono (by have:=B0.out.size;omega),aB B0.out B1.out⟩
end Go.Proofs.YtolnlfnndnpiiaaGreat
