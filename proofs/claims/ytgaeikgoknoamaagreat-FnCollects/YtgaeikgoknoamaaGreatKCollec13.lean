/-
  Texts put together: SnqC SnpC SnqD AppL SnpI.
-/
import Derived.Test.YtgaeikgoknoamaaGreatKCollec12
import Derived.Shelf.SlSortCmp.WholeK
import Derived.Ground.SlsfProg
import Derived.Test.YtgaeikgoknoamaaGreatProg
import Derived.Test.YtgaeikgoknoamaaGreatKCollec8
import Derived.Test.YtgaeikgoknoamaaGreatKCollec11
import Derived.Test.YtgaeikgoknoamaaGreatKCollec1
import Derived.Maps.AppendAt
import Derived.Test.YtgaeikgoknoamaaGreatKCollec9
set_option linter.unusedVariables false
set_option maxHeartbeats 6400000
set_option maxRecDepth 100000
namespace Go.Proofs.YtgaeikgoknoamaaGreat
open Go.RowKit Go.Maps
attribute [local go_sem ↓] Go.wp_at_zero Go.wp_at_succ
theorem yR {l:List Sn} {k:Nat} {s:Sn} {F:Int} (h:F=hI (dV l k) (l.drop k)) (hs:l[k]?=some s) (h0:lP (dV l k) s=0):F=hI (dV l (k+1)) (l.drop (k+1)):=by
 rw[h,dP hs,hI,if_pos h0];show hI (some s) _=hI l[k]? _
 rw[hs]
theorem nV {l:List Sn} {k:Nat} {s:Sn} {F:Int} (h:F=hI (dV l k) (l.drop k)) (hs:l[k]?=some s) (h0:lP (dV l k) s≠0):F=lP (dV l k) s:=by
 rw[h,dP hs,hI,if_neg h0]
theorem zlc {l:List Sn} {k:Nat} {F:Int} (h:F=hI (dV l k) (l.drop k)) (hk:l.length≤k):F=0:=by
 rw[h,List.drop_eq_nil_of_le hk,hI]
theorem wK:∀ {l:List Sn} {prev:Option Sn},hI prev l=0→∀ s∈l,fA s.name=true
 | [],_,_,s,hs=>by simp at hs
 | x :: r,prev,h,s,hs=>by
  unfold hI at h;by_cases h0:lP prev x=0
  ·rw[if_pos h0]at h
   rcases List.mem_cons.1 hs with rfl | hs
   ·unfold lP at h0
    by_cases hn:fA s.name=true
    ·exact hn
    ·rw[if_neg hn]at h0;exact absurd h0 (by decide)
   ·exact wK h s hs
  ·rw[if_neg h0]at h;exact absurd h h0
theorem vD {l r:List Sn} {k:Nat} {s:Sn} {F:Int} (h:F=gR l (r.drop k)) (hs:r[k]?=some s) (h0:jJ l s=0):F=gR l (r.drop (k+1)):=by
 rw[h,dP hs,gR,if_pos h0]
theorem rB {l r:List Sn} {k:Nat} {s:Sn} {F:Int} (h:F=gR l (r.drop k)) (hs:r[k]?=some s) (h0:jJ l s≠0):F=jJ l s:=by
 rw[h,dP hs,gR,if_neg h0]
theorem zo7 {l r:List Sn} {k:Nat} {F:Int} (h:F=gR l (r.drop k)) (hk:r.length≤k):F=0:=by
 rw[h,List.drop_eq_nil_of_le hk,gR]
theorem zj1 {p:Option Sn} {s:Sn} (h:fA s.name=false):lP p s=5:=by unfold lP;rw[h];rfl
theorem zi1 {p:Option Sn} {s:Sn} (h:fA s.name=true) (h2:((s.kind==1||s.kind==2)&&!lwQ p s)=false):lP p s=1:=by unfold lP;rw[h,h2];rfl
theorem zt4 {p:Option Sn} {s:Sn} (h:fA s.name=true) (hk:(s.kind==1||s.kind==2)=true) (hl:lwQ p s=false):lP p s=bY s.layer:=by unfold lP;rw[h,hk,hl];rfl
theorem zoh (k:Int) (w:World):Calls Tryz.prog 111 #[.int .i64 k,.int .i64 1,.int .i64 2] w fun r w'=>r=.returned (.bool (k==1||k==2))∧w'=w:=by
 by_cases h:1≤k∧k≤2
 ·have e:(k==1||k==2)=true:=by
                       have:k=1∨k=2:=by omega
                       rcases this with rfl | rfl <;> rfl
  rw[e];exact lN k 1 2 w h.1 h.2
 ·have e:(k==1||k==2)=false:=by
   have h1:k≠1:=by omega
   have h2:k≠2:=by omega
   simp[h1,h2]
  rw[e];exact vM k 1 2 w (by omega)
theorem iH (a:Option Addr) (c n:Nat) (l:List Sn) (w:World) (h:RdS w a l) (hn:n=l.length) (hl:l.length≤1048576) (hs:bW l) :
  Calls Tryz.prog 65 #[.slice a n c] w fun r w'=>r=.returned (.int .i64 (snM l))∧Below w.heap.size w w':=by
 subst hn;obtain ⟨F,hF⟩:∃ F:Int,F=snM l:=⟨_,rfl⟩;rw[←hF];by_cases hm:10<l.length
 ·have HE:=aA (show F=2 by rw[hF];unfold snM;rw[if_pos hm])
  have hm':(10:Int)<(l.length:Int):=by omega
  clear hF hm h hs;go_enter Tryz.func65,Tryz.ntmps65;go_wp2_with fail
  go_ret
  exact ⟨aO HE.out.symm,Below.refl _ _⟩
 obtain ⟨H,hH⟩:∃ H:Int,H=hI none l:=⟨_,rfl⟩;have HF:=aA (show F=if H=0 then gR l l else H by rw[hF,hH];unfold snM;rw[if_neg hm])
 have HH:=aA (show H=hI (dV l 0) (l.drop 0) by rw[hH];rfl)
 have HNM:=aA (show H=0→∀ s∈l,s.name≠[] from fun h0 s hs=>fY (wK (hH ▸ h0) s hs))
 have HR:=aA h;have HS:=aA hs;have hm':¬ (10:Int)<(l.length:Int):=by omega
 clear hF hH hm h hs;go_enter Tryz.func65,Tryz.ntmps65;go_wp2_with fail
 go_loopw [3] (fun i wr=>∃ k:Nat,k≤l.length∧i=.int .i64 k∧Hid (H=hI (dV l k) (l.drop k))∧Hid (Below w.heap.size w wr)) (fun i _=>l.length - (intOf i).toNat)
 case atStart=>exact ⟨0,Nat.zero_le _,rfl,HH,aA (Below.refl _ _)⟩
 case round =>
  obtain ⟨k,hk,rfl,HK,HW⟩:=hrel;by_cases hlt:k<l.length
  ·obtain ⟨b,off,s,x,cc,rfl,hb,hsl,c0,c1,c2,c3,c4,hr⟩:=(HR.out.below HW.out).at hlt
   have HX:=aA hsl;have hsm:=HS.out.2 s (List.mem_of_getElem? hsl);have HSM:=aA hsm.2.2.2;have HRL:=aA hr;have hl1:=hsm.1;have hl2:=hsm.2.2.1;clear hsl hr hsm;go_wp2_with fail
   refine (qT s.name _ hl1).mono ?_;rintro r w1 ⟨rfl,hw1⟩;subst hw1;cases hnm:fA s.name
   ·have HO:=aA (nV HK.out HX.out (by rw[zj1 hnm];decide))
    have HO2:=aA (show F=5 by rw[HF.out,HO.out,zj1 hnm];rfl)
    clear hnm;go_wp2_with fail
    go_ret
    exact ⟨aO HO2.out.symm,HW.out⟩
   ·have HNK:=aA hnm
    have HKD:=aA (fun u=>zoh s.kind u)
    cases hkd:(s.kind==1||s.kind==2)
    ·have H1:=aA (zi1 (p:=dV l k) HNK.out (by rw[hkd];rfl))
     have HO:=aA (nV HK.out HX.out (by rw[H1.out];decide))
     have HO2:=aA (show F=1 by rw[HF.out,HO.out,H1.out];rfl)
     rw[hkd]at HKD;clear hnm hkd;go_wp2_with fail
     go_quiet ((go_at_call 111;exact Calls.quiet_of ((HKD.out _).mono (fun e w' ⟨he,hw⟩=>⟨he,0,hw⟩))))
     go_wp2_with fail
     go_ret
     exact ⟨aO HO2.out.symm,below_drewN HW.out _⟩
    ·have HKK:=aA hkd
     rw[hkd]at HKD;clear hnm hkd;cases k with
     | zero =>
      have HL:=aA (show lwQ (dV l 0) s=false from rfl)
      go_wp2_with fail
      go_quiet ((go_at_call 111;exact Calls.quiet_of ((HKD.out _).mono (fun e w' ⟨he,hw⟩=>⟨he,0,hw⟩))))
      have HW2:=aA (below_drewN HW.out nq);have HRL2:=aA (HRL.out.below (below_drewN (Below.refl _ _) nq));obtain ⟨b3,off3,s3,x3,cc3,hbb3,hb3,hs3,g0,g1,g2,g3,g4,-⟩:=(HR.out.below HW2.out).at hlt;simp only[Option.some.injEq,Addr.mk.injEq,and_true]at hbb3;obtain ⟨rfl,rfl⟩:=hbb3;have hs33:s3=s:=by rw[HX.out]at hs3;exact (Option.some.inj hs3).symm
      subst hs33;have hx3:Value.slice x3 s3.layer.length cc3=Value.slice x s3.layer.length cc:=by
       have h8:=(below_drewN (Below.refl w1.heap.size w1) nq).cell (p:=⟨b,off+0 * 5+4,none⟩) hb;rw[g4,c4]at h8;exact Option.some.inj h8
      simp only[Value.slice.injEq,true_and]at hx3;obtain ⟨rfl,rfl⟩:=hx3;clear c0 c1 c2 c3 c4 hs3;generalize World.drewN _ nq=W at *;go_wp2_with fail
      refine (lE x3 cc3 s3.layer.length s3.layer W HRL2.out rfl hl2 HSM.out).mono ?_;rintro r w4 ⟨rfl,hb4⟩;have HW3:=aA (aB HW2.out hb4);have H1:=aA (zt4 HNK.out HKK.out HL.out);clear hb4;by_cases hz:bY s3.layer=0
      ·have HO:=aA (yR HK.out HX.out (by rw[H1.out,hz]))
       rw[hz];clear hz;go_wp2_with fail
       go_roundw
       case rel=>exact ⟨1,by omega,by go_num,HO,HW3⟩
       case measure=>simp[intOf];omega
      ·have HO:=aA (nV HK.out HX.out (by rw[H1.out];exact hz))
       have HO2:=aA (show F=bY s3.layer by rw[HF.out,HO.out,H1.out,if_neg hz])
       have hz2:(bY s3.layer != 0)=true:=by simp;exact hz
       clear hz;go_wp2_with fail
       go_ret
       exact ⟨aO HO2.out.symm,HW3.out⟩
     | succ j =>
      have hg:(0:Int)<((j+1:Nat):Int):=by omega
      obtain ⟨b2,off2,s2,x2,cc2,hbb,hb2,hs2,d0,d1,d2,d3,d4,hr2⟩:=(HR.out.below HW.out).at (show j<l.length by omega)
      simp only[Option.some.injEq,Addr.mk.injEq,and_true]at hbb;obtain ⟨rfl,rfl⟩:=hbb;have HL:=aA (show lwQ (dV l (j+1)) s=(Op.bytesLess s.name s2.name||(s.name==s2.name)) from by simp[dV,lwQ,hs2])
      clear hs2 d1 d2 d3 d4 hr2;cases hlow:(Op.bytesLess (str s.name).toList (str s2.name).toList||((str s.name).toList==(str s2.name).toList))
      ·have HL2:=aA (show lwQ (dV l (j+1)) s=false from by rw[HL.out];rw[aM,aM]at hlow;exact hlow)
       go_wp2_with fail
       go_quiet ((go_at_call 111;exact Calls.quiet_of ((HKD.out _).mono (fun e w' ⟨he,hw⟩=>⟨he,0,hw⟩))))
       clear d0;have HW2:=aA (below_drewN HW.out nq);have HRL2:=aA (HRL.out.below (below_drewN (Below.refl _ _) nq));obtain ⟨b3,off3,s3,x3,cc3,hbb3,hb3,hs3,g0,g1,g2,g3,g4,-⟩:=(HR.out.below HW2.out).at hlt;simp only[Option.some.injEq,Addr.mk.injEq,and_true]at hbb3;obtain ⟨rfl,rfl⟩:=hbb3;have hs33:s3=s:=by rw[HX.out]at hs3;exact (Option.some.inj hs3).symm
       subst hs33;have hx3:Value.slice x3 s3.layer.length cc3=Value.slice x s3.layer.length cc:=by
        have h8:=(below_drewN (Below.refl w1.heap.size w1) nq).cell (p:=⟨b,off+(j+1) * 5+4,none⟩) hb;rw[g4,c4]at h8;exact Option.some.inj h8
       simp only[Value.slice.injEq,true_and]at hx3;obtain ⟨rfl,rfl⟩:=hx3;clear c0 c1 c2 c3 c4 hs3;generalize World.drewN _ nq=W at *;go_wp2_with fail
       refine (lE x3 cc3 s3.layer.length s3.layer W HRL2.out rfl hl2 HSM.out).mono ?_;rintro r w4 ⟨rfl,hb4⟩;have HW3:=aA (aB HW2.out hb4);have H1:=aA (zt4 HNK.out HKK.out HL2.out);clear hb4;by_cases hz:bY s3.layer=0
       ·have HO:=aA (yR HK.out HX.out (by rw[H1.out,hz]))
        rw[hz];clear hz;go_wp2_with fail
        go_roundw
        case rel=>exact ⟨j+1+1,by omega,by go_num,HO,HW3⟩
        case measure=>simp[intOf];omega
       ·have HO:=aA (nV HK.out HX.out (by rw[H1.out];exact hz))
        have HO2:=aA (show F=bY s3.layer by rw[HF.out,HO.out,H1.out,if_neg hz])
        have hz2:(bY s3.layer != 0)=true:=by simp;exact hz
        clear hz;go_wp2_with fail
        go_ret
        exact ⟨aO HO2.out.symm,HW3.out⟩
      ·have HL2:=aA (show lwQ (dV l (j+1)) s=true from by rw[HL.out];rw[aM,aM]at hlow;exact hlow)
       have H1:=aA (zi1 (p:=dV l (j+1)) HNK.out (by rw[HL2.out,Bool.not_true,Bool.and_false]))
       have HO:=aA (nV HK.out HX.out (by rw[H1.out];decide))
       have HO2:=aA (show F=1 by rw[HF.out,HO.out,H1.out];rfl)
       go_wp2_with fail
       go_quiet ((go_at_call 111;exact Calls.quiet_of ((HKD.out _).mono (fun e w' ⟨he,hw⟩=>⟨he,0,hw⟩))))
       go_wp2_with fail
       go_ret
       exact ⟨aO HO2.out.symm,below_drewN HW.out _⟩
  ·have h0:=zlc HK.out (by omega)
   have HNE:=aA (HNM.out h0);have HFS:=aA (show F=gR l (l.drop 0) by rw[HF.out,if_pos h0];rfl)
   clear h0 HK HNM HF HH;have hke:k=l.length:=by omega
   clear hlt hk;subst hke;go_wp2_with fail
   go_loopw [5] (fun i wr2=>∃ k:Nat,k≤l.length∧i=.int .i64 k∧Hid (F=gR l (l.drop k))∧Hid (Below w.heap.size w wr2)) (fun i _=>l.length - (intOf i).toNat)
   case atStart=>exact ⟨0,Nat.zero_le _,rfl,HFS,HW⟩
   case round =>
    clear HW
    rename_i wr2
    obtain ⟨k,hk,rfl,HK,HW⟩:=hrel;by_cases hlt:k<l.length
    ·obtain ⟨b,off,s,x,cc,rfl,hb,hsl,c0,c1,c2,c3,c4,hr⟩:=(HR.out.below HW.out).at hlt
     have HX:=aA hsl;clear hsl hr;by_cases hp:s.parent=[]
     ·have hpe:(str s.parent).toList.isEmpty=true:=by rw[hp,aM];rfl
      have HO:=aA (vD HK.out HX.out (by unfold jJ;rw[if_pos hp]))
      clear hp;go_wp2_with fail
      go_roundw
      case rel=>exact ⟨k+1,by omega,by go_num,HO,HW⟩
      case measure=>simp[intOf];omega
     ·have hpe:(str s.parent).toList.isEmpty=false:=by
       rw[aM];cases hq:s.parent with | nil=>exact absurd hq hp | cons _ _=>rfl
      have HP:=aA hp;clear hp;go_wp2_with fail
      refine (fT _ c l.length l s.parent _ (HR.out.below HW.out) rfl hl).mono ?_;rintro r w4 ⟨rfl,hw4⟩;subst hw4;cases hpl:plS l s.parent with
      | none =>
       have HO:=aA (rB HK.out HX.out (by unfold jJ;rw[if_neg HP.out,fZ hpl];show (4:Int)≠0;decide))
       have HO2:=aA (show F=4 by rw[HO.out];unfold jJ;rw[if_neg HP.out,fZ hpl])
       clear hpl;simp only[cD];go_wp2_with fail
       go_ret
       exact ⟨aO HO2.out.symm,HW.out⟩
      | some j =>
       obtain ⟨q,hq,hat⟩:=gW hpl;have hjl:=(List.getElem?_eq_some_iff.1 hq).1;obtain ⟨b2,off2,e,x2,cc2,hbb,hb2,he,d0,d1,d2,d3,d4,hr2⟩:=(HR.out.below HW.out).at hjl;simp only[Option.some.injEq,Addr.mk.injEq,and_true]at hbb;obtain ⟨rfl,rfl⟩:=hbb;have heq:e=q:=by rw[hq]at he;exact (Option.some.inj he).symm
       subst heq;have HST:=aA (show jJ l s=if e.kind=1 then 10 else if 4<eN l s.name then 2 else 0 by unfold jJ;rw[if_neg HP.out,hat])
       have hj0:¬ (j:Int)<0:=by omega
       have hj1:(j:Int)<(l.length:Int):=by omega
       clear hpl hq hat he hr2;simp only[cD];by_cases hk1:e.kind=1
       ·have hkb:(e.kind==1)=true:=by simp[hk1]
        have HO:=aA (rB HK.out HX.out (by rw[HST.out,if_pos hk1];decide))
        have HO2:=aA (show F=10 by rw[HO.out,HST.out,if_pos hk1])
        clear hk1;go_wp2_with fail
        go_ret
        exact ⟨aO HO2.out.symm,HW.out⟩
       ·have hkb:(e.kind==1)=false:=by simp[hk1]
        have HST2:=aA (show jJ l s=if 4<eN l s.name then 2 else 0 by rw[HST.out,if_neg hk1])
        clear hk1;go_wp2_with fail
        refine (nG _ c l.length l s.name _ (HR.out.below HW.out) rfl hl HNE.out).mono ?_;rintro r w5 ⟨rfl,hw5⟩;subst hw5;by_cases hdp:4<eN l s.name
        ·have hd':(4:Int)<(eN l s.name:Int):=by omega
         have HO:=aA (rB HK.out HX.out (by rw[HST2.out,if_pos hdp];decide))
         have HO2:=aA (show F=2 by rw[HO.out,HST2.out,if_pos hdp])
         clear hdp;go_wp2_with fail
         go_ret
         exact ⟨aO HO2.out.symm,HW.out⟩
        ·have hd':¬ (4:Int)<(eN l s.name:Int):=by omega
         have HO:=aA (vD HK.out HX.out (by rw[HST2.out,if_neg hdp]))
         clear hdp;go_wp2_with fail
         go_roundw
         case rel=>exact ⟨k+1,by omega,by go_num,HO,HW⟩
         case measure=>simp[intOf];omega
    ·have HO:=aA (zo7 HK.out (by omega))
     go_wp2_with fail
     go_ret
     exact ⟨aO HO.out.symm,HW.out⟩
theorem GW.apart {B B' s n:Nat} {t:TypeId} {w w':World} {v v':Value} {es:List En} {xs:List Value} (h:GW B w v es) (hr:w.ownsRow B' t s v' n xs) (h1:t≠87) (h2:t≠2) (hk:aE (fun b=>v'.ownBlock=some b) w w'):GW B w' v es:=by
 obtain ⟨rs,e,g1,g2⟩:=h;exact ⟨rs,e,aK g1 hk (fun b hb hS=>cK hr g1 h1 hS hb),fun r hx=>aK (g2 r hx) hk (fun b hb hS=>cK hr (g2 r hx) h2 hS hb)⟩
def kA (w0 w:World) (g c k:Nat) (l:List Sn):Prop :=
 ∃ rs:List Rs,rs.map Rs.s=l∧w.ownsRow w0.heap.size 42 5 (.slice (some ⟨g,0,none⟩) l.length c) l.length (aS rs)∧(∀ i r,rs[i]?=some r→k≤i→RdE w0 r.a r.s.layer)∧∀ i r,rs[i]?=some r→i<k→GW w0.heap.size w (.slice r.a r.s.layer.length r.c) r.s.layer
theorem kA.below {w0 w w':World} {g c k:Nat} {l:List Sn} (h:kA w0 w g c k l) (hb:Below w.heap.size w w'):kA w0 w' g c k l:=by
 obtain ⟨rs,h1,h2,h3,h4⟩:=h;exact ⟨rs,h1,aJ h2 hb,h3,fun i r hr hi=>(h4 i r hr hi).below hb⟩
theorem kA.rd {w0 w:World} {g c k:Nat} {l:List Sn} (h:kA w0 w g c k l) (hb:Below w0.heap.size w0 w):RdS w (some ⟨g,0,none⟩) l:=by
 obtain ⟨rs,h1,h2,h3,h4⟩:=h;refine oZ h1 h2 fun r hr=>?_
 obtain ⟨i,hi⟩:=List.mem_iff_getElem?.1 hr;by_cases hk:k≤i
 ·exact (h3 i r hi hk).below hb
 ·exact GW.rd (h4 i r hi (by omega))
def nC (B:Nat) (w:World) (a:Option Addr) (l:List Sn):Prop:=∀ w':World,aE (fun b=>b<B) w w'→RdS w' a l
theorem nC.rd {B:Nat} {w:World} {a:Option Addr} {l:List Sn} (h:nC B w a l):RdS w a l:=h w (aE.refl _ _)
theorem nC.nil (B:Nat) (w:World) (a:Option Addr):nC B w a []:=fun w' _=>RdS.nil _ _
theorem kA.held {w0 w:World} {g c k:Nat} {l:List Sn} (h:kA w0 w g c k l) (hk:l.length≤k):nC w0.heap.size w (some ⟨g,0,none⟩) l:=by
 intro w' hw;obtain ⟨rs,h1,h2,h3,h4⟩:=h;have hl:rs.length=l.length:=by rw[←h1,List.length_map]
 refine oZ h1 (aK h2 hw (fun b hb hS=>by have:=(h2.lt b hb).1;omega)) fun r hr=>?_
 obtain ⟨i,hi⟩:=List.mem_iff_getElem?.1 hr;have hi0:=(List.getElem?_eq_some_iff.1 hi).1;exact GW.rd ((h4 i r hi (by omega)).kept hw (fun b hb hS=>by omega))
theorem kA.row {w0 w:World} {g c k K:Nat} {l:List Sn} {s:Sn} (h:kA w0 w g c K l) (hs:l[k]?=some s):∃ rs:List Rs,∃ r:Rs,rs.map Rs.s=l∧rs[k]?=some r∧r.s=s∧w.ownsRow w0.heap.size 42 5 (.slice (some ⟨g,0,none⟩) l.length c) l.length (aS rs)∧(∀ i r,rs[i]?=some r→K≤i→RdE w0 r.a r.s.layer) ∧
  ∀ i r,rs[i]?=some r→i<K→GW w0.heap.size w (.slice r.a r.s.layer.length r.c) r.s.layer:=by
 obtain ⟨rs,h1,h2,h3,h4⟩:=h;have hk:k<l.length:=(List.getElem?_eq_some_iff.1 hs).1;have hl:rs.length=l.length:=by rw[←h1,List.length_map]
 obtain ⟨r,hr⟩:∃ r,rs[k]?=some r:=⟨_,List.getElem?_eq_getElem (by omega)⟩
 refine ⟨rs,r,h1,hr,?_,h2,h3,h4⟩;have:(rs.map Rs.s)[k]?=some r.s:=by rw[List.getElem?_map,hr];rfl
 rw[h1,hs]at this;exact (Option.some.inj this).symm
theorem zo2 {xs:List Value} {j:Nat} {u:Value} (h:xs[j]?=some u):xs.set j u=xs:=by
 apply List.ext_getElem?
 intro i;rw[List.getElem?_set];by_cases hj:j=i
 ·subst hj
  rw[if_pos rfl,if_pos (List.getElem?_eq_some_iff.1 h).1,h]
 ·rw[if_neg hj]
theorem kA.same {w0 w:World} {g c k K q:Nat} {l:List Sn} {s:Sn} {u:Value} (h:kA w0 w g c K l) (hs:l[k]?=some s) (hq:q<4) (hu:(bS ⟨s,none,0⟩)[q]?=some u):kA w0 (w.setCell ⟨g,k * 5+q,none⟩ u) g c K l:=by
 obtain ⟨rs,r,h1,hr,rfl,h2,h3,h4⟩:=h.row hs;have hu2:(aS rs)[k * 5+q]?=some u:=by
  rw[lQ rs k q r hr (by omega),←hu]
  match q,hq with
  | 0,_=>rfl
  | 1,_=>rfl
  | 2,_=>rfl
  | 3,_=>rfl
 have s1:=(h2.stored (k * 5+q) u).1;rw[zo2 hu2]at s1;have hkp:aE (fun b=>(Value.slice (some ⟨g,0,none⟩) l.length c).ownBlock=some b) w (w.setCell ⟨g,k * 5+q,none⟩ u):=aE.setCell (S:=fun b=>(Value.slice (some ⟨g,0,none⟩) l.length c).ownBlock=some b) (p:=⟨g,k * 5+q,none⟩) (aE.refl _ _) (fun _=>rfl) _
 exact ⟨rs,h1,s1,h3,fun i r0 hr0 hi=>(h4 i r0 hr0 hi).apart h2 (by decide) (by decide) hkp⟩
theorem zu1:∀ (rs:List Rs) (k:Nat) (r:Rs) (x:Option Addr) (cc:Nat),rs[k]?=some r→(aS rs).set (k * 5+4) (.slice x r.s.layer.length cc)=aS (rs.set k ⟨r.s,x,cc⟩)
 | [],k,r,x,cc,h=>by simp at h
 | y :: rs,0,r,x,cc,h=>by
  simp only[List.getElem?_cons_zero,Option.some.injEq]at h;subst h;simp[aS,bS]
 | y :: rs,k+1,r,x,cc,h=>by
  have:=zu1 rs k r x cc (by simpa using h)
  have e:(k+1) * 5+4=(bS y).length+(k * 5+4):=by simp[bS];omega
  simp only[aS,List.flatMap_cons,List.set_cons_succ]at this ⊢;rw[e,List.set_append_right _ _ (by omega),Nat.add_sub_cancel_left,this]
theorem kA.lay {w0 w:World} {g c k:Nat} {l:List Sn} {s:Sn} {x:Option Addr} {cc:Nat} (h:kA w0 w g c k l) (hs:l[k]?=some s) (hx:GW w0.heap.size w (.slice x s.layer.length cc) s.layer):kA w0 (w.setCell ⟨g,k * 5+4,none⟩ (.slice x s.layer.length cc)) g c (k+1) l:=by
 obtain ⟨rs,r,h1,hr,rfl,h2,h3,h4⟩:=h.row hs;have hk:k<l.length:=(List.getElem?_eq_some_iff.1 hs).1;have s1:=(h2.stored (k * 5+4) (.slice x r.s.layer.length cc)).1;rw[zu1 rs k r x cc hr]at s1;have hkp:aE (fun b=>(Value.slice (some ⟨g,0,none⟩) l.length c).ownBlock=some b) w (w.setCell ⟨g,k * 5+4,none⟩ (.slice x r.s.layer.length cc)):=aE.setCell (S:=fun b=>(Value.slice (some ⟨g,0,none⟩) l.length c).ownBlock=some b) (p:=⟨g,k * 5+4,none⟩) (aE.refl _ _) (fun _=>rfl) _
 refine ⟨rs.set k ⟨r.s,x,cc⟩,?_,s1,fun i r0 hr0 hi=>?_,fun i r0 hr0 hi=>?_⟩
 ·rw[List.map_set,h1]
  apply List.ext_getElem?
  intro j;rw[List.getElem?_set];by_cases hj:k=j
  ·subst hj;rw[if_pos rfl,if_pos hk,hs]
  ·rw[if_neg hj]
 ·rw[List.getElem?_set,if_neg (by omega)]at hr0
  exact h3 i r0 hr0 (by omega)
 ·rw[List.getElem?_set]at hr0
  by_cases hj:k=i
  ·subst hj
   rw[if_pos rfl]at hr0;split at hr0
   ·cases hr0;exact hx.apart h2 (by decide) (by decide) hkp
   ·cases hr0
  ·rw[if_neg hj]at hr0
   exact (h4 i r0 hr0 (by omega)).apart h2 (by decide) (by decide) hkp
theorem zT (a:Option Addr) (c n:Nat) (l:List Sn) (w:World) (h:RdS w a l) (hn:n=l.length) (hl:l.length≤1048576) (h0:0<l.length) :
  Calls Tryz.prog 77 #[.slice a n c] w fun r w'=>r=.returned (.slice (some ⟨w.heap.size,0,none⟩) l.length l.length)∧kA w w' w.heap.size l.length 0 l∧Below w.heap.size w w':=by
 subst hn;obtain ⟨i1,ki,kz0,kz1,kz2⟩:=info_parts Tryz.infoSn;obtain ⟨rs,hrs,hrd,hcl⟩:=xT h;have hz:l≠[]:=List.length_pos_iff.1 h0;obtain ⟨b,off,rfl,hb,hcl⟩:=hcl hz;have HC:Hid (∀ W:World,Below w.heap.size w W→aS rs≠[]→∃ ad,some (⟨b,off,none⟩:Addr)=some ad∧∀ (j:Nat) u,(aS rs)[j]?=some u→W.cell? (ad.add j)=some u):=aA fun W hW _=>⟨⟨b,off,none⟩,rfl,fun j u hu=>by rw[eK,hW.cell (p:=⟨b,off+j,none⟩) hb];exact hcl j u hu⟩
 have HV1:=aA (dL rs);have HRS:=aA hrs;have HRD:=aA hrd;have hby:i1.bytes * l.length≤281474976710656:=by rw[kz2];omega
 have hml:l.length≤maxLen:=by unfold maxLen;omega
 have HVN:=aA (show (aS rs).length=l.length * 5 by rw[cT,←hrs,List.length_map])
 have HD:=aA (show (madeCells (Value.agg #[.string ⟨#[]⟩,.string ⟨#[]⟩,.int .i64 0,.bool false,.slice none 0 0]).cells (l.length * 5)).toList.drop (l.length * 5)=[] from uK _ _)
 have HFIN:=aA (show ∀ W:World,W.ownsRow w.heap.size 42 5 (.slice (some ⟨w.heap.size,0,none⟩) l.length l.length) l.length (aS rs)→kA w W w.heap.size l.length 0 l from fun W hW=>⟨rs,hrs,hW,fun i r hr _=>hrd r (List.mem_of_getElem? hr),fun i r hr hi=>absurd hi (Nat.not_lt_zero _)⟩)
 clear h hcl hrs hrd hz;generalize hNN:l.length=N at *;have hne:((N:Int)==0)=false:=by simp;omega
 clear hNN;go_enter Tryz.func77,Tryz.ntmps77;go_wp2_with (first
  | (at_make;refine wpList_make_full _ rfl (.tmp 8) (.tmp 8) 24 rfl w.heap.size 42 i1 (.agg #[.string ⟨#[]⟩,.string ⟨#[]⟩,.int .i64 0,.bool false,.slice none 0 0]) 5 Tryz.underlying24 ki kz0 kz1 .i64 .i64 _ _ N rfl rfl (by simp) (by simp) hby hml (Nat.le_refl _) ?_;intro w1 ho1 hg1;have O1:=aA ho1;have B1:=aA (uE hg1);clear ho1 hg1)
  | (refine lR rfl (.tmp 10) (.tmp 11) 24 rfl w.heap.size 42 i1 5 Tryz.underlying24 ki kz1 (by decide) w.heap.size N N _ rfl O1.out (some ⟨b,off,none⟩) N c (aS rs) rfl (Nat.le_refl _) HVN.out (HC.out w1 B1.out) HV1.out ?_;rw[HD.out,List.append_nil];intro w2 ho2 hk2;have O2:=aA ho2;have B2:=aA (B1.out.trans (hk2.below (B:=w.heap.size) B1.out.size (fun b hb e=>by omega)));clear ho2 hk2))
 go_ret
 exact ⟨rfl,HFIN.out _ O2.out,B2.out⟩
theorem zU (c:Nat) (a:Option Addr) (w:World) :
  Calls Tryz.prog 77 #[.slice a 0 c] w fun r w'=>r=.returned (.slice none 0 0)∧w'=w:=by
 go_enter Tryz.func77,Tryz.ntmps77;go_wp2_with fail
 go_ret
 exact ⟨rfl,rfl⟩
theorem yK (a:Option Addr) (c n:Nat) (l:List Sn) (w:World) (h:RdS w a l) (hn:n=l.length) (hl:l.length≤1048576) (hs:bW l) :
  Calls Tryz.prog 29 #[.slice a n c] w fun r w'=>∃ av cv,r=.returned (.slice av l.length cv)∧nC w.heap.size w' av l∧Below w.heap.size w w':=by
 subst hn;have HS:=aA hs;by_cases hz:l=[]
 ·subst hz
  go_enter Tryz.func29,Tryz.ntmps29;go_wp2_with fail
  refine (zU _ _ _).mono ?_;rintro r w1 ⟨rfl,rfl⟩;go_wp2_with fail
  go_loopw [10] (fun i wr=>i=.int .i64 0∧wr=w1) (fun _ _=>0)
  case atStart=>exact ⟨rfl,rfl⟩
  case round =>
   obtain ⟨rfl,hw9⟩:=hrel;subst hw9;go_wp2_with fail
   go_ret
   exact ⟨none,0,rfl,nC.nil _ _ _,Below.refl _ _⟩
 ·have h0:0<l.length:=List.length_pos_iff.2 hz
  have HCR:=aA (zT a c l.length l w h rfl hl h0);clear h hz hs;go_enter Tryz.func29,Tryz.ntmps29;go_wp2_with fail
  refine HCR.out.mono ?_;rintro r w1 ⟨rfl,hR1,hb1⟩;have B1:=aA hb1;have R1:=aA hR1;have hg1:w.heap.size<w1.heap.size:=by obtain ⟨rs,-,h2,-⟩:=hR1;exact (h2.lt w.heap.size rfl).2
  clear hR1 hb1 HCR;go_wp2_with fail
  go_loopw [10] (fun i wr=>∃ k:Nat,k≤l.length∧i=.int .i64 k∧Hid (kA w wr w.heap.size l.length k l)∧Hid (Below w.heap.size w wr)∧w.heap.size<wr.heap.size) (fun i _=>l.length - (intOf i).toNat)
  case atStart=>exact ⟨0,Nat.zero_le _,rfl,R1,B1,hg1⟩
  case round =>
   obtain ⟨k,hk,rfl,HX,HW,hgw⟩:=hrel;by_cases hlt:k<l.length
   ·obtain ⟨b,off,s,x,cc,hbb,hb,hsl,c0,c1,c2,c3,c4,hr⟩:=(HX.out.rd HW.out).at hlt
    simp only[Option.some.injEq,Addr.mk.injEq,and_true]at hbb;obtain ⟨rfl,rfl⟩:=hbb;rw[Nat.zero_add]at c0 c1 c2 c3 c4;have hsm:=HS.out.2 s (List.mem_of_getElem? hsl);have hsm1:=hsm.1;have hsm2:=hsm.2.1;have hsm3:=hsm.2.2.1;have HSE:=aA hsm.2.2.2;have HE:=aA hsl;have hk0:(0:Int)≤(k:Int):=by omega
    have hk1:(k:Int)<(l.length:Int):=by omega
    have BA:=aA (aC wr (.cells #[.string (str s.name),.string (str s.parent),.int .i64 s.kind,.bool s.lease,.slice x s.layer.length cc] 42));have FE:=aA (fF.new wr (.string (str s.name)) (.string (str s.parent)) (.int .i64 s.kind) (.bool s.lease) (.slice x s.layer.length cc) 42);have HRL:Hid (RdE w x s.layer):=aA (by
     obtain ⟨rs,r,q1,q2,q3,q4,q5,-⟩:=HX.out.row hsl;have hg:=(q4.cellAt (k * 5+4) (by omega)).trans (lQ rs k 4 r q2 (by decide))
     rw[c4]at hg;simp only[bS,List.getElem?_cons_succ,List.getElem?_cons_zero,Option.some.injEq,Value.slice.injEq]at hg
     have:=q5 k r q2 (Nat.le_refl _);rw[q3]at this;rw[hg.1];exact this)
    clear hsl hr hsm;go_wp2_with fail
    have HX1:=aA (HX.out.below BA.out);generalize hWE:wr.alloc (.cells #[.string (str s.name),.string (str s.parent),.int .i64 s.kind,.bool s.lease,.slice x s.layer.length cc] 42)=WE at *;have hsE:wr.heap.size<WE.heap.size:=FE.out.lt;have hne:w.heap.size≠wr.heap.size:=by omega
    have hgE:w.heap.size<WE.heap.size:=by omega
    clear hWE c0 c1 c2 c3 c4;refine (nQ (str s.name) _ (by rw[aN];omega)).mono ?_
    rintro r w2 ⟨rfl,hb2⟩;have X2:=aA (HX1.out.below hb2);have FE2:=aA (FE.out.below hb2);have BB2:=aA (aB HW.out (aB BA.out hb2));have hs2:=hb2.size;have fz0:w2.frozen? ⟨w.heap.size,k * 5,none⟩=false:=by obtain ⟨rs,-,h2,-⟩:=X2.out;exact h2.frozenAt _
    obtain ⟨b,off,s',x',cc',hbb,hb',he',d0,d1,d2,d3,d4,-⟩:=(X2.out.rd BB2.out).at hlt;simp only[Option.some.injEq,Addr.mk.injEq,and_true]at hbb;obtain ⟨rfl,rfl⟩:=hbb;rw[Nat.zero_add]at d0;have X3:=aA (X2.out.same (q:=0) HE.out (by decide) (u:=.string (str s.name)) rfl)
    rw[Nat.add_zero]at X3;have FE3:=aA (FE2.out.kept (aE.setCell (S:=fun b=>b=w.heap.size) (p:=⟨w.heap.size,k * 5,none⟩) (aE.refl _ w2) (fun _=>rfl) (.string (str s.name))) (fun e=>hne e.symm))
    have BB3:=aA (BB2.out.setCell (p:=⟨w.heap.size,k * 5,none⟩) (Nat.le_refl _) (.string (str s.name)));have hS3:(w2.setCell ⟨w.heap.size,k * 5,none⟩ (.string (str s.name))).heap.size=w2.heap.size:=by simp[World.setCell]
    obtain ⟨e0,e1,e2,e3,e4⟩:=FE3.out;clear hb2 d1 d2 d3 d4 he';go_wp2_with fail
    clear e0 e1 e2 e3 e4 d0 fz0;generalize w2.setCell ⟨w.heap.size,k * 5,none⟩ (.string (str s.name))=W3 at *;refine (nQ (str s.parent) _ (by rw[aN];omega)).mono ?_
    rintro r w4 ⟨rfl,hb4⟩;have X4:=aA (X3.out.below hb4);have FE4:=aA (FE3.out.below hb4);have BB4:=aA (aB BB3.out hb4);have hs4:=hb4.size;have fz0:w4.frozen? ⟨w.heap.size,k * 5+1,none⟩=false:=by obtain ⟨rs,-,h2,-⟩:=X4.out;exact h2.frozenAt _
    obtain ⟨b,off,s',x',cc',hbb,hb',he',d0,d1,d2,d3,d4,-⟩:=(X4.out.rd BB4.out).at hlt;simp only[Option.some.injEq,Addr.mk.injEq,and_true]at hbb;obtain ⟨rfl,rfl⟩:=hbb;rw[Nat.zero_add]at d1;have X5:=aA (X4.out.same (q:=1) HE.out (by decide) (u:=.string (str s.parent)) rfl)
    have FE5:=aA (FE4.out.kept (aE.setCell (S:=fun b=>b=w.heap.size) (p:=⟨w.heap.size,k * 5+1,none⟩) (aE.refl _ w4) (fun _=>rfl) (.string (str s.parent))) (fun e=>hne e.symm))
    have BB5:=aA (BB4.out.setCell (p:=⟨w.heap.size,k * 5+1,none⟩) (Nat.le_refl _) (.string (str s.parent)));have hS5:(w4.setCell ⟨w.heap.size,k * 5+1,none⟩ (.string (str s.parent))).heap.size=w4.heap.size:=by simp[World.setCell]
    obtain ⟨e0,e1,e2,e3,e4⟩:=FE5.out;clear hb4 d0 d2 d3 d4 he';go_wp2_with fail
    clear e0 e1 e2 e3 e4 d1 fz0;generalize w4.setCell ⟨w.heap.size,k * 5+1,none⟩ (.string (str s.parent))=W5 at *;refine (oG x cc s.layer.length s.layer W5 (HRL.out.below BB5.out) rfl hsm3 HSE.out).mono ?_;rintro r w6 ⟨av,cv,rfl,hG6,hb6⟩;have X6:=aA (X5.out.below hb6);have BB6:=aA (aB BB5.out hb6);have G6:=aA hG6;have hs6:=hb6.size;have fz0:w6.frozen? ⟨w.heap.size,k * 5+4,none⟩=false:=by obtain ⟨rs,-,h2,-⟩:=X6.out;exact h2.frozenAt _
    obtain ⟨b,off,s',x',cc',hbb,hb',he',d0,d1,d2,d3,d4,-⟩:=(X6.out.rd BB6.out).at hlt;simp only[Option.some.injEq,Addr.mk.injEq,and_true]at hbb;obtain ⟨rfl,rfl⟩:=hbb;rw[Nat.zero_add]at d4;clear hG6 hb6 d0 d1 d2 d3 he';go_wp2_with fail
    go_roundw
    case rel =>
     refine ⟨k+1,by omega,by go_num,aA ?_,aA ?_,?_⟩
     ·exact X6.out.lay HE.out (G6.out.mono (by omega))
     ·exact BB6.out.setCell (p:=⟨w.heap.size,k * 5+4,none⟩) (Nat.le_refl _) _
     ·simp[World.setCell];omega
    case measure=>simp[intOf];omega
   ·have HRD:=aA (HX.out.held (by omega))
    go_wp2_with fail
    go_ret
    exact ⟨some ⟨w.heap.size,0,none⟩,l.length,rfl,HRD.out,HW.out⟩
def GS (B:Nat) (w:World) (v:Value) (l:List Sn):Prop :=
 ∃ rs:List Rs,rs.map Rs.s=l∧w.ownsRow B 42 5 v l.length (aS rs)∧∀ r∈rs,GW B w (.slice r.a r.s.layer.length r.c) r.s.layer
theorem GS.shape {B:Nat} {w:World} {v:Value} {l:List Sn} (h:GS B w v l):∃ a c,v=.slice a l.length c:=by
 obtain ⟨rs,_,h1,_⟩:=h;exact aR h1
theorem GS.made (w:World):GS w.heap.size (w.alloc (.cells #[] 42)) (.slice (some ⟨w.heap.size,0,none⟩) 0 0) [] :=
 ⟨[],rfl,World.ownsRow_made w #[] 0 (Nat.le_refl _) (Nat.zero_le _) rfl,fun r hr=>by simp at hr⟩
theorem GS.kept {S:Nat→Prop} {B:Nat} {w w':World} {v:Value} {l:List Sn} (h:GS B w v l) (hk:aE S w w') (hS:∀ b,B≤b→¬ S b):GS B w' v l:=by
 obtain ⟨rs,h1,h2,h3⟩:=h;exact ⟨rs,h1,aK h2 hk (fun b hb hs=>hS b (h2.lt b hb).1 hs),fun r hr=>(h3 r hr).kept hk hS⟩
theorem GS.below {B:Nat} {w w':World} {v:Value} {l:List Sn} (h:GS B w v l) (hk:Below w.heap.size w w'):GS B w' v l:=h.kept (S:=fun _=>False) (aE.of_below hk) (fun _ _=>id)
theorem GS.mono {B B':Nat} {w:World} {v:Value} {l:List Sn} (h:GS B w v l) (hb:B'≤B):GS B' w v l:=by
 obtain ⟨rs,h1,h2,h3⟩:=h;exact ⟨rs,h1,aW h2 hb,fun r hr=>(h3 r hr).mono hb⟩
theorem GS.rd {B:Nat} {w:World} {a:Option Addr} {n c:Nat} {l:List Sn} (h:GS B w (.slice a n c) l):RdS w a l:=by
 obtain ⟨rs,h1,h2,h3⟩:=h;exact oZ h1 h2 (fun r hr=>GW.rd (h3 r hr))
theorem GS.later {S:Nat→Prop} {B:Nat} {w w' w2:World} {v:Value} {l:List Sn} (h:GS B w v l) (hb:Below w.heap.size w w') (hk:aE S w' w2) (hS:∀ b,S b→w.heap.size≤b):GS B w2 v l:=by
 obtain ⟨rs,h1,h2,h3⟩:=h;have key:∀ {e:TypeId} {s n:Nat} {u:Value} {xs:List Value},w.ownsRow B e s u n xs→w2.ownsRow B e s u n xs:=fun ho =>
  aK (aJ ho hb) hk (fun b hbb hs=>by have h8:=(ho.lt b hbb).2;have h9:=hS b hs;omega)
 refine ⟨rs,h1,key h2,fun r hr=>?_⟩
 obtain ⟨qs,e,g1,g2⟩:=h3 r hr;exact ⟨qs,e,key g1,fun q hq=>key (g2 q hq)⟩
theorem GS.push {B:Nat} {w w2:World} {v v':Value} {l:List Sn} {rs:List Rs} {s:Sn} {a:Option Addr} {c m:Nat} (he:rs.map Rs.s=l) (hm:m=l.length) (h1:w.ownsRow B 42 5 v m (aS rs)) (h2:∀ r∈rs,GW B w (.slice r.a r.s.layer.length r.c) r.s.layer) (hG:GW B w (.slice a s.layer.length c) s.layer)
  (hv':w2.ownsRow B 42 5 v' (m+1) (aS rs++bS ⟨s,a,c⟩)) (hk:aE (fun b=>v.ownBlock=some b) w w2):GS B w2 v' (l ++ [s]):=by
 subst hm;refine ⟨rs ++ [⟨s,a,c⟩],by rw[List.map_append,he];rfl,?_,fun r hx=>?_⟩
 ·rw[nK,List.length_append]
  simpa [aS] using hv'
 ·rcases List.mem_append.1 hx with hx | hx
  ·exact (h2 r hx).apart h1 (by decide) (by decide) hk
  ·simp only[List.mem_singleton]at hx
   subst hx;exact hG.apart h1 (by decide) (by decide) hk
theorem fF.set4' {w:World} {b:Nat} {u0 u1 u2 u3 u4:Value} (h:fF w b u0 u1 u2 u3 u4) (v:Value):fF (w.setCell ⟨b,4,none⟩ v) b u0 u1 u2 u3 v:=by
 have ne:∀ j:Nat,4≠j→(⟨b,4,none⟩:Addr)≠⟨b,j,none⟩:=fun j hij e=>hij (by injection e)
 obtain ⟨h0,h1,h2,h3,h4⟩:=h;exact ⟨(aD (ne 0 (by decide))).trans h0,(aD (ne 1 (by decide))).trans h1,(aD (ne 2 (by decide))).trans h2,(aD (ne 3 (by decide))).trans h3,bK h4⟩
theorem dI (a:Option Addr) (c n:Nat) (l:List Sn) (w:World) (h:RdS w a l) (hn:n=l.length) (hl:l.length≤1048576) (hs:bW l) :
  Calls Tryz.prog 79 #[.slice a n c] w fun r w'=>∃ av cv,r=.returned (.slice av l.length cv)∧GS w.heap.size w' (.slice av l.length cv) l∧Below w.heap.size w w':=by
 subst hn;obtain ⟨i1,ki,kz0,kz1,kz2⟩:=info_parts Tryz.infoSn;have HA:=aA h;have HS:=aA hs;clear h hs;go_enter Tryz.func79,Tryz.ntmps79;go_wp2_with fail
 go_loopw [3,4] (fun v i wr=>∃ j:Nat,j≤l.length∧i=.int .i64 j∧Hid (GS w.heap.size wr v (l.take j))∧Hid (Below w.heap.size w wr)) (fun _ i _=>l.length - (intOf i).toNat)
 case atStart=>exact ⟨0,Nat.zero_le _,rfl,aA (GS.made w),aA (aC _ _)⟩
 case round =>
  obtain ⟨j,hj,rfl,HG,HW⟩:=hrel;obtain ⟨lv,lc,hv⟩:=HG.out.shape;rw[eW hj]at hv;subst hv;have hsz:=HW.out.size;by_cases hlt:j<l.length
  ·obtain ⟨b,off,s,x,cc,rfl,hb,hsl,c0,c1,c2,c3,c4,hr⟩:=(HA.out.below HW.out).at hlt
   have HX:=aA hsl;have hsm:=HS.out.2 s (List.mem_of_getElem? hsl);have hs3:=hsm.2.2.1;have HSE:=aA hsm.2.2.2;have BA:=aA (aC wr (.cells #[.string (str s.name),.string (str s.parent),.int .i64 s.kind,.bool s.lease,.slice x s.layer.length cc] 42));have XE:=aA (kG.new wr (.string (str s.name)) (.string (str s.parent)) (.int .i64 s.kind) (.bool s.lease) (.slice x s.layer.length cc) 42);have HRL:=aA (hr.below BA.out);clear hsl hr hsm;go_wp2_with fail
   clear c0 c1 c2 c3 c4;have HG1:=aA (HG.out.below BA.out);have hsz1:(wr.alloc (.cells #[.string (str s.name),.string (str s.parent),.int .i64 s.kind,.bool s.lease,.slice x s.layer.length cc] 42)).heap.size=wr.heap.size+1:=by simp
   generalize wr.alloc (.cells #[.string (str s.name),.string (str s.parent),.int .i64 s.kind,.bool s.lease,.slice x s.layer.length cc] 42)=WE at *;refine (iA x cc s.layer.length s.layer WE HRL.out rfl hs3 HSE.out).mono ?_;rintro r w2 ⟨g2,cv2,rfl,-,hG2,hb2⟩;have B2:=aA (aB BA.out hb2);have G2:=aA (GW.of hG2);have HG2:=aA (HG1.out.below hb2);have XE2:=aA (XE.out.below hb2);have hs2:=hb2.size;obtain ⟨⟨e0,e1,e2,e3,e4⟩,ef⟩:=XE2.out;have ef4:=ef 4;clear hG2 hb2 ef;have KS:=aA (aE.setCell (S:=fun q=>q=wr.heap.size) (p:=⟨wr.heap.size,4,none⟩) (aE.refl _ w2) (fun _=>rfl) (.slice (some ⟨g2,0,none⟩) s.layer.length cv2))
   have FS:Hid (fF (w2.setCell ⟨wr.heap.size,4,none⟩ (.slice (some ⟨g2,0,none⟩) s.layer.length cv2)) wr.heap.size (.string (str s.name)) (.string (str s.parent)) (.int .i64 s.kind) (.bool s.lease) (.slice (some ⟨g2,0,none⟩) s.layer.length cv2)):=aA (fF.set4' XE2.out.1 _);have GY:=aA (HG.out.later B2.out KS.out (fun q e=>by omega))
   have LY:=aA (G2.out.kept KS.out (fun q hq e=>by omega))
   have BY:=aA ((aB HW.out B2.out).setCell (p:=⟨wr.heap.size,4,none⟩) (by show w.heap.size≤wr.heap.size;omega) (.slice (some ⟨g2,0,none⟩) s.layer.length cv2))
   have hsY:=KS.out.size;have hm1:j+1≤maxLen:=by unfold maxLen;omega
   have hm1':(j+1) * 72≤140737488355328:=by omega
   obtain ⟨f0,f1,f2,f3,f4⟩:=FS.out;obtain ⟨rs,q1,q2,q3⟩:=GY.out;rw[eW hj]at q2;have Q1:=aA q1;have Q2:=aA q2;have Q3:=aA q3;have HJ:=aA (eW hj);clear q1 q2 q3 HG HG1 HG2 KS GY;have HYS:=aA (show w2.heap.size=(w2.setCell ⟨wr.heap.size,4,none⟩ (.slice (some ⟨g2,0,none⟩) s.layer.length cv2)).heap.size by simp[World.setCell])
   go_wp2_with (at_builtin;generalize w2.setCell ⟨wr.heap.size,4,none⟩ (.slice (some ⟨g2,0,none⟩) s.layer.length cv2)=Y at *;rw[HYS.out];refine dJ rfl (.tmp 21) (.tmp 23) 24 rfl w.heap.size 42 i1 (.agg #[.string ⟨#[]⟩,.string ⟨#[]⟩,.int .i64 0,.bool false,.slice none 0 0]) 5 72 Tryz.underlying24 ki kz0 kz1 kz2 rfl (by decide) _ _ _ rfl Q2.out _ rfl rfl rfl (by intro u hu;simp at hu;rcases hu with rfl | rfl | rfl | rfl | rfl <;> rfl) hm1 hm1' (by omega) ?_;intro av6 cv6 w6 hown6 hk6;have O6:=aA hown6;have K6:=aA hk6;clear hown6 hk6)
   go_roundw
   case rel =>
    refine ⟨j+1,by omega,by go_num,aA ?_,aA ?_⟩
    ·rw[bQ HX.out]
     exact GS.push (s:=s) (a:=some ⟨g2,0,none⟩) (c:=cv2) Q1.out HJ.out.symm Q2.out Q3.out (LY.out.mono (by omega)) O6.out K6.out
    ·exact BY.out.trans (K6.out.below (by omega) (fun q hq hS=>by have:=(Q2.out.lt q hS).1;omega))
   case measure=>simp[intOf];omega
  ·have hje:j=l.length:=by omega
   have HE:=aA (show l.take j=l from List.take_of_length_le (by omega))
   have HG2:Hid (GS w.heap.size wr (.slice lv j lc) l):=by have:=HG.out;rw[HE.out]at this;exact this
   clear HG HE;subst hje;go_wp2_with fail
   go_ret
   exact ⟨lv,lc,rfl,HG2.out,HW.out⟩
end Go.Proofs.YtgaeikgoknoamaaGreat
namespace Go.Proofs.YtgaeikgoknoamaaGreat
open Go.RowKit
theorem yF {P:Program} {w:World} {ops:Array Oper} {o:Oper} {a:Act} {K:Act→World→Prop} {Q:Exit→Act→World→Prop} {E:Prop} (hgd:o.guard=none) (s x:Operand) (t:TypeId)
  (ho:o.op=.call { callee:=.builtin .append,args:=#[s,x],argTypes:=#[t,t] })
  (base:Nat) (e:TypeId) (i:TypeInfo) (z:Value) (size bytes:Nat) (ht:P.underlying t=some (.slice e)) (hi:P.info? e=some i) (hz:i.zero=some z)
  (hsize:i.size=size) (hby:i.bytes=bytes) (hzs:z.cells.size=size) (hsz:0<size)
  (v:Value) (n:Nat) (xs:List Value) (hs:a.eval s=v) (hown:w.ownsRow base e size v n xs)
  (ad:Addr) (m c:Nat) (news:List Value) (hx:a.eval x=.slice (some ad) m c) (hl:news.length=m * size) (hnews:∀ j u,news[j]?=some u→w.cell? (ad.add j)=some u) (h1:∀ u∈news,u.oneCell'=true)
  (N:Nat) (hN:n+m=N) (h63:n+m≤maxLen) (hbytes:(n+m) * bytes≤140737488355328) (hbase:base≤w.heap.size)
  (h:∀ av cv w',w'.ownsRow base e size (.slice av N cv) N (xs++news)→aE (fun b=>v.ownBlock=some b) w w'→K (a.put o.dst (.slice av N cv)) w') :
  if Region.wanted o (yielded ops a.tmps)=true then Oper.wp P o a w K Q else E:=by
 have hw:Region.wanted o (yielded ops a.tmps)=true:=by simp[Region.wanted,hgd]
 rw[if_pos hw];refine wp_append_own w s x t ho base e i z size bytes ht hi hz hsize hby hzs hsz v n xs hs hown ad m c news hx hl hnews h1 h63 hbytes hbase fun v' w' h2 h3 _=>?_
 rw[hN]at h2;obtain ⟨av,cv,rfl⟩:=aR h2;exact h av cv w' h2 ⟨h3.os,h3.tape,h3.output,h3.size,fun q hq hn=>h3.block q hq (fun e=>hn e.symm)⟩
theorem zv2 (b o j:Nat):(⟨b,o,none⟩:Addr).add j=⟨b,o+j,none⟩:=by unfold Addr.add;split <;> simp_all
end Go.Proofs.YtgaeikgoknoamaaGreat
namespace Go.Proofs.YtgaeikgoknoamaaGreat
open Go.RowKit Go.Maps Go.Sort
attribute [local go_sem ↓] Go.wp_at_zero Go.wp_at_succ
def zO (q rep:Int) (l:List Sn) (w:World) (r:Ending) (w':World):Prop :=
 ∃ av cv,r=.returned (.agg #[.int .i64 q,.int .i64 rep,.slice av l.length cv])∧nC w.heap.size w' av l∧Below w.heap.size w w'
theorem aE.three' (w:World) (b:Nat) (u0 u1 u2:Value):aE (fun x=>x=b) w (((w.setCell ⟨b,0,none⟩ u0).setCell ⟨b,1,none⟩ u1).setCell ⟨b,2,none⟩ u2) :=
 aE.setCell (S:=fun x=>x=b) (p:=⟨b,2,none⟩) (aE.setCell (S:=fun x=>x=b) (p:=⟨b,1,none⟩) (aE.setCell (S:=fun x=>x=b) (p:=⟨b,0,none⟩) (aE.refl _ w) (fun _=>rfl) u0) (fun _=>rfl) u1) (fun _=>rfl) u2
theorem zO.of {q rep:Int} {l:List Sn} {w w3:World} {B b n:Nat} {av:Option Addr} {cv:Nat} {u0 u1 u2:Value} (hB:b<B) (hw:w.heap.size≤b) (hn:n=l.length) (hG:nC B w3 av l) (hb:Below w.heap.size w w3) :
  zO q rep l w (.returned (.agg #[.int .i64 q,.int .i64 rep,.slice av n cv])) (((w3.setCell ⟨b,0,none⟩ u0).setCell ⟨b,1,none⟩ u1).setCell ⟨b,2,none⟩ u2):=by
 subst hn;exact ⟨av,cv,rfl,fun w' hk=>hG _ (((aE.three' w3 b u0 u1 u2).mono (fun x _ e=>by omega)).trans (hk.mono (fun x _ e=>by omega))),((hb.setCell (p:=⟨b,0,none⟩) hw _).setCell (p:=⟨b,1,none⟩) hw _).setCell (p:=⟨b,2,none⟩) hw _⟩
end Go.Proofs.YtgaeikgoknoamaaGreat
