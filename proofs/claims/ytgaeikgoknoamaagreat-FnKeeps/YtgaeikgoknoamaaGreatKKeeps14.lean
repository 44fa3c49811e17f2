/-
  Texts put together: SnpG SnqC SnpC SnqD AppL SnpI SnqE SnqF.
-/
import Derived.Test.YtgaeikgoknoamaaGreatKKeeps13
import Derived.Shelf.SlSortCmp.WholeK
import Derived.Ground.SlsfProg
import Derived.Test.YtgaeikgoknoamaaGreatProg
import Derived.Test.YtgaeikgoknoamaaGreatKKeeps9
import Derived.Test.YtgaeikgoknoamaaGreatKKeeps1
import Derived.Maps.AppendAt
import Derived.Test.YtgaeikgoknoamaaGreatKKeeps10
set_option linter.unusedVariables false
set_option maxHeartbeats 6400000
set_option maxRecDepth 100000
namespace Go.Proofs.YtgaeikgoknoamaaGreat
open Go.RowKit Go.Maps
attribute [local go_sem ↓] Go.wp_at_zero Go.wp_at_succ
theorem zm3 {p:Option Sn} {s:Sn} (h:fL s.name=false):lW p s=5:=by unfold lW;rw[h];rfl
theorem zl3 {p:Option Sn} {s:Sn} (h:fL s.name=true) (h2:((s.kind==1||s.kind==2)&&!lwQ p s)=false):lW p s=1:=by unfold lW;rw[h,h2];rfl
theorem zs6 {p:Option Sn} {s:Sn} (h:fL s.name=true) (hk:(s.kind==1||s.kind==2)=true) (hl:lwQ p s=false):lW p s=bE s.layer:=by unfold lW;rw[h,hk,hl];rfl
theorem lD (a:Option Addr) (c n:Nat) (l:List Sn) (w:World) (h:RdS w a l) (hn:n=l.length) (hl:l.length≤1048576) (hs:dF l) :
  Calls Tryz.prog 11 #[.slice a n c] w fun r w'=>r=.returned (.int .i64 (snF l))∧Below w.heap.size w w':=by
 subst hn;obtain ⟨F,hF⟩:∃ F:Int,F=snF l:=⟨_,rfl⟩;rw[←hF];by_cases hm:10<l.length
 ·have HE:=aA (show F=2 by rw[hF];unfold snF;rw[if_pos hm])
  have hm':(10:Int)<(l.length:Int):=by omega
  clear hF hm h hs;go_enter Tryz.func11,Tryz.ntmps11;go_wp2_with fail
  go_ret
  exact ⟨aM HE.out.symm,Below.refl _ _⟩
 obtain ⟨H,hH⟩:∃ H:Int,H=gH none l:=⟨_,rfl⟩;have HF:=aA (show F=if H=0 then fR l l else H by rw[hF,hH];unfold snF;rw[if_neg hm])
 have HH:=aA (show H=gH (eB l 0) (l.drop 0) by rw[hH];rfl)
 have HNM:=aA (show H=0→∀ s∈l,s.name≠[] from fun h0 s hs=>iC ((nM.1 (hH ▸ h0)).1 s hs).1)
 have HR:=aA h;have HS:=aA hs;have hm':¬ (10:Int)<(l.length:Int):=by omega
 clear hF hH hm h hs;go_enter Tryz.func11,Tryz.ntmps11;go_wp2_with fail
 go_loopw [14] (fun i wr=>∃ k:Nat,k≤l.length∧i=.int .i64 k∧Hid (H=gH (eB l k) (l.drop k))∧Hid (Below w.heap.size w wr)) (fun i _=>l.length - (intOf i).toNat)
 case atStart=>exact ⟨0,Nat.zero_le _,rfl,HH,aA (Below.refl _ _)⟩
 case round =>
  obtain ⟨k,hk,rfl,HK,HW⟩:=hrel;by_cases hlt:k<l.length
  ·obtain ⟨b,off,s,x,cc,rfl,hb,hsl,c0,c1,c2,c3,c4,hr⟩:=(HR.out.below HW.out).at hlt
   have HX:=aA hsl;have hsm:=HS.out.2 s (List.mem_of_getElem? hsl);have HSM:=aA hsm.2.2.2;have BA:=aA (aC wr (.cells #[.string (str s.name),.string (str s.parent),.int .i64 s.kind,.bool s.lease,.slice x s.layer.length cc] 42));have F5:=aA (gT.new wr (.string (str s.name)) (.string (str s.parent)) (.int .i64 s.kind) (.bool s.lease) (.slice x s.layer.length cc) 42);have HRL:=aA (hr.below BA.out);have HW1:=aA (aB HW.out BA.out);have hl1:=hsm.1;have hl2:=hsm.2.2.1;clear hsl hr hsm;go_wp2_with fail
   clear c0 c1 c2 c3 c4 BA;generalize hW1:wr.alloc (.cells #[.string (str s.name),.string (str s.parent),.int .i64 s.kind,.bool s.lease,.slice x s.layer.length cc] 42)=W1 at *;generalize hB1:wr.heap.size=b1 at *;clear hW1 hB1;refine (zx1 s.name _ hl1).mono ?_;rintro r w1 ⟨rfl,rfl⟩;obtain ⟨f0,f1,f2,f3,f4⟩:=F5.out;cases hnm:fL s.name
   ·have HO:=aA (pA HK.out HX.out (by rw[zm3 hnm];decide))
    have HO2:=aA (show F=5 by rw[HF.out,HO.out,zm3 hnm];rfl)
    clear hnm;go_wp2_with fail
    go_ret
    exact ⟨aM HO2.out.symm,HW1.out⟩
   ·have HNK:=aA hnm
    have HKD:=aA (fun u=>zw1 s.kind u)
    cases hkd:(s.kind==1||s.kind==2)
    ·have H1:=aA (zl3 (p:=eB l k) HNK.out (by rw[hkd];rfl))
     have HO:=aA (pA HK.out HX.out (by rw[H1.out];decide))
     have HO2:=aA (show F=1 by rw[HF.out,HO.out,H1.out];rfl)
     rw[hkd]at HKD;clear hnm hkd;go_wp2_with fail
     go_quiet ((go_at_call 34;exact Calls.quiet_of ((HKD.out _).mono (fun e w' ⟨he,hw⟩=>⟨he,0,hw⟩))))
     go_wp2_with fail
     go_ret
     exact ⟨aM HO2.out.symm,below_drewN HW1.out _⟩
    ·have HKK:=aA hkd
     rw[hkd]at HKD;clear hnm hkd;have step:∀ (nq:Nat),lwQ (eB l k) s=false→True:=fun _ _=>trivial
     cases k with
     | zero =>
      have HL:=aA (show lwQ (eB l 0) s=false from rfl)
      go_wp2_with fail
      go_quiet ((go_at_call 34;exact Calls.quiet_of ((HKD.out _).mono (fun e w' ⟨he,hw⟩=>⟨he,0,hw⟩))))
      have HW2:=aA (below_drewN HW1.out nq);have HRL2:=aA (HRL.out.below (below_drewN (Below.refl _ _) nq));obtain ⟨g0,g1,g2,g3,g4⟩:=F5.out.below (below_drewN (Below.refl _ _) nq);clear f0 f1 f2 f3 f4;generalize World.drewN _ nq=W at *;go_wp2_with fail
      refine (jA x cc s.layer.length s.layer W HRL2.out rfl hl2 HSM.out).mono ?_;rintro r w4 ⟨rfl,hb4⟩;have HW3:=aA (aB HW2.out hb4);have H1:=aA (zs6 HNK.out HKK.out HL.out);clear hb4;by_cases hz:bE s.layer=0
      ·have HO:=aA (zj0 HK.out HX.out (by rw[H1.out,hz]))
       rw[hz];clear hz;go_wp2_with fail
       go_roundw
       case rel=>exact ⟨1,by omega,by go_num,HO,HW3⟩
       case measure=>simp[intOf];omega
      ·have HO:=aA (pA HK.out HX.out (by rw[H1.out];exact hz))
       have HO2:=aA (show F=bE s.layer by rw[HF.out,HO.out,H1.out,if_neg hz])
       have hz2:(bE s.layer != 0)=true:=by simp;exact hz
       clear hz;go_wp2_with fail
       go_ret
       exact ⟨aM HO2.out.symm,HW3.out⟩
     | succ j =>
      have hg:(0:Int)<((j+1:Nat):Int):=by omega
      obtain ⟨b2,off2,s2,x2,cc2,hbb,hb2,hs2,d0,d1,d2,d3,d4,hr2⟩:=(HR.out.below HW1.out).at (show j<l.length by omega)
      simp only[Option.some.injEq,Addr.mk.injEq,and_true]at hbb;obtain ⟨rfl,rfl⟩:=hbb;have HL:=aA (show lwQ (eB l (j+1)) s=(Op.bytesLess s.name s2.name||(s.name==s2.name)) from by simp[eB,lwQ,hs2])
      clear hs2 d1 d2 d3 d4 hr2;cases hlow:(Op.bytesLess (str s.name).toList (str s2.name).toList||((str s.name).toList==(str s2.name).toList))
      ·have HL2:=aA (show lwQ (eB l (j+1)) s=false from by rw[HL.out];rw[aN,aN]at hlow;exact hlow)
       go_wp2_with fail
       go_quiet ((go_at_call 34;exact Calls.quiet_of ((HKD.out _).mono (fun e w' ⟨he,hw⟩=>⟨he,0,hw⟩))))
       have HW2:=aA (below_drewN HW1.out nq);have HRL2:=aA (HRL.out.below (below_drewN (Below.refl _ _) nq));obtain ⟨g0,g1,g2,g3,g4⟩:=F5.out.below (below_drewN (Below.refl _ _) nq);clear f0 f1 f2 f3 f4 d0;generalize World.drewN _ nq=W at *;go_wp2_with fail
       refine (jA x cc s.layer.length s.layer W HRL2.out rfl hl2 HSM.out).mono ?_;rintro r w4 ⟨rfl,hb4⟩;have HW3:=aA (aB HW2.out hb4);have H1:=aA (zs6 HNK.out HKK.out HL2.out);clear hb4;by_cases hz:bE s.layer=0
       ·have HO:=aA (zj0 HK.out HX.out (by rw[H1.out,hz]))
        rw[hz];clear hz;go_wp2_with fail
        go_roundw
        case rel=>exact ⟨j+1+1,by omega,by go_num,HO,HW3⟩
        case measure=>simp[intOf];omega
       ·have HO:=aA (pA HK.out HX.out (by rw[H1.out];exact hz))
        have HO2:=aA (show F=bE s.layer by rw[HF.out,HO.out,H1.out,if_neg hz])
        have hz2:(bE s.layer != 0)=true:=by simp;exact hz
        clear hz;go_wp2_with fail
        go_ret
        exact ⟨aM HO2.out.symm,HW3.out⟩
      ·have HL2:=aA (show lwQ (eB l (j+1)) s=true from by rw[HL.out];rw[aN,aN]at hlow;exact hlow)
       have H1:=aA (zl3 (p:=eB l (j+1)) HNK.out (by rw[HL2.out,Bool.not_true,Bool.and_false]))
       have HO:=aA (pA HK.out HX.out (by rw[H1.out];decide))
       have HO2:=aA (show F=1 by rw[HF.out,HO.out,H1.out];rfl)
       go_wp2_with fail
       go_quiet ((go_at_call 34;exact Calls.quiet_of ((HKD.out _).mono (fun e w' ⟨he,hw⟩=>⟨he,0,hw⟩))))
       go_wp2_with fail
       go_ret
       exact ⟨aM HO2.out.symm,below_drewN HW1.out _⟩
  ·have h0:=zpe HK.out (by omega)
   have HNE:=aA (HNM.out h0);have HFS:=aA (show F=fR l (l.drop 0) by rw[HF.out,if_pos h0];rfl)
   clear h0 HK HNM HF HH;have hke:k=l.length:=by omega
   clear hlt hk;subst hke;go_wp2_with fail
   go_loopw [51] (fun i wr=>∃ k:Nat,k≤l.length∧i=.int .i64 k∧Hid (F=fR l (l.drop k))∧Hid (Below w.heap.size w wr)) (fun i _=>l.length - (intOf i).toNat)
   case atStart=>exact ⟨0,Nat.zero_le _,rfl,HFS,HW⟩
   case round =>
    clear HW
    rename_i wr2
    obtain ⟨k,hk,rfl,HK,HW⟩:=hrel;by_cases hlt:k<l.length
    ·obtain ⟨b,off,s,x,cc,rfl,hb,hsl,c0,c1,c2,c3,c4,hr⟩:=(HR.out.below HW.out).at hlt
     have HX:=aA hsl;have HNS:=aA (HNE.out s (List.mem_of_getElem? hsl));have BA:=aA (aC wr (.cells #[.string (str s.name),.string (str s.parent),.int .i64 s.kind,.bool s.lease,.slice x s.layer.length cc] 42));have HRL:=aA (hr.below BA.out);have HW1:=aA (aB HW.out BA.out);clear hsl hr;go_wp2_with fail
     clear c0 c1 c2 c3 c4 BA;generalize hW1:wr.alloc (.cells #[.string (str s.name),.string (str s.parent),.int .i64 s.kind,.bool s.lease,.slice x s.layer.length cc] 42)=W1 at *;clear hW1;refine (zf2 _ c l.length l s x cc W1 (HR.out.below HW1.out) HRL.out rfl hl HNE.out HNS.out).mono ?_;rintro r w4 ⟨rfl,hb4⟩;have HW3:=aA (aB HW1.out hb4);clear hb4;by_cases hz:eG l s=0
     ·have HO:=aA (zp7 HK.out HX.out hz)
      rw[hz];clear hz;go_wp2_with fail
      go_roundw
      case rel=>exact ⟨k+1,by omega,by go_num,HO,HW3⟩
      case measure=>simp[intOf];omega
     ·have HO:=aA (zt9 HK.out HX.out hz)
      have hz2:(eG l s != 0)=true:=by simp;exact hz
      clear hz;go_wp2_with fail
      go_ret
      exact ⟨aM HO.out.symm,HW3.out⟩
    ·have HO:=aA (zu9 HK.out (by omega))
     go_wp2_with fail
     go_ret
     exact ⟨aM HO.out.symm,HW.out⟩
theorem zi0 {l:List Sn} {k:Nat} {s:Sn} {F:Int} (h:F=iM (eB l k) (l.drop k)) (hs:l[k]?=some s) (h0:mP (eB l k) s=0):F=iM (eB l (k+1)) (l.drop (k+1)):=by
 rw[h,eS hs,iM,if_pos h0];show iM (some s) _=iM l[k]? _
 rw[hs]
theorem oZ {l:List Sn} {k:Nat} {s:Sn} {F:Int} (h:F=iM (eB l k) (l.drop k)) (hs:l[k]?=some s) (h0:mP (eB l k) s≠0):F=mP (eB l k) s:=by
 rw[h,eS hs,iM,if_neg h0]
theorem zoe {l:List Sn} {k:Nat} {F:Int} (h:F=iM (eB l k) (l.drop k)) (hk:l.length≤k):F=0:=by
 rw[h,List.drop_eq_nil_of_le hk,iM]
theorem yF:∀ {l:List Sn} {prev:Option Sn},iM prev l=0→∀ s∈l,fL s.name=true
 | [],_,_,s,hs=>by simp at hs
 | x :: r,prev,h,s,hs=>by
  unfold iM at h;by_cases h0:mP prev x=0
  ·rw[if_pos h0]at h
   rcases List.mem_cons.1 hs with rfl | hs
   ·unfold mP at h0
    by_cases hn:fL s.name=true
    ·exact hn
    ·rw[if_neg hn]at h0;exact absurd h0 (by decide)
   ·exact yF h s hs
  ·rw[if_neg h0]at h;exact absurd h h0
theorem wT {l r:List Sn} {k:Nat} {s:Sn} {F:Int} (h:F=iD l (r.drop k)) (hs:r[k]?=some s) (h0:jS l s=0):F=iD l (r.drop (k+1)):=by
 rw[h,eS hs,iD,if_pos h0]
theorem sM {l r:List Sn} {k:Nat} {s:Sn} {F:Int} (h:F=iD l (r.drop k)) (hs:r[k]?=some s) (h0:jS l s≠0):F=jS l s:=by
 rw[h,eS hs,iD,if_neg h0]
theorem zs9 {l r:List Sn} {k:Nat} {F:Int} (h:F=iD l (r.drop k)) (hk:r.length≤k):F=0:=by
 rw[h,List.drop_eq_nil_of_le hk,iD]
theorem zk3 {p:Option Sn} {s:Sn} (h:fL s.name=false):mP p s=5:=by unfold mP;rw[h];rfl
theorem zj3 {p:Option Sn} {s:Sn} (h:fL s.name=true) (h2:((s.kind==1||s.kind==2)&&!lwQ p s)=false):mP p s=1:=by unfold mP;rw[h,h2];rfl
theorem zr6 {p:Option Sn} {s:Sn} (h:fL s.name=true) (hk:(s.kind==1||s.kind==2)=true) (hl:lwQ p s=false):mP p s=cD s.layer:=by unfold mP;rw[h,hk,hl];rfl
theorem zuj (k:Int) (w:World):Calls Tryz.prog 111 #[.int .i64 k,.int .i64 1,.int .i64 2] w fun r w'=>r=.returned (.bool (k==1||k==2))∧w'=w:=by
 by_cases h:1≤k∧k≤2
 ·have e:(k==1||k==2)=true:=by
                       have:k=1∨k=2:=by omega
                       rcases this with rfl | rfl <;> rfl
  rw[e];exact mN k 1 2 w h.1 h.2
 ·have e:(k==1||k==2)=false:=by
   have h1:k≠1:=by omega
   have h2:k≠2:=by omega
   simp[h1,h2]
  rw[e];exact xE k 1 2 w (by omega)
theorem gX (a:Option Addr) (c n:Nat) (l:List Sn) (w:World) (h:RdS w a l) (hn:n=l.length) (hl:l.length≤1048576) (hs:dF l) :
  Calls Tryz.prog 65 #[.slice a n c] w fun r w'=>r=.returned (.int .i64 (snM l))∧Below w.heap.size w w':=by
 subst hn;obtain ⟨F,hF⟩:∃ F:Int,F=snM l:=⟨_,rfl⟩;rw[←hF];by_cases hm:10<l.length
 ·have HE:=aA (show F=2 by rw[hF];unfold snM;rw[if_pos hm])
  have hm':(10:Int)<(l.length:Int):=by omega
  clear hF hm h hs;go_enter Tryz.func65,Tryz.ntmps65;go_wp2_with fail
  go_ret
  exact ⟨aM HE.out.symm,Below.refl _ _⟩
 obtain ⟨H,hH⟩:∃ H:Int,H=iM none l:=⟨_,rfl⟩;have HF:=aA (show F=if H=0 then iD l l else H by rw[hF,hH];unfold snM;rw[if_neg hm])
 have HH:=aA (show H=iM (eB l 0) (l.drop 0) by rw[hH];rfl)
 have HNM:=aA (show H=0→∀ s∈l,s.name≠[] from fun h0 s hs=>iC (yF (hH ▸ h0) s hs))
 have HR:=aA h;have HS:=aA hs;have hm':¬ (10:Int)<(l.length:Int):=by omega
 clear hF hH hm h hs;go_enter Tryz.func65,Tryz.ntmps65;go_wp2_with fail
 go_loopw [3] (fun i wr=>∃ k:Nat,k≤l.length∧i=.int .i64 k∧Hid (H=iM (eB l k) (l.drop k))∧Hid (Below w.heap.size w wr)) (fun i _=>l.length - (intOf i).toNat)
 case atStart=>exact ⟨0,Nat.zero_le _,rfl,HH,aA (Below.refl _ _)⟩
 case round =>
  obtain ⟨k,hk,rfl,HK,HW⟩:=hrel;by_cases hlt:k<l.length
  ·obtain ⟨b,off,s,x,cc,rfl,hb,hsl,c0,c1,c2,c3,c4,hr⟩:=(HR.out.below HW.out).at hlt
   have HX:=aA hsl;have hsm:=HS.out.2 s (List.mem_of_getElem? hsl);have HSM:=aA hsm.2.2.2;have HRL:=aA hr;have hl1:=hsm.1;have hl2:=hsm.2.2.1;clear hsl hr hsm;go_wp2_with fail
   refine (sG s.name _ hl1).mono ?_;rintro r w1 ⟨rfl,hw1⟩;subst hw1;cases hnm:fL s.name
   ·have HO:=aA (oZ HK.out HX.out (by rw[zk3 hnm];decide))
    have HO2:=aA (show F=5 by rw[HF.out,HO.out,zk3 hnm];rfl)
    clear hnm;go_wp2_with fail
    go_ret
    exact ⟨aM HO2.out.symm,HW.out⟩
   ·have HNK:=aA hnm
    have HKD:=aA (fun u=>zuj s.kind u)
    cases hkd:(s.kind==1||s.kind==2)
    ·have H1:=aA (zj3 (p:=eB l k) HNK.out (by rw[hkd];rfl))
     have HO:=aA (oZ HK.out HX.out (by rw[H1.out];decide))
     have HO2:=aA (show F=1 by rw[HF.out,HO.out,H1.out];rfl)
     rw[hkd]at HKD;clear hnm hkd;go_wp2_with fail
     go_quiet ((go_at_call 111;exact Calls.quiet_of ((HKD.out _).mono (fun e w' ⟨he,hw⟩=>⟨he,0,hw⟩))))
     go_wp2_with fail
     go_ret
     exact ⟨aM HO2.out.symm,below_drewN HW.out _⟩
    ·have HKK:=aA hkd
     rw[hkd]at HKD;clear hnm hkd;cases k with
     | zero =>
      have HL:=aA (show lwQ (eB l 0) s=false from rfl)
      go_wp2_with fail
      go_quiet ((go_at_call 111;exact Calls.quiet_of ((HKD.out _).mono (fun e w' ⟨he,hw⟩=>⟨he,0,hw⟩))))
      have HW2:=aA (below_drewN HW.out nq);have HRL2:=aA (HRL.out.below (below_drewN (Below.refl _ _) nq));obtain ⟨b3,off3,s3,x3,cc3,hbb3,hb3,hs3,g0,g1,g2,g3,g4,-⟩:=(HR.out.below HW2.out).at hlt;simp only[Option.some.injEq,Addr.mk.injEq,and_true]at hbb3;obtain ⟨rfl,rfl⟩:=hbb3;have hs33:s3=s:=by rw[HX.out]at hs3;exact (Option.some.inj hs3).symm
      subst hs33;have hx3:Value.slice x3 s3.layer.length cc3=Value.slice x s3.layer.length cc:=by
       have h8:=(below_drewN (Below.refl w1.heap.size w1) nq).cell (p:=⟨b,off+0 * 5+4,none⟩) hb;rw[g4,c4]at h8;exact Option.some.inj h8
      simp only[Value.slice.injEq,true_and]at hx3;obtain ⟨rfl,rfl⟩:=hx3;clear c0 c1 c2 c3 c4 hs3;generalize World.drewN _ nq=W at *;go_wp2_with fail
      refine (mB x3 cc3 s3.layer.length s3.layer W HRL2.out rfl hl2 HSM.out).mono ?_;rintro r w4 ⟨rfl,hb4⟩;have HW3:=aA (aB HW2.out hb4);have H1:=aA (zr6 HNK.out HKK.out HL.out);clear hb4;by_cases hz:cD s3.layer=0
      ·have HO:=aA (zi0 HK.out HX.out (by rw[H1.out,hz]))
       rw[hz];clear hz;go_wp2_with fail
       go_roundw
       case rel=>exact ⟨1,by omega,by go_num,HO,HW3⟩
       case measure=>simp[intOf];omega
      ·have HO:=aA (oZ HK.out HX.out (by rw[H1.out];exact hz))
       have HO2:=aA (show F=cD s3.layer by rw[HF.out,HO.out,H1.out,if_neg hz])
       have hz2:(cD s3.layer != 0)=true:=by simp;exact hz
       clear hz;go_wp2_with fail
       go_ret
       exact ⟨aM HO2.out.symm,HW3.out⟩
     | succ j =>
      have hg:(0:Int)<((j+1:Nat):Int):=by omega
      obtain ⟨b2,off2,s2,x2,cc2,hbb,hb2,hs2,d0,d1,d2,d3,d4,hr2⟩:=(HR.out.below HW.out).at (show j<l.length by omega)
      simp only[Option.some.injEq,Addr.mk.injEq,and_true]at hbb;obtain ⟨rfl,rfl⟩:=hbb;have HL:=aA (show lwQ (eB l (j+1)) s=(Op.bytesLess s.name s2.name||(s.name==s2.name)) from by simp[eB,lwQ,hs2])
      clear hs2 d1 d2 d3 d4 hr2;cases hlow:(Op.bytesLess (str s.name).toList (str s2.name).toList||((str s.name).toList==(str s2.name).toList))
      ·have HL2:=aA (show lwQ (eB l (j+1)) s=false from by rw[HL.out];rw[aN,aN]at hlow;exact hlow)
       go_wp2_with fail
       go_quiet ((go_at_call 111;exact Calls.quiet_of ((HKD.out _).mono (fun e w' ⟨he,hw⟩=>⟨he,0,hw⟩))))
       clear d0;have HW2:=aA (below_drewN HW.out nq);have HRL2:=aA (HRL.out.below (below_drewN (Below.refl _ _) nq));obtain ⟨b3,off3,s3,x3,cc3,hbb3,hb3,hs3,g0,g1,g2,g3,g4,-⟩:=(HR.out.below HW2.out).at hlt;simp only[Option.some.injEq,Addr.mk.injEq,and_true]at hbb3;obtain ⟨rfl,rfl⟩:=hbb3;have hs33:s3=s:=by rw[HX.out]at hs3;exact (Option.some.inj hs3).symm
       subst hs33;have hx3:Value.slice x3 s3.layer.length cc3=Value.slice x s3.layer.length cc:=by
        have h8:=(below_drewN (Below.refl w1.heap.size w1) nq).cell (p:=⟨b,off+(j+1) * 5+4,none⟩) hb;rw[g4,c4]at h8;exact Option.some.inj h8
       simp only[Value.slice.injEq,true_and]at hx3;obtain ⟨rfl,rfl⟩:=hx3;clear c0 c1 c2 c3 c4 hs3;generalize World.drewN _ nq=W at *;go_wp2_with fail
       refine (mB x3 cc3 s3.layer.length s3.layer W HRL2.out rfl hl2 HSM.out).mono ?_;rintro r w4 ⟨rfl,hb4⟩;have HW3:=aA (aB HW2.out hb4);have H1:=aA (zr6 HNK.out HKK.out HL2.out);clear hb4;by_cases hz:cD s3.layer=0
       ·have HO:=aA (zi0 HK.out HX.out (by rw[H1.out,hz]))
        rw[hz];clear hz;go_wp2_with fail
        go_roundw
        case rel=>exact ⟨j+1+1,by omega,by go_num,HO,HW3⟩
        case measure=>simp[intOf];omega
       ·have HO:=aA (oZ HK.out HX.out (by rw[H1.out];exact hz))
        have HO2:=aA (show F=cD s3.layer by rw[HF.out,HO.out,H1.out,if_neg hz])
        have hz2:(cD s3.layer != 0)=true:=by simp;exact hz
        clear hz;go_wp2_with fail
        go_ret
        exact ⟨aM HO2.out.symm,HW3.out⟩
      ·have HL2:=aA (show lwQ (eB l (j+1)) s=true from by rw[HL.out];rw[aN,aN]at hlow;exact hlow)
       have H1:=aA (zj3 (p:=eB l (j+1)) HNK.out (by rw[HL2.out,Bool.not_true,Bool.and_false]))
       have HO:=aA (oZ HK.out HX.out (by rw[H1.out];decide))
       have HO2:=aA (show F=1 by rw[HF.out,HO.out,H1.out];rfl)
       go_wp2_with fail
       go_quiet ((go_at_call 111;exact Calls.quiet_of ((HKD.out _).mono (fun e w' ⟨he,hw⟩=>⟨he,0,hw⟩))))
       go_wp2_with fail
       go_ret
       exact ⟨aM HO2.out.symm,below_drewN HW.out _⟩
  ·have h0:=zoe HK.out (by omega)
   have HNE:=aA (HNM.out h0);have HFS:=aA (show F=iD l (l.drop 0) by rw[HF.out,if_pos h0];rfl)
   clear h0 HK HNM HF HH;have hke:k=l.length:=by omega
   clear hlt hk;subst hke;go_wp2_with fail
   go_loopw [5] (fun i wr2=>∃ k:Nat,k≤l.length∧i=.int .i64 k∧Hid (F=iD l (l.drop k))∧Hid (Below w.heap.size w wr2)) (fun i _=>l.length - (intOf i).toNat)
   case atStart=>exact ⟨0,Nat.zero_le _,rfl,HFS,HW⟩
   case round =>
    clear HW
    rename_i wr2
    obtain ⟨k,hk,rfl,HK,HW⟩:=hrel;by_cases hlt:k<l.length
    ·obtain ⟨b,off,s,x,cc,rfl,hb,hsl,c0,c1,c2,c3,c4,hr⟩:=(HR.out.below HW.out).at hlt
     have HX:=aA hsl;clear hsl hr;by_cases hp:s.parent=[]
     ·have hpe:(str s.parent).toList.isEmpty=true:=by rw[hp,aN];rfl
      have HO:=aA (wT HK.out HX.out (by unfold jS;rw[if_pos hp]))
      clear hp;go_wp2_with fail
      go_roundw
      case rel=>exact ⟨k+1,by omega,by go_num,HO,HW⟩
      case measure=>simp[intOf];omega
     ·have hpe:(str s.parent).toList.isEmpty=false:=by
       rw[aN];cases hq:s.parent with | nil=>exact absurd hq hp | cons _ _=>rfl
      have HP:=aA hp;clear hp;go_wp2_with fail
      refine (gW _ c l.length l s.parent _ (HR.out.below HW.out) rfl hl).mono ?_;rintro r w4 ⟨rfl,hw4⟩;subst hw4;cases hpl:plS l s.parent with
      | none =>
       have HO:=aA (sM HK.out HX.out (by unfold jS;rw[if_neg HP.out,jK hpl];show (4:Int)≠0;decide))
       have HO2:=aA (show F=4 by rw[HO.out];unfold jS;rw[if_neg HP.out,jK hpl])
       clear hpl;simp only[cR];go_wp2_with fail
       go_ret
       exact ⟨aM HO2.out.symm,HW.out⟩
      | some j =>
       obtain ⟨q,hq,hat⟩:=nR hpl;have hjl:=(List.getElem?_eq_some_iff.1 hq).1;obtain ⟨b2,off2,e,x2,cc2,hbb,hb2,he,d0,d1,d2,d3,d4,hr2⟩:=(HR.out.below HW.out).at hjl;simp only[Option.some.injEq,Addr.mk.injEq,and_true]at hbb;obtain ⟨rfl,rfl⟩:=hbb;have heq:e=q:=by rw[hq]at he;exact (Option.some.inj he).symm
       subst heq;have HST:=aA (show jS l s=if e.kind=1 then 10 else if 4<eQ l s.name then 2 else 0 by unfold jS;rw[if_neg HP.out,hat])
       have hj0:¬ (j:Int)<0:=by omega
       have hj1:(j:Int)<(l.length:Int):=by omega
       clear hpl hq hat he hr2;simp only[cR];by_cases hk1:e.kind=1
       ·have hkb:(e.kind==1)=true:=by simp[hk1]
        have HO:=aA (sM HK.out HX.out (by rw[HST.out,if_pos hk1];decide))
        have HO2:=aA (show F=10 by rw[HO.out,HST.out,if_pos hk1])
        clear hk1;go_wp2_with fail
        go_ret
        exact ⟨aM HO2.out.symm,HW.out⟩
       ·have hkb:(e.kind==1)=false:=by simp[hk1]
        have HST2:=aA (show jS l s=if 4<eQ l s.name then 2 else 0 by rw[HST.out,if_neg hk1])
        clear hk1;go_wp2_with fail
        refine (oK _ c l.length l s.name _ (HR.out.below HW.out) rfl hl HNE.out).mono ?_;rintro r w5 ⟨rfl,hw5⟩;subst hw5;by_cases hdp:4<eQ l s.name
        ·have hd':(4:Int)<(eQ l s.name:Int):=by omega
         have HO:=aA (sM HK.out HX.out (by rw[HST2.out,if_pos hdp];decide))
         have HO2:=aA (show F=2 by rw[HO.out,HST2.out,if_pos hdp])
         clear hdp;go_wp2_with fail
         go_ret
         exact ⟨aM HO2.out.symm,HW.out⟩
        ·have hd':¬ (4:Int)<(eQ l s.name:Int):=by omega
         have HO:=aA (wT HK.out HX.out (by rw[HST2.out,if_neg hdp]))
         clear hdp;go_wp2_with fail
         go_roundw
         case rel=>exact ⟨k+1,by omega,by go_num,HO,HW⟩
         case measure=>simp[intOf];omega
    ·have HO:=aA (zs9 HK.out (by omega))
     go_wp2_with fail
     go_ret
     exact ⟨aM HO.out.symm,HW.out⟩
theorem GW.apart {B B' s n:Nat} {t:TypeId} {w w':World} {v v':Value} {es:List En} {xs:List Value} (h:GW B w v es) (hr:w.ownsRow B' t s v' n xs) (h1:t≠87) (h2:t≠2) (hk:aD (fun b=>v'.ownBlock=some b) w w'):GW B w' v es:=by
 obtain ⟨rs,e,g1,g2⟩:=h;exact ⟨rs,e,aH g1 hk (fun b hb hS=>aX hr g1 h1 hS hb),fun r hx=>aH (g2 r hx) hk (fun b hb hS=>aX hr (g2 r hx) h2 hS hb)⟩
def GS (B:Nat) (w:World) (v:Value) (l:List Sn):Prop :=
 ∃ rs:List Rs,rs.map Rs.s=l∧w.ownsRow B 42 5 v l.length (aW rs)∧∀ r∈rs,GW B w (.slice r.a r.s.layer.length r.c) r.s.layer
theorem GS.shape {B:Nat} {w:World} {v:Value} {l:List Sn} (h:GS B w v l):∃ a c,v=.slice a l.length c:=by
 obtain ⟨rs,_,h1,_⟩:=h;exact aQ h1
theorem GS.made (w:World):GS w.heap.size (w.alloc (.cells #[] 42)) (.slice (some ⟨w.heap.size,0,none⟩) 0 0) [] :=
 ⟨[],rfl,World.ownsRow_made w #[] 0 (Nat.le_refl _) (Nat.zero_le _) rfl,fun r hr=>by simp at hr⟩
theorem GS.kept {S:Nat→Prop} {B:Nat} {w w':World} {v:Value} {l:List Sn} (h:GS B w v l) (hk:aD S w w') (hS:∀ b,B≤b→¬ S b):GS B w' v l:=by
 obtain ⟨rs,h1,h2,h3⟩:=h;exact ⟨rs,h1,aH h2 hk (fun b hb hs=>hS b (h2.lt b hb).1 hs),fun r hr=>(h3 r hr).kept hk hS⟩
theorem GS.below {B:Nat} {w w':World} {v:Value} {l:List Sn} (h:GS B w v l) (hk:Below w.heap.size w w'):GS B w' v l:=h.kept (S:=fun _=>False) (aD.of_below hk) (fun _ _=>id)
theorem GS.mono {B B':Nat} {w:World} {v:Value} {l:List Sn} (h:GS B w v l) (hb:B'≤B):GS B' w v l:=by
 obtain ⟨rs,h1,h2,h3⟩:=h;exact ⟨rs,h1,aS h2 hb,fun r hr=>(h3 r hr).mono hb⟩
theorem GS.rd {B:Nat} {w:World} {a:Option Addr} {n c:Nat} {l:List Sn} (h:GS B w (.slice a n c) l):RdS w a l:=by
 obtain ⟨rs,h1,h2,h3⟩:=h;exact zb2 h1 h2 (fun r hr=>GW.rd (h3 r hr))
theorem GS.later {S:Nat→Prop} {B:Nat} {w w' w2:World} {v:Value} {l:List Sn} (h:GS B w v l) (hb:Below w.heap.size w w') (hk:aD S w' w2) (hS:∀ b,S b→w.heap.size≤b):GS B w2 v l:=by
 obtain ⟨rs,h1,h2,h3⟩:=h;have key:∀ {e:TypeId} {s n:Nat} {u:Value} {xs:List Value},w.ownsRow B e s u n xs→w2.ownsRow B e s u n xs:=fun ho =>
  aH (aG ho hb) hk (fun b hbb hs=>by have h8:=(ho.lt b hbb).2;have h9:=hS b hs;omega)
 refine ⟨rs,h1,key h2,fun r hr=>?_⟩
 obtain ⟨qs,e,g1,g2⟩:=h3 r hr;exact ⟨qs,e,key g1,fun q hq=>key (g2 q hq)⟩
theorem GS.push {B:Nat} {w w2:World} {v v':Value} {l:List Sn} {rs:List Rs} {s:Sn} {a:Option Addr} {c m:Nat} (he:rs.map Rs.s=l) (hm:m=l.length) (h1:w.ownsRow B 42 5 v m (aW rs)) (h2:∀ r∈rs,GW B w (.slice r.a r.s.layer.length r.c) r.s.layer) (hG:GW B w (.slice a s.layer.length c) s.layer)
  (hv':w2.ownsRow B 42 5 v' (m+1) (aW rs++bU ⟨s,a,c⟩)) (hk:aD (fun b=>v.ownBlock=some b) w w2):GS B w2 v' (l ++ [s]):=by
 subst hm;refine ⟨rs ++ [⟨s,a,c⟩],by rw[List.map_append,he];rfl,?_,fun r hx=>?_⟩
 ·rw[oO,List.length_append]
  simpa [aW] using hv'
 ·rcases List.mem_append.1 hx with hx | hx
  ·exact (h2 r hx).apart h1 (by decide) (by decide) hk
  ·simp only[List.mem_singleton]at hx
   subst hx;exact hG.apart h1 (by decide) (by decide) hk
theorem gT.set4' {w:World} {b:Nat} {u0 u1 u2 u3 u4:Value} (h:gT w b u0 u1 u2 u3 u4) (v:Value):gT (w.setCell ⟨b,4,none⟩ v) b u0 u1 u2 u3 v:=by
 have ne:∀ j:Nat,4≠j→(⟨b,4,none⟩:Addr)≠⟨b,j,none⟩:=fun j hij e=>hij (by injection e)
 obtain ⟨h0,h1,h2,h3,h4⟩:=h;exact ⟨(aR (ne 0 (by decide))).trans h0,(aR (ne 1 (by decide))).trans h1,(aR (ne 2 (by decide))).trans h2,(aR (ne 3 (by decide))).trans h3,dS h4⟩
theorem dV (a:Option Addr) (c n:Nat) (l:List Sn) (w:World) (h:RdS w a l) (hn:n=l.length) (hl:l.length≤1048576) (hs:dF l) :
  Calls Tryz.prog 79 #[.slice a n c] w fun r w'=>∃ av cv,r=.returned (.slice av l.length cv)∧GS w.heap.size w' (.slice av l.length cv) l∧Below w.heap.size w w':=by
 subst hn;obtain ⟨i1,ki,kz0,kz1,kz2⟩:=info_parts Tryz.infoSn;have HA:=aA h;have HS:=aA hs;clear h hs;go_enter Tryz.func79,Tryz.ntmps79;go_wp2_with fail
 go_loopw [3,4] (fun v i wr=>∃ j:Nat,j≤l.length∧i=.int .i64 j∧Hid (GS w.heap.size wr v (l.take j))∧Hid (Below w.heap.size w wr)) (fun _ i _=>l.length - (intOf i).toNat)
 case atStart=>exact ⟨0,Nat.zero_le _,rfl,aA (GS.made w),aA (aC _ _)⟩
 case round =>
  obtain ⟨j,hj,rfl,HG,HW⟩:=hrel;obtain ⟨lv,lc,hv⟩:=HG.out.shape;rw[gN hj]at hv;subst hv;have hsz:=HW.out.size;by_cases hlt:j<l.length
  ·obtain ⟨b,off,s,x,cc,rfl,hb,hsl,c0,c1,c2,c3,c4,hr⟩:=(HA.out.below HW.out).at hlt
   have HX:=aA hsl;have hsm:=HS.out.2 s (List.mem_of_getElem? hsl);have hs3:=hsm.2.2.1;have HSE:=aA hsm.2.2.2;have BA:=aA (aC wr (.cells #[.string (str s.name),.string (str s.parent),.int .i64 s.kind,.bool s.lease,.slice x s.layer.length cc] 42));have XE:=aA (kX.new wr (.string (str s.name)) (.string (str s.parent)) (.int .i64 s.kind) (.bool s.lease) (.slice x s.layer.length cc) 42);have HRL:=aA (hr.below BA.out);clear hsl hr hsm;go_wp2_with fail
   clear c0 c1 c2 c3 c4;have HG1:=aA (HG.out.below BA.out);have hsz1:(wr.alloc (.cells #[.string (str s.name),.string (str s.parent),.int .i64 s.kind,.bool s.lease,.slice x s.layer.length cc] 42)).heap.size=wr.heap.size+1:=by simp
   generalize wr.alloc (.cells #[.string (str s.name),.string (str s.parent),.int .i64 s.kind,.bool s.lease,.slice x s.layer.length cc] 42)=WE at *;refine (iN x cc s.layer.length s.layer WE HRL.out rfl hs3 HSE.out).mono ?_;rintro r w2 ⟨g2,cv2,rfl,-,hG2,hb2⟩;have B2:=aA (aB BA.out hb2);have G2:=aA (GW.of hG2);have HG2:=aA (HG1.out.below hb2);have XE2:=aA (XE.out.below hb2);have hs2:=hb2.size;obtain ⟨⟨e0,e1,e2,e3,e4⟩,ef⟩:=XE2.out;have ef4:=ef 4;clear hG2 hb2 ef;have KS:=aA (aD.setCell (S:=fun q=>q=wr.heap.size) (p:=⟨wr.heap.size,4,none⟩) (aD.refl _ w2) (fun _=>rfl) (.slice (some ⟨g2,0,none⟩) s.layer.length cv2))
   have FS:Hid (gT (w2.setCell ⟨wr.heap.size,4,none⟩ (.slice (some ⟨g2,0,none⟩) s.layer.length cv2)) wr.heap.size (.string (str s.name)) (.string (str s.parent)) (.int .i64 s.kind) (.bool s.lease) (.slice (some ⟨g2,0,none⟩) s.layer.length cv2)):=aA (gT.set4' XE2.out.1 _);have GY:=aA (HG.out.later B2.out KS.out (fun q e=>by omega))
   have LY:=aA (G2.out.kept KS.out (fun q hq e=>by omega))
   have BY:=aA ((aB HW.out B2.out).setCell (p:=⟨wr.heap.size,4,none⟩) (by show w.heap.size≤wr.heap.size;omega) (.slice (some ⟨g2,0,none⟩) s.layer.length cv2))
   have hsY:=KS.out.size;have hm1:j+1≤maxLen:=by unfold maxLen;omega
   have hm1':(j+1) * 72≤140737488355328:=by omega
   obtain ⟨f0,f1,f2,f3,f4⟩:=FS.out;obtain ⟨rs,q1,q2,q3⟩:=GY.out;rw[gN hj]at q2;have Q1:=aA q1;have Q2:=aA q2;have Q3:=aA q3;have HJ:=aA (gN hj);clear q1 q2 q3 HG HG1 HG2 KS GY;have HYS:=aA (show w2.heap.size=(w2.setCell ⟨wr.heap.size,4,none⟩ (.slice (some ⟨g2,0,none⟩) s.layer.length cv2)).heap.size by simp[World.setCell])
   go_wp2_with (at_builtin;generalize w2.setCell ⟨wr.heap.size,4,none⟩ (.slice (some ⟨g2,0,none⟩) s.layer.length cv2)=Y at *;rw[HYS.out];refine dQ rfl (.tmp 21) (.tmp 23) 24 rfl w.heap.size 42 i1 (.agg #[.string ⟨#[]⟩,.string ⟨#[]⟩,.int .i64 0,.bool false,.slice none 0 0]) 5 72 Tryz.underlying24 ki kz0 kz1 kz2 rfl (by decide) _ _ _ rfl Q2.out _ rfl rfl rfl (by intro u hu;simp at hu;rcases hu with rfl | rfl | rfl | rfl | rfl <;> rfl) hm1 hm1' (by omega) ?_;intro av6 cv6 w6 hown6 hk6;have O6:=aA hown6;have K6:=aA hk6;clear hown6 hk6)
   go_roundw
   case rel =>
    refine ⟨j+1,by omega,by go_num,aA ?_,aA ?_⟩
    ·rw[cT HX.out]
     exact GS.push (s:=s) (a:=some ⟨g2,0,none⟩) (c:=cv2) Q1.out HJ.out.symm Q2.out Q3.out (LY.out.mono (by omega)) O6.out K6.out
    ·exact BY.out.trans (K6.out.below (by omega) (fun q hq hS=>by have:=(Q2.out.lt q hS).1;omega))
   case measure=>simp[intOf];omega
  ·have hje:j=l.length:=by omega
   have HE:=aA (show l.take j=l from List.take_of_length_le (by omega))
   have HG2:Hid (GS w.heap.size wr (.slice lv j lc) l):=by have:=HG.out;rw[HE.out]at this;exact this
   clear HG HE;subst hje;go_wp2_with fail
   go_ret
   exact ⟨lv,lc,rfl,HG2.out,HW.out⟩
end Go.Proofs.YtgaeikgoknoamaaGreat
namespace Go.Proofs.YtgaeikgoknoamaaGreat
open Go.RowKit
theorem zlg (b o j:Nat):(⟨b,o,none⟩:Addr).add j=⟨b,o+j,none⟩:=by unfold Addr.add;split <;> simp_all
end Go.Proofs.YtgaeikgoknoamaaGreat
namespace Go.Proofs.YtgaeikgoknoamaaGreat
open Go.RowKit Go.Maps Go.Sort
attribute [local go_sem ↓] Go.wp_at_zero Go.wp_at_succ
theorem aD.three' (w:World) (b:Nat) (u0 u1 u2:Value):aD (fun x=>x=b) w (((w.setCell ⟨b,0,none⟩ u0).setCell ⟨b,1,none⟩ u1).setCell ⟨b,2,none⟩ u2) :=
 aD.setCell (S:=fun x=>x=b) (p:=⟨b,2,none⟩) (aD.setCell (S:=fun x=>x=b) (p:=⟨b,1,none⟩) (aD.setCell (S:=fun x=>x=b) (p:=⟨b,0,none⟩) (aD.refl _ w) (fun _=>rfl) u0) (fun _=>rfl) u1) (fun _=>rfl) u2
end Go.Proofs.YtgaeikgoknoamaaGreat
namespace Go.Proofs.YtgaeikgoknoamaaGreat
open Go.RowKit Go.Maps
attribute [local go_sem ↓] Go.wp_at_zero Go.wp_at_succ
def bI (q rep:Int) (l:List Sn) (w:World) (r:Ending) (w':World):Prop :=
 ∃ av cv,r=.returned (.agg #[.int .i64 q,.int .i64 rep,.slice av l.length cv])∧GS w.heap.size w' (.slice av l.length cv) l∧Below w.heap.size w w'
theorem bI.of {q rep:Int} {l:List Sn} {w w3:World} {B b n:Nat} {av:Option Addr} {cv:Nat} {u0 u1 u2:Value} (hB:b<B) (hw:w.heap.size≤b) (hn:n=l.length) (hG:GS B w3 (.slice av n cv) l) (hb:Below w.heap.size w w3) :
  bI q rep l w (.returned (.agg #[.int .i64 q,.int .i64 rep,.slice av n cv])) (((w3.setCell ⟨b,0,none⟩ u0).setCell ⟨b,1,none⟩ u1).setCell ⟨b,2,none⟩ u2):=by
 subst hn;exact ⟨av,cv,rfl,(hG.kept (aD.three' w3 b u0 u1 u2) (fun x hx e=>by omega)).mono (by omega),((hb.setCell (p:=⟨b,0,none⟩) hw _).setCell (p:=⟨b,1,none⟩) hw _).setCell (p:=⟨b,2,none⟩) hw _⟩
theorem bH.good {l:List Sn} (h:bH l):snM l=0:=by
 rw[zm7 (fun s hs=>by rw[xJ.2 (eE.1 (h.own s hs).2.2),(h.own s hs).2.2])]
 exact oI.2 h
theorem GS.at {B:Nat} {w:World} {a:Option Addr} {n c:Nat} {l:List Sn} {k:Nat} {s:Sn} (h:GS B w (.slice a n c) l) (hs:l[k]?=some s) :
  ∃ g,a=some ⟨g,0,none⟩∧B≤g∧g<w.heap.size∧(∀ q,w.frozen? ⟨g,q,none⟩=false)∧∃ r:Rs,r.s=s∧∀ q,q<5→w.cell? ⟨g,k * 5+q,none⟩=(bU r)[q]?:=by
 obtain ⟨rs,h1,h2,h3⟩:=h;have hk:k<l.length:=(List.getElem?_eq_some_iff.1 hs).1;have hl:rs.length=l.length:=by rw[←h1,List.length_map]
 rcases h2.2 with ⟨_,h0⟩ | ⟨g,cap,cur,h',hb',hh,-⟩
 ·omega
 ·simp only[Value.slice.injEq]at h'
  obtain ⟨rfl,rfl,rfl⟩:=h';obtain ⟨r,hr⟩:∃ r,rs[k]?=some r:=⟨_,List.getElem?_eq_getElem (by omega)⟩
  refine ⟨g,rfl,hb',(h2.lt g rfl).2,fun q=>h2.frozenAt q,r,?_,fun q hq=>(h2.cellAt (k * 5+q) (by omega)).trans (oG rs k q r hr hq)⟩
  have:(rs.map Rs.s)[k]?=some r.s:=by rw[List.getElem?_map,hr];rfl
  rw[h1,hs]at this;exact (Option.some.inj this).symm
theorem wK:∀ (rs:List Rs) (k q:Nat) (r r':Rs) (u:Value),rs[k]?=some r→q<5→(bU r).set q u=bU r'→(aW rs).set (k * 5+q) u=aW (rs.set k r')
 | [],k,q,r,r',u,h,_,_=>by simp at h
 | y :: rs,0,q,r,r',u,h,hq,he=>by
  simp only[List.getElem?_cons_zero,Option.some.injEq]at h;subst h;simp only[aW,List.flatMap_cons,Nat.zero_mul,Nat.zero_add,List.set_cons_zero];rw[List.set_append_left _ _ (by simp[bU];omega),he]
 | y :: rs,k+1,q,r,r',u,h,hq,he=>by
  have:=wK rs k q r r' u (by simpa using h) hq he
  have e:(k+1) * 5+q=(bU y).length+(k * 5+q):=by simp[bU];omega
  simp only[aW,List.flatMap_cons,List.set_cons_succ]at this ⊢;rw[e,List.set_append_right _ _ (by omega),Nat.add_sub_cancel_left,this]
theorem GS.put {B:Nat} {w:World} {g n c k q:Nat} {l:List Sn} {s s':Sn} {u:Value} (h:GS B w (.slice (some ⟨g,0,none⟩) n c) l) (hs:l[k]?=some s) (hq:q<5) (hu:∀ a c,(bU ⟨s,a,c⟩).set q u=bU ⟨s',a,c⟩) (hy:s'.layer=s.layer):GS B (w.setCell ⟨g,k * 5+q,none⟩ u) (.slice (some ⟨g,0,none⟩) n c) (l.set k s'):=by
 obtain ⟨rs,h1,h2,h3⟩:=h;have hk:k<l.length:=(List.getElem?_eq_some_iff.1 hs).1;have hl:rs.length=l.length:=by rw[←h1,List.length_map]
 obtain ⟨r,hr⟩:∃ r,rs[k]?=some r:=⟨_,List.getElem?_eq_getElem (by omega)⟩
 have hrs:r.s=s:=by
  have:(rs.map Rs.s)[k]?=some r.s:=by rw[List.getElem?_map,hr];rfl
  rw[h1,hs]at this;exact (Option.some.inj this).symm
 obtain ⟨m,c',e⟩:=aQ h2;simp only[Value.slice.injEq]at e;obtain ⟨-,rfl,-⟩:=e;have s1:=(h2.stored (k * 5+q) u).1;rw[wK rs k q r ⟨s',r.a,r.c⟩ u hr hq (by have:=hu r.a r.c;rw[←hrs]at this;exact this)]at s1
 have hkp:aD (fun b=>(Value.slice (some ⟨g,0,none⟩) l.length c).ownBlock=some b) w (w.setCell ⟨g,k * 5+q,none⟩ u):=aD.setCell (S:=fun b=>(Value.slice (some ⟨g,0,none⟩) l.length c).ownBlock=some b) (p:=⟨g,k * 5+q,none⟩) (aD.refl _ _) (fun _=>rfl) _
 refine ⟨rs.set k ⟨s',r.a,r.c⟩,by rw[List.map_set,h1],by rw[List.length_set];exact s1,fun r0 hr0=>?_⟩
 rcases List.mem_or_eq_of_mem_set hr0 with hr1 | rfl
 ·exact (h3 r0 hr1).apart h2 (by decide) (by decide) hkp
 ·have h9:=h3 r (List.mem_of_getElem? hr)
  rw[hrs]at h9;show GW B _ (.slice r.a s'.layer.length r.c) s'.layer
  rw[hy];exact h9.apart h2 (by decide) (by decide) hkp
theorem jL {l:List Sn} (h:fM l) {k:Nat} {s s':Sn} (hs:l[k]?=some s) (hn:s'.name=s.name):dK l s'=l.set k s':=by
 have hk:k<l.length:=(List.getElem?_eq_some_iff.1 hs).1;have hdec:l=l.take k++s :: l.drop (k+1):=by
  rw[←eS hs,List.take_append_drop]
 have hset:l.set k s'=l.take k++s' :: l.drop (k+1):=List.set_eq_take_append_cons_drop.trans (by rw[if_pos hk])
 have hrl:∀ x∈l.take k,Op.bytesLess x.name s.name=true:=fun x hx=>by
  have h9:=h;rw[hdec]at h9;exact (List.pairwise_append.1 h9).2.2 x hx s (by simp)
 have hrr:∀ x∈l.drop (k+1),Op.bytesLess s.name x.name=true:=fun x hx=>by
  have h9:=h;rw[hdec]at h9;exact (List.pairwise_cons.1 (List.pairwise_append.1 h9).2.1).1 x hx
 unfold dK;rw[hset,hn];have e1:l.filter (fun x=>Op.bytesLess x.name s.name)=l.take k:=by
  conv=>lhs;rw[hdec]
  rw[List.filter_append,List.filter_cons];have a1:(l.take k).filter (fun x=>Op.bytesLess x.name s.name)=l.take k:=List.filter_eq_self.2 hrl
  have a2:(l.drop (k+1)).filter (fun x=>Op.bytesLess x.name s.name)=[]:=List.filter_eq_nil_iff.2 fun x hx=>by rw[iR (hrr x hx)];decide
  rw[a1,a2,iQ];simp
 have e2:l.filter (fun x=>Op.bytesLess s.name x.name)=l.drop (k+1):=by
  conv=>lhs;rw[hdec]
  rw[List.filter_append,List.filter_cons];have a1:(l.take k).filter (fun x=>Op.bytesLess s.name x.name)=[]:=List.filter_eq_nil_iff.2 fun x hx=>by rw[iR (hrl x hx)];decide
  have a2:(l.drop (k+1)).filter (fun x=>Op.bytesLess s.name x.name)=l.drop (k+1):=List.filter_eq_self.2 hrr
  rw[a1,a2,iQ];simp
 rw[e1,e2]
theorem cC (a:Option Addr) (c n:Nat) (l:List Sn) (q:Int) (w:World) (h:RdS w a l) (hn:n=l.length) (hl:l.length≤1048576) (hs:dF l) :
  Calls Tryz.prog 193 #[.slice a n c,.int .i64 q] w (bI 0 q l w):=by
 subst hn;have X0:=aA (fB.new w (.int .i64 0) (.int .i64 0) (.slice none 0 0) 29);have B0:=aA (aC w (.cells #[.int .i64 0,.int .i64 0,.slice none 0 0] 29));have HC:=aA (dV a c l.length l _ (h.below B0.out) rfl hl hs);clear h hs;go_enter Tryz.func193,Tryz.ntmps193;go_wp2_with fail
 refine HC.out.mono ?_;rintro r w1 ⟨av,cv,rfl,hG,hb1⟩;have G1:=aA hG;have B1:=aA (aB B0.out hb1);have hlt:w.heap.size<(w.alloc (.cells #[.int .i64 0,.int .i64 0,.slice none 0 0] 29)).heap.size:=X0.out.lt;obtain ⟨⟨t0,t1,t2⟩,t3,t4,t5⟩:=X0.out.below hb1;clear hG hb1;go_wp2_with fail
 exact bodyPost_ret (v:=.agg #[.int .i64 0,.int .i64 q,.slice av l.length cv]) (by simp[results,Tryz.results193,go_sem,t0,t1,t2]) rfl (bI.of hlt (Nat.le_refl _) rfl G1.out B1.out)
theorem xS (a:Option Addr) (c n:Nat) (l:List Sn) (nm:Bs) (w:World) (h:RdS w a l) (hn:n=l.length) (hR:bH l) (hs:dF l) :
  Calls Tryz.prog 147 #[.slice a n c,.string (str nm)] w fun r w'=>(atS l nm=none∧bI 0 4 l w r w')∨∃ t,atS l nm=some t∧((t.kind=2∧bI 0 10 l w r w')∨(t.kind≠2∧bI 0 0 (dK l ⟨t.name,t.parent,2,t.lease,t.layer⟩) w r w')):=by
 subst hn;have hl:=hR.len;have X0:=aA (fB.new w (.int .i64 0) (.int .i64 0) (.slice none 0 0) 29);have B0:=aA (aC w (.cells #[.int .i64 0,.int .i64 0,.slice none 0 0] 29));have HC:=aA (gX a c l.length l _ (h.below B0.out) rfl (by omega) hs)
 rw[hR.good]at HC;have HRd:=aA h;have HRI:=aA hR.rise;have HSM:=aA hs;clear h hs hR;go_enter Tryz.func147,Tryz.ntmps147;go_wp2_with fail
 have hsz0:(w.alloc (.cells #[.int .i64 0,.int .i64 0,.slice none 0 0] 29)).heap.size=w.heap.size+1:=by simp
 generalize w.alloc (.cells #[.int .i64 0,.int .i64 0,.slice none 0 0] 29)=W0 at *;refine HC.out.mono ?_;rintro r w1 ⟨rfl,hb1⟩;have B1:=aA (aB B0.out hb1);have X1:=aA (X0.out.below hb1);have hs1:=hb1.size;clear hb1;go_wp2_with fail
 refine (gW a c l.length l nm w1 (HRd.out.below B1.out) rfl (by omega)).mono ?_
 rintro r w2 ⟨rfl,hw2⟩;subst hw2;cases hp:plS l nm with
 | none =>
  have HN:=aA (jK hp);clear hp;simp only[cR];go_wp2_with fail
  refine (cC a c l.length l 4 w2 (HRd.out.below B1.out) rfl (by omega) HSM.out).mono ?_
  rintro r w9 ⟨av,cv,rfl,hG,hb9⟩;have G9:=aA hG;have B9:=aA (aB B1.out hb9);obtain ⟨⟨t0,t1,t2⟩,t3,t4,t5⟩:=X1.out.below hb9;clear hG hb9;go_wp2_with fail
  exact bodyPost_ret (v:=.agg #[.int .i64 0,.int .i64 4,.slice av l.length cv]) (by simp[results,Tryz.results147,go_sem,t0,t1,t2]) rfl (.inl ⟨HN.out,bI.of (B:=w2.heap.size) (by omega) (Nat.le_refl _) rfl G9.out B9.out⟩)
 | some j =>
  obtain ⟨s,hq,hat⟩:=nR hp;have hjl:=(List.getElem?_eq_some_iff.1 hq).1;obtain ⟨b2,off2,e,x2,cc2,hbb,hb2,he,d0,d1,d2,d3,d4,hr2⟩:=(HRd.out.below B1.out).at hjl;subst hbb;have heq:e=s:=by rw[hq]at he;exact (Option.some.inj he).symm
  subst heq;have HAT:=aA hat;have HQ:=aA hq;have hj0:¬ (j:Int)<0:=by omega
  have hj1:(j:Int)<(l.length:Int):=by omega
  clear hp hq hat he hr2;simp only[cR];by_cases hk:e.kind=2
  ·have hkb:(e.kind==2)=true:=by simp[hk]
   have HK:=aA hk;clear hk;go_wp2_with fail
   refine (cC _ c l.length l 10 w2 (HRd.out.below B1.out) rfl (by omega) HSM.out).mono ?_
   rintro r w9 ⟨av,cv,rfl,hG,hb9⟩;have G9:=aA hG;have B9:=aA (aB B1.out hb9);obtain ⟨⟨t0,t1,t2⟩,t3,t4,t5⟩:=X1.out.below hb9;clear hG hb9;go_wp2_with fail
   exact bodyPost_ret (v:=.agg #[.int .i64 0,.int .i64 10,.slice av l.length cv]) (by simp[results,Tryz.results147,go_sem,t0,t1,t2]) rfl (.inr ⟨e,HAT.out,.inl ⟨HK.out,bI.of (B:=w2.heap.size) (by omega) (Nat.le_refl _) rfl G9.out B9.out⟩⟩)
  ·have hkb:(e.kind==2)=false:=by simp[hk]
   have HK:=aA hk;clear hk;go_wp2_with fail
   refine (dV _ c l.length l w2 (HRd.out.below B1.out) rfl (by omega) HSM.out).mono ?_
   rintro r w3 ⟨av,cv,rfl,hG,hb3⟩;have G3:=aA hG;have B3:=aA (aB B1.out hb3);have X3:=aA (X1.out.below hb3);have hs3:=hb3.size;obtain ⟨g,hgv,hgB,hgl,hfz,r,hrs,hcl⟩:=hG.at HQ.out;subst hgv;have hc2:=hcl 2 (by decide)
   have hz2:w3.cell? ⟨g,j * 5+2,none⟩=some (.int .i64 r.s.kind):=hc2;have hf2:=hfz (j * 5+2);clear hG hb3 hcl hc2 hfz d0 d1 d2 d3 d4;have GP:=aA (G3.out.put (q:=2) (s':=⟨e.name,e.parent,2,e.lease,e.layer⟩) (u:=.int .i64 2) HQ.out (by decide) (fun _ _=>rfl) rfl)
   rw[←jL HRI.out HQ.out (s':=⟨e.name,e.parent,2,e.lease,e.layer⟩) rfl]at GP;have HLN:=aA (show (dK l ⟨e.name,e.parent,2,e.lease,e.layer⟩).length=l.length by rw[jL HRI.out HQ.out (s':=⟨e.name,e.parent,2,e.lease,e.layer⟩) rfl,List.length_set])
   have KS:=aA (aD.setCell (S:=fun q=>q=g) (p:=⟨g,j * 5+2,none⟩) (aD.refl _ w3) (fun _=>rfl) (.int .i64 2))
   have BP:=aA (B3.out.trans (KS.out.below B3.out.size (fun q hq e=>by omega)))
   obtain ⟨⟨t0,t1,t2⟩,t3,t4,t5⟩:=X3.out.kept KS.out (by omega)
   have hsP:=KS.out.size;go_wp2_with fail
   exact bodyPost_ret (v:=.agg #[.int .i64 0,.int .i64 0,.slice (some ⟨g,0,none⟩) l.length cv]) (by simp[results,Tryz.results147,go_sem,t0,t1,t2]) rfl (.inr ⟨e,HAT.out,.inr ⟨HK.out,bI.of (B:=w2.heap.size) (by omega) (Nat.le_refl _) HLN.out.symm GP.out BP.out⟩⟩)
theorem zR (a:Option Addr) (c n:Nat) (l:List Sn) (nm:Bs) (b:Bool) (w:World) (h:RdS w a l) (hn:n=l.length) (hR:bH l) (hs:dF l) :
  Calls Tryz.prog 148 #[.slice a n c,.string (str nm),.bool b] w fun r w'=>(atS l nm=none∧bI 0 4 l w r w')∨∃ t,atS l nm=some t∧bI 0 0 (dK l ⟨t.name,t.parent,t.kind,b,t.layer⟩) w r w':=by
 subst hn;have hl:=hR.len;have X0:=aA (fB.new w (.int .i64 0) (.int .i64 0) (.slice none 0 0) 29);have B0:=aA (aC w (.cells #[.int .i64 0,.int .i64 0,.slice none 0 0] 29));have HC:=aA (gX a c l.length l _ (h.below B0.out) rfl (by omega) hs)
 rw[hR.good]at HC;have HRd:=aA h;have HRI:=aA hR.rise;have HSM:=aA hs;clear h hs hR;go_enter Tryz.func148,Tryz.ntmps148;go_wp2_with fail
 have hsz0:(w.alloc (.cells #[.int .i64 0,.int .i64 0,.slice none 0 0] 29)).heap.size=w.heap.size+1:=by simp
 generalize w.alloc (.cells #[.int .i64 0,.int .i64 0,.slice none 0 0] 29)=W0 at *;refine HC.out.mono ?_;rintro r w1 ⟨rfl,hb1⟩;have B1:=aA (aB B0.out hb1);have X1:=aA (X0.out.below hb1);have hs1:=hb1.size;clear hb1;go_wp2_with fail
 refine (gW a c l.length l nm w1 (HRd.out.below B1.out) rfl (by omega)).mono ?_
 rintro r w2 ⟨rfl,hw2⟩;subst hw2;cases hp:plS l nm with
 | none =>
  have HN:=aA (jK hp);clear hp;simp only[cR];go_wp2_with fail
  refine (cC a c l.length l 4 w2 (HRd.out.below B1.out) rfl (by omega) HSM.out).mono ?_
  rintro r w9 ⟨av,cv,rfl,hG,hb9⟩;have G9:=aA hG;have B9:=aA (aB B1.out hb9);obtain ⟨⟨t0,t1,t2⟩,t3,t4,t5⟩:=X1.out.below hb9;clear hG hb9;go_wp2_with fail
  exact bodyPost_ret (v:=.agg #[.int .i64 0,.int .i64 4,.slice av l.length cv]) (by simp[results,Tryz.results148,go_sem,t0,t1,t2]) rfl (.inl ⟨HN.out,bI.of (B:=w2.heap.size) (by omega) (Nat.le_refl _) rfl G9.out B9.out⟩)
 | some j =>
  obtain ⟨s,hq,hat⟩:=nR hp;have hjl:=(List.getElem?_eq_some_iff.1 hq).1;obtain ⟨b2,off2,e,x2,cc2,hbb,hb2,he,d0,d1,d2,d3,d4,hr2⟩:=(HRd.out.below B1.out).at hjl;subst hbb;have heq:e=s:=by rw[hq]at he;exact (Option.some.inj he).symm
  subst heq;have HAT:=aA hat;have HQ:=aA hq;have hj0:¬ (j:Int)<0:=by omega
  have hj1:(j:Int)<(l.length:Int):=by omega
  clear hp hq hat he hr2;simp only[cR];go_wp2_with fail
  refine (dV _ c l.length l w2 (HRd.out.below B1.out) rfl (by omega) HSM.out).mono ?_
  rintro r w3 ⟨av,cv,rfl,hG,hb3⟩;have G3:=aA hG;have B3:=aA (aB B1.out hb3);have X3:=aA (X1.out.below hb3);have hs3:=hb3.size;obtain ⟨g,hgv,hgB,hgl,hfz,r,hrs,hcl⟩:=hG.at HQ.out;subst hgv;have hc2:=hcl 3 (by decide)
  have hz2:w3.cell? ⟨g,j * 5+3,none⟩=some (.bool r.s.lease):=hc2;have hf2:=hfz (j * 5+3);clear hG hb3 hcl hc2 hfz d0 d1 d2 d3 d4;have GP:=aA (G3.out.put (q:=3) (s':=⟨e.name,e.parent,e.kind,b,e.layer⟩) (u:=.bool b) HQ.out (by decide) (fun _ _=>rfl) rfl)
  rw[←jL HRI.out HQ.out (s':=⟨e.name,e.parent,e.kind,b,e.layer⟩) rfl]at GP;have HLN:=aA (show (dK l ⟨e.name,e.parent,e.kind,b,e.layer⟩).length=l.length by rw[jL HRI.out HQ.out (s':=⟨e.name,e.parent,e.kind,b,e.layer⟩) rfl,List.length_set])
  have KS:=aA (aD.setCell (S:=fun q=>q=g) (p:=⟨g,j * 5+3,none⟩) (aD.refl _ w3) (fun _=>rfl) (.bool b))
  have BP:=aA (B3.out.trans (KS.out.below B3.out.size (fun q hq e=>by omega)))
  obtain ⟨⟨t0,t1,t2⟩,t3,t4,t5⟩:=X3.out.kept KS.out (by omega)
  have hsP:=KS.out.size;go_wp2_with fail
  exact bodyPost_ret (v:=.agg #[.int .i64 0,.int .i64 0,.slice (some ⟨g,0,none⟩) l.length cv]) (by simp[results,Tryz.results148,go_sem,t0,t1,t2]) rfl (.inr ⟨e,HAT.out,bI.of (B:=w2.heap.size) (by omega) (Nat.le_refl _) HLN.out.symm GP.out BP.out⟩)
end Go.Proofs.YtgaeikgoknoamaaGreat
