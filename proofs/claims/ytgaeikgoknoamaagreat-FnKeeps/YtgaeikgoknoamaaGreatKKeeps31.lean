/-
  At every byte slice the law FnKeeps returns true: with the chunks that are left each file is read as before, and each that is left is some file's. No condition.
-/
import Derived.Test.YtgaeikgoknoamaaGreatKKeeps27
import Derived.Test.YtgaeikgoknoamaaGreatKKeeps30
import Derived.Test.YtgaeikgoknoamaaGreatKKeeps17
import Derived.Test.YtgaeikgoknoamaaGreatKKeeps29
import Derived.ProofKit
import Derived.Deep.CutRange
import Derived.Deep.CutBlock
import Derived.OpenShut
import Derived.ShutString
import Derived.ChangeOld
import Derived.Deep.DrawnRows
import Derived.Deep.RegionHeld3
set_option linter.unusedVariables false
set_option maxHeartbeats 12800000
set_option maxRecDepth 100000
namespace Go.Proofs.YtgaeikgoknoamaaGreat.fnKeeps
open Go.ChangeShapes Go.WideShapes Go.ChangeAt Go.RowKit Go.Maps
attribute [local go_sem ↓] Go.wp_at_zero Go.wp_at_succ
theorem own:ownKnob Tryz.prog.godebug=none:=by kernel_rfl
theorem zvj:laidOutB Tryz.prog=true:=by kernel_rfl
theorem zsh (a:Option Addr) (cap:Nat) (n:Nat) (w:World) (h:n≤1048576) :
  Calls Tryz.prog 5 #[.slice a n cap] w fun e w'=>e=.returned (.bool false)∧w'=w:=by
 have hb:¬ (1048576:Int)<(n:Int):=by omega
 go_enter Tryz.func5,Tryz.ntmps5;go_wp2
 go_ret
 exact ⟨dD (by simp <;> omega),rfl⟩
theorem zff (a:Option Addr) (cap:Nat) (n:Nat) (w:World) (h:1048576<n) (h2:n≤maxLen) :
  Calls Tryz.prog 5 #[.slice a n cap] w fun e w'=>e=.returned (.bool true)∧w'=w:=by
 have hb:(1048576:Int)<(n:Int):=by omega
 unfold maxLen at h2;go_enter Tryz.func5,Tryz.ntmps5;go_wp2
 go_ret
 exact ⟨dD (by simp <;> omega),rfl⟩
theorem tk {P:Program} {ops:Array Oper} {Q:Exit→Act→World→Prop} {md:Region.Mode} {S:World→Prop} (i d:Nat) (v:Value) {op:Op} {ty:TypeId} {pos:String} {af:Array Edge} {gd:Option (Nat × Bool)} {fuel:Nat} {listed:Array Bool} {a:Act} {w:World} (hS:S w) (hi:ops[i]?=some { dst:=some d,op:=op,type:=ty,pos:=pos,after:=af,guard:=gd })
  (hs:Region.noSelect ops=true) (hf:Region.free md ops listed i=true) (hr:(Region.ready md ops listed).contains i=true) (hQ:∀ c a w,Q (.panic c) (a.put (some d) v) w→Q (.panic c) a w) (hy:YieldsIf P ops S { dst:=some d,op:=op,type:=ty,pos:=pos,after:=af,guard:=gd } v a)
  (h:wpAnyH P md ops Q S fuel (listed.setIfInBounds i true) (a.put (some d) v) w):wpAnyH P md ops Q S (fuel+1) listed a w:=wpAnyH_take hi hs hf hr hQ hy hS h
theorem walk (a0:Option Addr) (cap0:Nat) (zs:List Int) (w:World) (h:aO .u8 w a0 zs) (hu:U8 zs) (hmax:zs.length≤maxLen) :
  Calls Tryz.prog 4 #[.slice a0 zs.length cap0] w fun e w'=>e=.returned (.bool true)∧Below w.heap.size w w':=by
 have HR:=aA h;have HU:=aA hu;clear h hu;by_cases hbig:1048576<zs.length
 ·go_enter Tryz.func4,Tryz.ntmps4
  go_wp2_with fail
  refine (zff _ _ _ _ hbig hmax).mono ?_;rintro e w ⟨rfl,rfl⟩;go_wp2_with fail
  go_ret
  exact ⟨rfl,Below.refl _ _⟩
 have hfL:∀ (u:World) (x:Int) (v:Value),(Instr.field 38 (.agg #[.int .i64 x,v]) 1).run Tryz.prog u=.ok v u:=fun _ _ _=>by kernel_rfl
 have hfI:∀ (u:World) (x:Int) (v:Value),(Instr.field 50 (.agg #[.int .i64 x,v]) 1).run Tryz.prog u=.ok v u:=fun _ _ _=>by kernel_rfl
 have hfC0:∀ (u:World) (x:Int) (v:Value),(Instr.field 56 (.agg #[.int .i64 x,v]) 0).run Tryz.prog u=.ok (.int .i64 x) u:=fun _ _ _=>by kernel_rfl
 have hfC1:∀ (u:World) (x:Int) (v:Value),(Instr.field 56 (.agg #[.int .i64 x,v]) 1).run Tryz.prog u=.ok v u:=fun _ _ _=>by kernel_rfl
 go_enter Tryz.func4,Tryz.ntmps4;go_wp2_with fail
 refine (zsh _ _ _ _ (by omega)).mono ?_
 rintro e w ⟨rfl,rfl⟩;go_wp2_with fail
 refine (uY a0 cap0 zs _ HR.out HU.out (by omega)).mono ?_
 rintro e w1 ⟨l,av,cv,ca,cc,n,D,P,rfl,hgd,hsm,hten,hrs,hrc,hn41,hsp,hb1⟩;have RD:=aA hrs;have RC:=aA hrc;have SM:=aA hsm;have GD:=aA hgd;have B1:=aA hb1;have HP:=aA (show ∀ i,i<n→U8 (P i)∧(P i).length≤1048576 from fun i hi=>⟨(hsp i hi).1,by have:=(hsp i hi).2;omega⟩)
 clear hgd hsm hrs hrc hsp hb1 HR HU hbig hmax;by_cases hz:pW l D P n=0
 ·obtain ⟨hR,hRC⟩:=zfc.1 hz
  have HRi:=aA hR;have HRC:=aA hRC;have HIC:=aA (tJ av cv l.length l ca cc n D P w1 RD.out rfl SM.out RC.out HP.out hR hRC);have HSC:=aA (fun u (hu:Below w1.heap.size w1 u)=>uL av cv l.length l ca cc n D P u (RD.out.below hu) rfl SM.out (RC.out.below hu) HP.out hR hRC)
  have HKR:=aA (lP (Z:=aU l) hRC);have HKU:=aA (zy1 (Z:=aU l) (D:=D) HP.out);have HCNT:=aA (fun i (hi:i<(aT (aU l) D P n).length)=>zxe hi)
  have hkl:=mM (aU l) D P n;have hn40:=hRC.many;obtain ⟨K,hK⟩:∃ K,K=aT (aU l) D P n:=⟨_,rfl⟩;rw[←hK]at HIC HSC HKR HKU HCNT hkl;have HKd:=aA hK;clear hK hz hR hRC;go_wp2_with fail
  refine HIC.out.mono ?_;rintro e w2 ⟨ka,kc,rfl,hG,hb2⟩;have A2:=aA (aC w2 (.cells #[.int .i64 0,.slice ka K.length kc] 56));have X5:=aA (Two.new w2 (.int .i64 0) (.slice ka K.length kc) 56);have RK:=aA (hG.rd.below A2.out);have B2:=aA (aB hb2 A2.out);clear hG hb2 A2 HIC;obtain ⟨t0,t1⟩:=X5.out;go_wp2_with fail
  clear t0 t1;generalize w2.alloc (.cells #[.int .i64 0,.slice ka K.length kc] 56)=W2 at *;generalize w2.heap.size=b5 at *;go_loopw [7,8,9,10,11,12] (fun v7 _ _ _ _ _ wr=>∃ j:Nat,j≤l.length∧v7=.int .i64 j∧Hid (Below W2.heap.size W2 wr)) (fun v7 _ _ _ _ _ _=>l.length - (intOf v7).toNat)
  case atStart=>exact ⟨0,Nat.zero_le _,rfl,aA (Below.refl _ _)⟩
  case round =>
   obtain ⟨j,hj,rfl,HB⟩:=hrel;have B3:=aA (aB B2.out HB.out);by_cases hlt:j<l.length
   ·have hlt':(j:Int)<(l.length:Int):=by omega
    have hj0:¬ (j:Int)<0:=by omega
    obtain ⟨b,off,s,y,cc',hav,hbl,hs,c0,c1,c2',c3,c4,hr⟩:=(RD.out.below B3.out).at hlt;subst hav;have hsl:=List.mem_of_getElem? hs;have HF1:=aA (zb0 HRi.out hsl);have HCC:=aA (zl0 (some ⟨b,off,none⟩) cv l.length l s.name s wr (RD.out.below B3.out) rfl HRi.out SM.out (nZ HRi.out.rise hsl));have HR2:=aA (fun q hq=>zxc HRi.out HRC.out hsl HP.out q hq)
    rw[←HKd.out]at HR2;have hch4:=nI HRi.out hsl;have hpo:=fun u x y (hu:RdL u x (cH l s))=>xQ x y (cH l s).length (cH l s) u hu rfl (by omega) (rB HF1.out)
    rw[HF1.out]at hpo;have HPO:=aA hpo;have HPL:=aA (zgk HF1.out);have hnl60:=zei HF1.out;clear hs c1 c2' c3 c4 hr hsl hpo HF1;generalize cH l s=CH at *;go_wp2_with fail
    refine HCC.out.mono ?_;rintro e w4 ⟨a3,c3,rfl,hr3,hc3,hb4⟩;have R3:=aA hr3.rd;have B4:=aA (aB HB.out hb4);clear hr3 hc3 hb4 c0 HCC;go_wp2_with fail
    refine (HPO.out w4 a3 c3 R3.out).mono ?_;rintro e w5 ⟨na,nc,rfl,hN,hb5⟩;generalize oE CH=NL at *;have A5:=aA (aC w5 (.cells #[.int .i64 0,.slice na NL.length nc] 58));have X9:=aA (Two.new w5 (.int .i64 0) (.slice na NL.length nc) 58);have RN:=aA (hN.reads.below A5.out);have R3n:=aA ((R3.out.below hb5).below A5.out);have B5:=aA (aB B4.out (aB hb5 A5.out));clear hN hb5 A5 R3 B4 HPO;obtain ⟨x0,x1⟩:=X9.out;go_wp2_with fail
    clear x0 x1;generalize w5.alloc (.cells #[.int .i64 0,.slice na NL.length nc] 58)=W5 at *;generalize w5.heap.size=b9 at *;go_loopw [10,11,12] (fun v10 _ _ wx=>∃ k:Nat,k≤NL.length∧v10=.int .i64 k∧Hid (Below W5.heap.size W5 wx)) (fun v10 _ _ _=>NL.length - (intOf v10).toNat)
    case atStart=>exact ⟨0,Nat.zero_le _,rfl,aA (Below.refl _ _)⟩
    case round =>
     obtain ⟨k,hk,rfl,HX⟩:=hrel;have X9x:=aA (X9.out.below HX.out);by_cases hkl:k<NL.length
     ·have hkl':(k:Int)<(NL.length:Int):=by omega
      have hk0:¬ (k:Int)<0:=by omega
      obtain ⟨nb,no,q,hna,hnb,hq,hcn⟩:=(RN.out.below HX.out).at hkl;subst hna;obtain ⟨Q,B,h1,h2⟩:=HR2.out q (HPL.out q (List.mem_of_getElem? hq));have R3x:=aA (R3n.out.below HX.out);have BX5:=aA (aB B5.out HX.out);have BX2:=aA (aB B2.out BX5.out);have HC1:=aA (h1 a3 ca c3 cc wr R3x.out (RC.out.below BX2.out));have HC2:=aA (fun u (hu:Below wr.heap.size wr u)=>h2 a3 ka c3 kc u (R3x.out.below hu) (RK.out.below (aB BX5.out hu)))
      have hcn':=hcn;obtain ⟨x0,x1⟩:=X9x.out;clear h1 h2 hq;go_wp2_with fail
      refine HC1.out.mono ?_;rintro e w6 ⟨x1a,x1c,rfl,hg6,hb6⟩;have A6:=aA (aC w6 (.cells #[.int .i64 Q,.slice x1a B.length x1c] 61));have X11:=aA (Two.new w6 (.int .i64 Q) (.slice x1a B.length x1c) 61);have O6:=aA (aG hg6.1 A6.out);have B6:=aA (aB hb6 A6.out);clear hg6 hb6 A6 x0 x1 hcn';have KB:Hid (∀ u:World,Below wr.heap.size wr u→u.cell? ⟨b5,1,none⟩=some (.slice ka K.length kc)∧u.cell? ⟨b9,1,none⟩=some (.slice (some ⟨nb,no,none⟩) NL.length nc)∧u.cell? ⟨nb,no+k,none⟩=some (.string (str q))):=aA (fun u hu=>⟨(X5.out.below (aB BX5.out hu)).2,(X9x.out.below hu).2,(hu.cell (p:=⟨nb,no+k,none⟩) hnb).trans hcn⟩)
      clear hcn;go_upto_region 17 with fail
      generalize w6.alloc (.cells #[.int .i64 Q,.slice x1a B.length x1c] 61)=W9 at *;generalize w6.heap.size=b11 at *;have KB2:Hid (∀ u:World,Below W9.heap.size W9 u→u.cell? ⟨b5,1,none⟩=some (.slice ka K.length kc)∧u.cell? ⟨b9,1,none⟩=some (.slice (some ⟨nb,no,none⟩) NL.length nc)∧u.cell? ⟨nb,no+k,none⟩=some (.string (str q))):=aA (fun u hu=>KB.out u (aB B6.out hu))
      have HC3:=aA (fun u (hu:Below W9.heap.size W9 u)=>HC2.out u (aB B6.out hu))
      clear HC2 KB;have h5l:b5<W9.heap.size:=World.block_lt_of_cell? W9 ⟨b5,1,none⟩ (KB2.out _ (Below.refl _ _)).1;have h9l:b9<W9.heap.size:=World.block_lt_of_cell? W9 ⟨b9,1,none⟩ (KB2.out _ (Below.refl _ _)).2.1;have hnl:nb<W9.heap.size:=World.block_lt_of_cell? W9 ⟨nb,no+k,none⟩ (KB2.out _ (Below.refl _ _)).2.2;have BD:=aA ((Below.refl W9.heap.size W9).drew);have BA:=aA (aB (aC W9 (.cells #[.int .i64 0,.slice none 0 0] 61)) (Below.refl _ _).drew);have Z4:=aA ((Box.new W9 (.int .i64 0) (.slice none 0 0) 61).below (Below.refl _ _).drew);have hn1:¬ b5=W9.heap.size:=by omega
      have hn2:¬ W9.heap.size=b5:=by omega
      have hn3:¬ b9=W9.heap.size:=by omega
      have hn4:¬ W9.heap.size=b9:=by omega
      have hn5:¬ nb=W9.heap.size:=by omega
      have hn6:¬ W9.heap.size=nb:=by omega
      obtain ⟨k0,k1,k2⟩:=KB2.out W9 (Below.refl _ _);go_cut [12] from 68 to 90 (fun v12 wc=>∃ (b12:Nat) (x2a:Option Addr) (x2c:Nat),v12=.pointer (some ⟨b12,0,none⟩)∧Hid (Two wc b12 (.int .i64 Q) (.slice x2a B.length x2c))∧Hid (∃ B0,wc.ownsRow B0 5 1 (.slice x2a B.length x2c) B.length (B.map (Value.int .u8)))∧Hid (Below W9.heap.size W9 wc))
      case first =>
       go_region_held3 (fun u=>u.cell? ⟨b5,1,none⟩=some (.slice ka K.length kc)∧u.cell? ⟨b9,1,none⟩=some (.slice (some ⟨nb,no,none⟩) NL.length nc)∧u.cell? ⟨nb,no+k,none⟩=some (.string (str q))) (first | exact KB2.out _ BN6.out | exact KB2.out _ (aB BN6.out (aC _ _)) | exact KB2.out _ BS6.out | exact KB2.out _ BA.out | exact KB2.out _ BD.out | go_keep)
        ((first | (go_at_call 24;refine (HC3.out _ (by first | exact BD.out | exact BA.out)).mono ?_;rintro e w7 ⟨x2a,x2c,rfl,hg7,hb7⟩;have BN6:Hid (Below W9.heap.size W9 w7):=aA (by first | exact aB BD.out hb7 | exact aB BA.out hb7);have O7:=aA hg7.1;(first | (have Z6:Box w7 W9.heap.size (.int .i64 0) (.slice none 0 0):=Z4.out.below hb7;have K6:=aA (aD.two w7 W9.heap.size 0 1 (.int .i64 Q) (.slice x2a B.length x2c));have BS6:=aA (BN6.out.trans (K6.out.below (B:=W9.heap.size) BN6.out.size (fun x hx e=>by omega)));have RS6:=aA (aH hg7.1 K6.out (fun x hx e=>by have h9:=(hg7.1.lt x hx).1;simp at h9;omega));have ZS:=aA (Two.set Z6.1 (.int .i64 Q) (.slice x2a B.length x2c));obtain ⟨⟨n0,n1⟩,p0,p1⟩:=Z6) | skip);clear hg7 hb7)))
       ·go_wp2_with fail
        go_meet
        case rel=>exact ⟨w7.heap.size,x2a,x2c,rfl,aA (Two.new w7 _ _ _),aA ⟨_,aG O7.out (aC w7 (.cells #[.int .i64 Q,.slice x2a B.length x2c] 61))⟩,aA (aB BN6.out (aC _ _))⟩
       ·go_wp2_with fail
        go_meet
        case rel=>exact ⟨W9.heap.size,x2a,x2c,rfl,ZS,aA ⟨_,RS6.out⟩,BS6⟩
      case rest =>
       obtain ⟨b12,x2a,x2c,rfl,X12,O12,BC⟩:=hcut;clear k0 k1 k2;obtain ⟨B0,ho12⟩:=O12.out;have cv2:=zzi ho12;have cv1:=zzi (aG O6.out BC.out);obtain ⟨m0,m1⟩:=X11.out.below BC.out;obtain ⟨p0,p1⟩:=X12.out;have hqe:(Q != Q)=false:=by simp
       have hqf:(Q==Q)=true:=by simp
       clear ho12;go_wp2_with fail
       go_roundw
       case rel=>exact ⟨k+1,by omega,by go_num,aA (aB HX.out (aB B6.out BC.out))⟩
       case measure=>simp[intOf];omega
     ·have hkl':¬ (k:Int)<(NL.length:Int):=by omega
      obtain ⟨x0,x1⟩:=X9x.out;go_wp2_with fail
      go_roundw
      case rel=>exact ⟨j+1,by omega,by go_num,aA (aB B5.out HX.out)⟩
      case measure=>simp[intOf];omega
   ·have hlt':¬ (j:Int)<(l.length:Int):=by omega
    go_wp2_with fail
    go_loopw [6,13,14,15,16] (fun v6 v13 _ _ _ wy=>∃ i:Nat,i≤K.length∧v6=.int .i64 0∧v13=.int .i64 i∧Hid (Below W2.heap.size W2 wy)) (fun _ v13 _ _ _ _=>K.length - (intOf v13).toNat)
    case atStart=>exact ⟨0,Nat.zero_le _,rfl,rfl,HB⟩
    case round =>
     clear HB B3;obtain ⟨i,hi,rfl,rfl,HY⟩:=hrel;have X5y:=aA (X5.out.below HY.out);have BY:=aA (aB B2.out HY.out);by_cases hiK:i<K.length
     ·have hiK':(i:Int)<(K.length:Int):=by omega
      have hi0:¬ (i:Int)<0:=by omega
      have HZ:=aA (HCNT.out i hiK);obtain ⟨kb,ko,kA,kC,hka,hkb,hkc⟩:=(RK.out.below HY.out) (by omega)
      subst hka;obtain ⟨d0,-,-⟩:=hkc i hiK;clear hkc;obtain ⟨z,hz⟩:∃ z,z=dg K i:=⟨_,rfl⟩;rw[←hz]at d0 HZ;obtain ⟨x0,x1⟩:=X5y.out;go_wp2_with fail
      clear x0 x1 hz;go_loopw [6,14,15,16] (fun v6 v14 _ _ wx=>∃ (k:Nat) (c:Nat),k≤l.length∧v14=.int .i64 k∧v6=.int .i64 c∧c≤k * 20000∧((∃ k0,k0<k∧∃ s,l[k0]?=some s∧z∈cZ (dE s.layer))→0<c)∧Hid (Below wr.heap.size wr wx)) (fun _ v14 _ _ _=>l.length - (intOf v14).toNat)
      case atStart=>exact ⟨0,0,Nat.zero_le _,rfl,rfl,by omega,fun ⟨k0,h,_⟩=>absurd h (by omega),aA (Below.refl _ _)⟩
      case round =>
       obtain ⟨k,c,hk,rfl,rfl,hcb,hcn,HX⟩:=hrel;have HCN:=aA hcn;clear hcn;by_cases hkl:k<l.length
       ·have hkl':(k:Int)<(l.length:Int):=by omega
        have hk0:¬ (k:Int)<0:=by omega
        have BB:=aA (aB BY.out HX.out);obtain ⟨b,off,s,y,cc',hav,hbl,hs,c0,c1,c2',c3,c4,hr⟩:=(RD.out.below BB.out).at hkl;subst hav;have hRl:=eE.1 (HRi.out.own s (List.mem_of_getElem? hs)).2.2;have HQ:=aA hs;have hci:=qS y cc' s.layer.length s.layer wr hr rfl (by have:=hRl.len;omega) (cN hRl)
        rw[eE.2 hRl,show gO s.layer=cZ (dE s.layer) by rw[gO,if_pos (eE.2 hRl)]]at hci
        have hzl:=qE hRl;obtain ⟨ys,hys⟩:∃ ys,ys=cZ (dE s.layer):=⟨_,rfl⟩;rw[←hys]at hci hzl;have HYS:=aA hys;have HCI:=aA hci;clear hs c0 c1 c2' c3 hr hRl hci hys;go_wp2_with fail
        refine HCI.out.mono ?_;rintro e w6 ⟨za,zc,rfl,hOz,hb6⟩;have RZ:=aA (cM hOz rfl);have B6:=aA (aB HX.out hb6);clear hOz hb6 c4 HCI;go_wp2_with fail
        go_loopw [6,16] (fun v6 v16 wy2=>∃ (t c':Nat),t≤ys.length∧v16=.int .i64 t∧v6=.int .i64 c'∧c≤c'∧c'≤c+t∧(z∈ys.take t→0<c')∧Hid (Below w6.heap.size w6 wy2)) (fun _ v16 _=>ys.length - (intOf v16).toNat)
        case atStart=>exact ⟨0,c,Nat.zero_le _,rfl,rfl,Nat.le_refl _,by omega,fun h=>by simp at h,aA (Below.refl _ _)⟩
        case round =>
         obtain ⟨t,c',ht,rfl,rfl,hc1,hc2,hc3,HV⟩:=hrel;by_cases htl:t<ys.length
         ·have htl':(t:Int)<(ys.length:Int):=by omega
          have ht0:¬ (t:Int)<0:=by omega
          obtain ⟨zb,zo,hza,hzb,hzc⟩:=(RZ.out.below HV.out) (by intro e;simp[e]at htl)
          subst hza;have hz1:=hzc t htl;obtain ⟨yz,hyz⟩:∃ yz,yz=ys.getD t 0:=⟨_,rfl⟩;rw[←hyz]at hz1;have HTK:=aA (show ∀ x,x∈ys.take (t+1)→x∈ys.take t∨x=yz from fun x hx=>by
           have hg:ys[t]?=some yz:=by rw[hyz,List.getD_eq_getElem?_getD,List.getElem?_eq_getElem htl];rfl
           rw[List.take_add_one,hg]at hx;rcases List.mem_append.1 hx with h | h
           ·exact .inl h
           ·exact .inr (by simpa using h))
          have HC3:=aA hc3;have BV:=aA (aB B6.out HV.out);have KV:Hid (∀ u:World,Below wr.heap.size wr u→u.cell? ⟨zb,zo+t,none⟩=some (.int .i64 yz)∧u.cell? ⟨b5,1,none⟩=some (.slice (some ⟨kb,ko,none⟩) K.length kc)∧u.cell? ⟨kb,ko+i * 2,none⟩=some (.int .i64 z)):=aA (fun u hu=>⟨(hu.cell (p:=⟨zb,zo+t,none⟩) hzb).trans hz1,(X5y.out.below (aB BV.out hu)).2,((aB BV.out hu).cell (p:=⟨kb,ko+i * 2,none⟩) hkb).trans d0⟩)
          obtain ⟨v0,v1,v2⟩:=KV.out wr (Below.refl _ _);have BD:Hid (Below wr.heap.size wr wr.drew):=aA (Below.refl _ _).drew;clear hzc hz1 hyz hc3;by_cases hyz:yz=z
          ·have hyb:(yz==z)=true:=by simpa using hyz
           go_wp2_with fail
           clear v0 v1 v2;refine wp_region_held_drew (S:=fun u:World=>u.cell? ⟨zb,zo+t,none⟩=some (.int .i64 yz)∧u.cell? ⟨b5,1,none⟩=some (.slice (some ⟨kb,ko,none⟩) K.length kc)∧u.cell? ⟨kb,ko+i * 2,none⟩=some (.int .i64 z)) (by kernel_rfl) (KV.out _ BD.out) (fun hHeld=>?_)
           change wpAnyH _ _ _ _ _ _ (Array.replicate _ false) _ _;refine tk 0 117 (.slice (some ⟨zb,zo,none⟩) ys.length zc) hHeld rfl (by kernel_rfl) (by kernel_rfl) (by kernel_rfl) (fun _ _ _ h=>h) (Or.inl ⟨by rfl,?_⟩) ?_
           ·rintro w ⟨q0,q1,q2⟩
            go_simp <;> (first | done | omega | (intro _;omega))
           try simp only[Act.put,zsE]
           refine tk 1 118 (.int .i64 t) hHeld rfl (by kernel_rfl) (by kernel_rfl) (by kernel_rfl) (fun _ _ _ h=>h) (Or.inl ⟨by rfl,?_⟩) ?_
           ·rintro w ⟨q0,q1,q2⟩
            go_simp <;> (first | done | omega | (intro _;omega))
           try simp only[Act.put,zsE]
           refine tk 2 119 (.pointer (some ⟨zb,zo+t,none⟩)) hHeld rfl (by kernel_rfl) (by kernel_rfl) (by kernel_rfl) (fun _ _ _ h=>h) (Or.inl ⟨by rfl,?_⟩) ?_
           ·rintro w ⟨q0,q1,q2⟩
            go_simp <;> (first | done | omega | (intro _;omega))
           try simp only[Act.put,zsE]
           refine tk 3 120 (.int .i64 yz) hHeld rfl (by kernel_rfl) (by kernel_rfl) (by kernel_rfl) (fun _ _ _ h=>h) (Or.inl ⟨by rfl,?_⟩) ?_
           ·rintro w ⟨q0,q1,q2⟩
            go_simp <;> (first | done | omega | (intro _;omega))
           try simp only[Act.put,zsE]
           refine tk 4 121 (.pointer (some ⟨b5,1,none⟩)) hHeld rfl (by kernel_rfl) (by kernel_rfl) (by kernel_rfl) (fun _ _ _ h=>h) (Or.inl ⟨by rfl,?_⟩) ?_
           ·rintro w ⟨q0,q1,q2⟩
            go_simp <;> (first | done | omega | (intro _;omega))
           try simp only[Act.put,zsE]
           refine tk 5 122 (.slice (some ⟨kb,ko,none⟩) K.length kc) hHeld rfl (by kernel_rfl) (by kernel_rfl) (by kernel_rfl) (fun _ _ _ h=>h) (Or.inl ⟨by rfl,?_⟩) ?_
           ·rintro w ⟨q0,q1,q2⟩
            go_simp <;> (first | done | omega | (intro _;omega))
           try simp only[Act.put,zsE]
           refine tk 6 123 (.int .i64 i) hHeld rfl (by kernel_rfl) (by kernel_rfl) (by kernel_rfl) (fun _ _ _ h=>h) (Or.inl ⟨by rfl,?_⟩) ?_
           ·rintro w ⟨q0,q1,q2⟩
            go_simp <;> (first | done | omega | (intro _;omega))
           try simp only[Act.put,zsE]
           refine tk 7 124 (.pointer (some ⟨kb,ko+i * 2,none⟩)) hHeld rfl (by kernel_rfl) (by kernel_rfl) (by kernel_rfl) (fun _ _ _ h=>h) (Or.inl ⟨by rfl,?_⟩) ?_
           ·rintro w ⟨q0,q1,q2⟩
            go_simp <;> (first | done | omega | (intro _;omega))
           try simp only[Act.put,zsE]
           refine tk 8 125 (.pointer (some ⟨kb,ko+i * 2,none⟩)) hHeld rfl (by kernel_rfl) (by kernel_rfl) (by kernel_rfl) (fun _ _ _ h=>h) (Or.inl ⟨by rfl,?_⟩) ?_
           ·rintro w ⟨q0,q1,q2⟩
            go_simp <;> (first | done | omega | (intro _;omega))
           try simp only[Act.put,zsE]
           refine tk 9 126 (.int .i64 z) hHeld rfl (by kernel_rfl) (by kernel_rfl) (by kernel_rfl) (fun _ _ _ h=>h) (Or.inl ⟨by rfl,?_⟩) ?_
           ·rintro w ⟨q0,q1,q2⟩
            go_simp <;> (first | done | omega | (intro _;omega))
           try simp only[Act.put,zsE]
           refine tk 10 127 (.bool true) hHeld rfl (by kernel_rfl) (by kernel_rfl) (by kernel_rfl) (fun _ _ _ h=>h) (Or.inl ⟨by rfl,?_⟩) ?_
           ·rintro w ⟨q0,q1,q2⟩
            go_simp <;> (first | done | omega | (intro _;omega))
           try simp only[Act.put,zsE]
           refine wpAnyH_done (by kernel_rfl) ?_ _
           go_wp2_with fail
           go_roundw
           case rel=>exact ⟨t+1,c'+1,by omega,by go_num,by go_num,by omega,by omega,fun _=>by omega,aA (aB HV.out BD.out)⟩
           case measure=>simp[intOf];omega
          ·have hyb:(yz==z)=false:=by simpa using hyz
           go_wp2_with fail
           clear v0 v1 v2;refine wp_region_held_drew (S:=fun u:World=>u.cell? ⟨zb,zo+t,none⟩=some (.int .i64 yz)∧u.cell? ⟨b5,1,none⟩=some (.slice (some ⟨kb,ko,none⟩) K.length kc)∧u.cell? ⟨kb,ko+i * 2,none⟩=some (.int .i64 z)) (by kernel_rfl) (KV.out _ BD.out) (fun hHeld=>?_)
           change wpAnyH _ _ _ _ _ _ (Array.replicate _ false) _ _;refine tk 0 117 (.slice (some ⟨zb,zo,none⟩) ys.length zc) hHeld rfl (by kernel_rfl) (by kernel_rfl) (by kernel_rfl) (fun _ _ _ h=>h) (Or.inl ⟨by rfl,?_⟩) ?_
           ·rintro w ⟨q0,q1,q2⟩
            go_simp <;> (first | done | omega | (intro _;omega))
           try simp only[Act.put,zsE]
           refine tk 1 118 (.int .i64 t) hHeld rfl (by kernel_rfl) (by kernel_rfl) (by kernel_rfl) (fun _ _ _ h=>h) (Or.inl ⟨by rfl,?_⟩) ?_
           ·rintro w ⟨q0,q1,q2⟩
            go_simp <;> (first | done | omega | (intro _;omega))
           try simp only[Act.put,zsE]
           refine tk 2 119 (.pointer (some ⟨zb,zo+t,none⟩)) hHeld rfl (by kernel_rfl) (by kernel_rfl) (by kernel_rfl) (fun _ _ _ h=>h) (Or.inl ⟨by rfl,?_⟩) ?_
           ·rintro w ⟨q0,q1,q2⟩
            go_simp <;> (first | done | omega | (intro _;omega))
           try simp only[Act.put,zsE]
           refine tk 3 120 (.int .i64 yz) hHeld rfl (by kernel_rfl) (by kernel_rfl) (by kernel_rfl) (fun _ _ _ h=>h) (Or.inl ⟨by rfl,?_⟩) ?_
           ·rintro w ⟨q0,q1,q2⟩
            go_simp <;> (first | done | omega | (intro _;omega))
           try simp only[Act.put,zsE]
           refine tk 4 121 (.pointer (some ⟨b5,1,none⟩)) hHeld rfl (by kernel_rfl) (by kernel_rfl) (by kernel_rfl) (fun _ _ _ h=>h) (Or.inl ⟨by rfl,?_⟩) ?_
           ·rintro w ⟨q0,q1,q2⟩
            go_simp <;> (first | done | omega | (intro _;omega))
           try simp only[Act.put,zsE]
           refine tk 5 122 (.slice (some ⟨kb,ko,none⟩) K.length kc) hHeld rfl (by kernel_rfl) (by kernel_rfl) (by kernel_rfl) (fun _ _ _ h=>h) (Or.inl ⟨by rfl,?_⟩) ?_
           ·rintro w ⟨q0,q1,q2⟩
            go_simp <;> (first | done | omega | (intro _;omega))
           try simp only[Act.put,zsE]
           refine tk 6 123 (.int .i64 i) hHeld rfl (by kernel_rfl) (by kernel_rfl) (by kernel_rfl) (fun _ _ _ h=>h) (Or.inl ⟨by rfl,?_⟩) ?_
           ·rintro w ⟨q0,q1,q2⟩
            go_simp <;> (first | done | omega | (intro _;omega))
           try simp only[Act.put,zsE]
           refine tk 7 124 (.pointer (some ⟨kb,ko+i * 2,none⟩)) hHeld rfl (by kernel_rfl) (by kernel_rfl) (by kernel_rfl) (fun _ _ _ h=>h) (Or.inl ⟨by rfl,?_⟩) ?_
           ·rintro w ⟨q0,q1,q2⟩
            go_simp <;> (first | done | omega | (intro _;omega))
           try simp only[Act.put,zsE]
           refine tk 8 125 (.pointer (some ⟨kb,ko+i * 2,none⟩)) hHeld rfl (by kernel_rfl) (by kernel_rfl) (by kernel_rfl) (fun _ _ _ h=>h) (Or.inl ⟨by rfl,?_⟩) ?_
           ·rintro w ⟨q0,q1,q2⟩
            go_simp <;> (first | done | omega | (intro _;omega))
           try simp only[Act.put,zsE]
           refine tk 9 126 (.int .i64 z) hHeld rfl (by kernel_rfl) (by kernel_rfl) (by kernel_rfl) (fun _ _ _ h=>h) (Or.inl ⟨by rfl,?_⟩) ?_
           ·rintro w ⟨q0,q1,q2⟩
            go_simp <;> (first | done | omega | (intro _;omega))
           try simp only[Act.put,zsE]
           refine tk 10 127 (.bool false) hHeld rfl (by kernel_rfl) (by kernel_rfl) (by kernel_rfl) (fun _ _ _ h=>h) (Or.inl ⟨by rfl,?_⟩) ?_
           ·rintro w ⟨q0,q1,q2⟩
            go_simp <;> (first | done | omega | (intro _;omega))
           try simp only[Act.put,zsE]
           refine wpAnyH_done (by kernel_rfl) ?_ _
           go_wp2_with fail
           go_roundw
           case rel=>exact ⟨t+1,c',by omega,by go_num,rfl,by omega,by omega,fun hx=>by rcases HTK.out _ hx with h | h;exact HC3.out h;exact absurd h.symm hyz,aA (aB HV.out BD.out)⟩
           case measure=>simp[intOf];omega
         ·have htl':¬ (t:Int)<(ys.length:Int):=by omega
          have HC3:=aA hc3;have hty:ys.take t=ys:=List.take_of_length_le (by omega)
          go_wp2_with fail
          go_roundw
          case rel =>
           refine ⟨k+1,c',by omega,by go_num,rfl,by omega,?_,aA (aB B6.out HV.out)⟩
           rintro ⟨k0,hk0,s',hs',hz'⟩;by_cases hkk:k0<k
           ·have:=HCN.out ⟨k0,hkk,s',hs',hz'⟩
            omega
           ·have hke:k0=k:=by omega
            subst hke;rw[HQ.out]at hs';cases hs'
            rw[←HYS.out]at hz';exact HC3.out (by rw[hty];exact hz')
          case measure=>simp[intOf];omega
       ·have hkl':¬ (k:Int)<(l.length:Int):=by omega
        have hcp:0<c:=HCN.out (by obtain ⟨k0,h1,h2⟩:=HZ.out;exact ⟨k0,by omega,h2⟩)
        have hcz:((c:Int)==0)=false:=by simp;omega
        go_wp2_with fail
        go_roundw
        case rel=>exact ⟨i+1,by omega,rfl,by go_num,aA (aB HY.out HX.out)⟩
        case measure=>simp[intOf];omega
     ·have hiK':¬ (i:Int)<(K.length:Int):=by omega
      have HFK0:=fun u (hu:Below wr.heap.size wr u)=>mH ka kc K.length (dg K) (bt K) u (RK.out.below (aB HY.out hu)) (by omega) HKU.out
      rw[jI HKR.out]at HFK0;have HFK:=aA HFK0;have HSC2:=aA (fun u (hu:Below wr.heap.size wr u)=>HSC.out u (aB BY.out hu))
      clear HFK0;obtain ⟨x0,x1⟩:=X5y.out;go_wp2_with fail
      clear x0 x1;have KS:Hid (∀ u:World,Below wr.heap.size wr u→u.cell? ⟨b5,1,none⟩=some (.slice ka K.length kc)):=aA (fun u hu=>(X5y.out.below hu).2)
      have BD:Hid (Below wr.heap.size wr wr.drew):=aA (Below.refl _ _).drew;refine wp_region_held_drew (S:=fun u:World=>u.cell? ⟨b5,1,none⟩=some (.slice ka K.length kc)) (by kernel_rfl) (KS.out _ BD.out) (fun hHeld=>?_)
      change wpAnyH _ _ _ _ _ _ (Array.replicate _ false) _ _;refine tk 0 132 (.pointer (some ⟨b5,1,none⟩)) hHeld rfl (by kernel_rfl) (by kernel_rfl) (by kernel_rfl) (fun _ _ _ h=>h) (Or.inl ⟨by rfl,?_⟩) ?_
      ·rintro w q0
       go_simp <;> (first | done | omega | (intro _;omega))
      try simp only[Act.put,zsE]
      refine tk 1 133 (.slice ka K.length kc) hHeld rfl (by kernel_rfl) (by kernel_rfl) (by kernel_rfl) (fun _ _ _ h=>h) (Or.inl ⟨by rfl,?_⟩) ?_
      ·rintro w q0
       go_simp <;> (first | done | omega | (intro _;omega))
      try simp only[Act.put,zsE]
      refine wpAnyH_ready (rs:=[2]) (by kernel_rfl) (by simp) ?_
      refine AllReadyH.cons rfl (fun K hK=>?_) AllReadyH.nil
      go_simp
      refine (HFK.out _ BD.out).mono ?_;rintro e w5 ⟨rfl,hb5⟩;have BX1:=aA (aB BD.out hb5);clear hb5;go_wp2_with fail
      refine hK.out _ _ (KS.out _ BX1.out) (fun hHeld=>?_)
      clear hK K;try simp only[Act.put,zsE]
      refine tk 3 135 (.bool true) hHeld rfl (by kernel_rfl) (by kernel_rfl) (by kernel_rfl) (fun _ _ _ h=>h) (Or.inl ⟨by rfl,?_⟩) ?_
      ·rintro w q0
       go_simp <;> (first | done | omega | (intro _;omega))
      try simp only[Act.put,zsE]
      refine tk 4 136 (.bool true) hHeld rfl (by kernel_rfl) (by kernel_rfl) (by kernel_rfl) (fun _ _ _ h=>h) (Or.inl ⟨by rfl,?_⟩) ?_
      ·rintro w q0
       go_simp <;> (first | done | omega | (intro _;omega))
      try simp only[Act.put,zsE]
      refine tk 5 137 (.pointer (some ⟨b5,1,none⟩)) hHeld rfl (by kernel_rfl) (by kernel_rfl) (by kernel_rfl) (fun _ _ _ h=>h) (Or.inl ⟨by rfl,?_⟩) ?_
      ·rintro w q0
       go_simp <;> (first | done | omega | (intro _;omega))
      try simp only[Act.put,zsE]
      refine tk 6 138 (.slice ka K.length kc) hHeld rfl (by kernel_rfl) (by kernel_rfl) (by kernel_rfl) (fun _ _ _ h=>h) (Or.inl ⟨by rfl,?_⟩) ?_
      ·rintro w q0
       go_simp <;> (first | done | omega | (intro _;omega))
      try simp only[Act.put,zsE]
      refine tk 7 139 (.int .i64 (K.length:Nat)) hHeld rfl (by kernel_rfl) (by kernel_rfl) (by kernel_rfl) (fun _ _ _ h=>h) (Or.inl ⟨by rfl,?_⟩) ?_
      ·rintro w q0
       go_simp <;> (first | done | omega | (intro _;omega))
      try simp only[Act.put,zsE]
      refine tk 8 140 (.slice av l.length cv) hHeld rfl (by kernel_rfl) (by kernel_rfl) (by kernel_rfl) (fun _ _ _ h=>h) (Or.inl ⟨by rfl,?_⟩) ?_
      ·rintro w q0
       go_simp <;> (first | done | omega | (intro _;omega))
      try simp only[Act.put,zsE]
      refine tk 9 141 (.slice ca n cc) hHeld rfl (by kernel_rfl) (by kernel_rfl) (by kernel_rfl) (fun _ _ _ h=>h) (Or.inl ⟨by rfl,?_⟩) ?_
      ·rintro w q0
       go_simp <;> (first | done | omega | (intro _;omega))
      try simp only[Act.put,zsE]
      refine wpAnyH_ready (rs:=[10]) (by kernel_rfl) (by simp) ?_
      refine AllReadyH.cons rfl (fun K hK=>?_) AllReadyH.nil
      go_simp
      refine (HSC2.out _ BX1.out).mono ?_;rintro e w7 ⟨xa,xc,rfl,hg7,hb7⟩;have BX:=aA (aB BX1.out hb7);clear hb7 hg7;go_wp2_with fail
      refine hK.out _ _ (KS.out _ BX.out) (fun hHeld=>?_)
      clear hK K;try simp only[Act.put,zsE]
      refine tk 11 143 (.slice xa K.length xc) hHeld rfl (by kernel_rfl) (by kernel_rfl) (by kernel_rfl) (fun _ _ _ h=>h) (Or.inl ⟨by rfl,?_⟩) ?_
      ·rintro w q0
       go_simp <;> (first | done | omega | (intro _;omega))
      try simp only[Act.put,zsE]
      refine tk 12 144 (.int .i64 (K.length:Nat)) hHeld rfl (by kernel_rfl) (by kernel_rfl) (by kernel_rfl) (fun _ _ _ h=>h) (Or.inl ⟨by rfl,?_⟩) ?_
      ·rintro w q0
       go_simp <;> (first | done | omega | (intro _;omega))
      try simp only[Act.put,zsE]
      refine tk 13 145 (.bool true) hHeld rfl (by kernel_rfl) (by kernel_rfl) (by kernel_rfl) (fun _ _ _ h=>h) (Or.inl ⟨by rfl,?_⟩) ?_
      ·rintro w q0
       go_simp <;> (first | done | omega | (intro _;omega))
      try simp only[Act.put,zsE]
      refine tk 14 146 (.bool true) hHeld rfl (by kernel_rfl) (by kernel_rfl) (by kernel_rfl) (fun _ _ _ h=>h) (Or.inl ⟨by rfl,?_⟩) ?_
      ·rintro w q0
       go_simp <;> (first | done | omega | (intro _;omega))
      try simp only[Act.put,zsE]
      refine tk 15 2 (.bool true) hHeld rfl (by kernel_rfl) (by kernel_rfl) (by kernel_rfl) (fun _ _ _ h=>h) (Or.inl ⟨by rfl,?_⟩) ?_
      ·rintro w q0
       go_simp <;> (first | done | omega | (intro _;omega))
      try simp only[Act.put,zsE]
      refine wpAnyH_done (by kernel_rfl) ?_ _
      go_wp2_with fail
      go_ret
      exact ⟨rfl,aB B1.out (aB BY.out BX.out)⟩
 ·have HSC:=aA (fun u (hu:Below w1.heap.size w1 u)=>sV av cv l.length l ca cc n D P u (RD.out.below hu) rfl SM.out (RC.out.below hu) (by omega) HP.out (by rw[zr0 GD.out];exact hz))
  rw[zr0 GD.out]at HSC;have HIC:=aA (sR av cv l.length l ca cc n D P w1 RD.out rfl SM.out RC.out (by omega) HP.out hz)
  obtain ⟨g,hge⟩:∃ g,g=pW l D P n:=⟨_,rfl⟩;rw[←hge]at HSC HIC hz;have hgb:(g==0)=false:=by simpa using hz
  have hgc:(g != 0)=true:=by simpa using hz
  clear hge hz;go_wp2_with fail
  refine HIC.out.mono ?_;rintro e w2 ⟨ka,kc,rfl,hG,hb2⟩;have A2:=aA (aC w2 (.cells #[.int .i64 g,.slice ka 0 kc] 56));have X5:=aA (Two.new w2 (.int .i64 g) (.slice ka 0 kc) 56);have B2:=aA (aB hb2 A2.out);clear hG hb2 A2 HIC;obtain ⟨t0,t1⟩:=X5.out;go_wp2_with fail
  clear t0 t1;generalize w2.alloc (.cells #[.int .i64 g,.slice ka 0 kc] 56)=W2 at *;generalize w2.heap.size=b5 at *;have KS:Hid (∀ u:World,Below W2.heap.size W2 u→u.cell? ⟨b5,0,none⟩=some (.int .i64 g)):=aA (fun u hu=>(X5.out.below hu).1)
  have BD:Hid (Below W2.heap.size W2 W2.drew):=aA (Below.refl _ _).drew;refine wp_region_held_drew (S:=fun u:World=>u.cell? ⟨b5,0,none⟩=some (.int .i64 g)) (by kernel_rfl) (KS.out _ BD.out) (fun hHeld=>?_)
  change wpAnyH _ _ _ _ _ _ (Array.replicate _ false) _ _;refine tk 0 30 (.slice av l.length cv) hHeld rfl (by kernel_rfl) (by kernel_rfl) (by kernel_rfl) (fun _ _ _ h=>h) (Or.inl ⟨by rfl,?_⟩) ?_
  ·rintro w q0
   go_simp <;> (first | done | omega | (intro _;omega))
  try simp only[Act.put,zsE]
  refine tk 1 31 (.slice ca n cc) hHeld rfl (by kernel_rfl) (by kernel_rfl) (by kernel_rfl) (fun _ _ _ h=>h) (Or.inl ⟨by rfl,?_⟩) ?_
  ·rintro w q0
   go_simp <;> (first | done | omega | (intro _;omega))
  try simp only[Act.put,zsE]
  refine tk 4 34 (.pointer (some ⟨b5,0,none⟩)) hHeld rfl (by kernel_rfl) (by kernel_rfl) (by kernel_rfl) (fun _ _ _ h=>h) (Or.inl ⟨by rfl,?_⟩) ?_
  ·rintro w q0
   go_simp <;> (first | done | omega | (intro _;omega))
  try simp only[Act.put,zsE]
  refine tk 5 35 (.int .i64 g) hHeld rfl (by kernel_rfl) (by kernel_rfl) (by kernel_rfl) (fun _ _ _ h=>h) (Or.inl ⟨by rfl,?_⟩) ?_
  ·rintro w q0
   go_simp <;> (first | done | omega | (intro _;omega))
  try simp only[Act.put,zsE]
  refine wpAnyH_ready (rs:=[2]) (by kernel_rfl) (by simp) ?_
  refine AllReadyH.cons rfl (fun K hK=>?_) AllReadyH.nil
  go_simp
  refine (HSC.out _ (aB B2.out BD.out)).mono ?_;rintro e w5 ⟨xa,xc,rfl,hg5,hb5⟩;have BX:=aA (aB BD.out hb5);clear hb5 hg5;go_wp2_with fail
  refine hK.out _ _ (KS.out _ BX.out) (fun hHeld=>?_)
  clear hK K;try simp only[Act.put,zsE]
  refine tk 3 33 (.int .i64 g) hHeld rfl (by kernel_rfl) (by kernel_rfl) (by kernel_rfl) (fun _ _ _ h=>h) (Or.inl ⟨by rfl,?_⟩) ?_
  ·rintro w q0
   go_simp <;> (first | done | omega | (intro _;omega))
  try simp only[Act.put,zsE]
  refine tk 6 36 (.bool true) hHeld rfl (by kernel_rfl) (by kernel_rfl) (by kernel_rfl) (fun _ _ _ h=>h) (Or.inl ⟨by rfl,?_⟩) ?_
  ·rintro w q0
   go_simp <;> (first | done | omega | (intro _;omega))
  try simp only[Act.put,zsE]
  refine tk 7 2 (.bool true) hHeld rfl (by kernel_rfl) (by kernel_rfl) (by kernel_rfl) (fun _ _ _ h=>h) (Or.inl ⟨by rfl,?_⟩) ?_
  ·rintro w q0
   go_simp <;> (first | done | omega | (intro _;omega))
  try simp only[Act.put,zsE]
  refine wpAnyH_done (by kernel_rfl) ?_ _
  go_wp2_with fail
  go_ret
  exact ⟨rfl,aB B1.out (aB B2.out BX.out)⟩
theorem lifted (os:Os) (started:os.Started) (H:Type) (enc:TypeId × Value→H) :
  ReturnsInHanded {} Tryz.checked os 4 .any (Rows.fnKeepsSpec.pre6 enc Tryz.prog Tryz.f4 Rows.fnKeepsRow.domain false) (Rows.fnKeepsSpec.post enc Tryz.prog Tryz.f4 false true false false):=by
 refine returnsInHanded_of_change (C:=Tryz.checked) own started (by kernel_rfl) Tryz.func4
  (ChangeSpec.witness6 (enc:=enc) (C:=Tryz.checked) false ⟨#[],#[.slice none 0 0],[]⟩ 8 (by kernel_rfl) (by kernel_rfl) (by kernel_rfl) (by kernel_rfl)) ?_
 intro W base args ds gs before hval0 hW hcnd _;have hval:∀ (j:Nat) t v,Tryz.f4.params[j]?=some t→args[j]?=some v→Value.okWide Tryz.prog W .any base t v:=hval0;have hW':=hW;obtain ⟨p,q,hA0,hV,rfl,hfz,hnd⟩:=hW;have hA:DataW.TrodAll enc Tryz.prog W 0 (fun _=>true) true Tryz.f4.params.toList args.toList ds p:=hA0
 rw[Tryz.params4]at hA hval;obtain ⟨v0,vs0,d0,ds0,p0,q0,hargs,rfl,rfl,h0,r0⟩:=trodAll_cons hA;obtain ⟨rfl,rfl,rfl⟩:=trodAll_nil r0;obtain rfl:args=#[v0]:=by cases args;simp_all
 obtain ⟨rfl,rfl⟩:=trodVars_none hV;obtain ⟨a0,len0,cap0,rfl⟩:=okWide_slice Tryz.underlying22 (hval 0 22 v0 rfl rfl);have k0:=h0;have lt0:∀ x∈p0,x.block<W.heap.size:=by obtain ⟨m,hm⟩:=k0;exact DataW.trod_lt m _ _ _ hm
 obtain ⟨zs,hlen,hread,hu,hmax⟩:∃ zs:List Int,zs.length=len0∧aO .u8 W a0 zs∧U8 zs∧zs.length≤maxLen:=by
  obtain ⟨fuel,hf⟩:=h0;rcases open_ints Tryz.underlying22 Tryz.underlying5 (by kernel_rfl) hf with ⟨hcs,_⟩ | ⟨x,l,c,zs,hcs,_,hl,hm,hz,_,hcell,hwz⟩
  ·simp[Value.cells]at hcs
   obtain ⟨rfl,rfl,rfl⟩:=hcs;exact ⟨[],rfl,fun h=>absurd rfl h,fun z hz=>by simp at hz,Nat.zero_le _⟩
  ·simp[Value.cells]at hcs
   obtain ⟨rfl,rfl,rfl⟩:=hcs;exact zf7 (by simpa using hz) hl hm hcell hwz
 subst hlen;clear hA0 hval0;refine (walk a0 cap0 zs W hread hu hmax).mono fun e W' ⟨he,bel⟩=>?_
 subst he;exact ⟨_,rfl,_,_,_,[],_,[],hW',trodAll_mk1 (shut_bool Tryz.underlying4 _),(trodAll_cons_mk (Below.trod zvj (by kernel_rfl) (of_decide_eq_true (by kernel_rfl)) k0 bel lt0) trodAll_mk0),rfl,bel.frame _,fun h=>by cases h⟩
theorem over:Rows.fnKeepsRow.holds Tryz.pinned (OpenSpec.ofChange Rows.fnKeepsSpec) :=
 OpenClaim.holds_of_wide 4 Tryz.f4 rfl rfl rfl rfl rfl rfl rfl ⟨rfl,rfl,rfl,rfl,rfl⟩ rfl rfl rfl rfl rfl (by kernel_rfl) Tryz.func4 (by kernel_rfl)
  (of_decide_eq_true (by kernel_rfl)) (by unfold Func.isWrapper;first | (rw[if_pos (by decide +kernel)];kernel_rfl) | (rw[if_neg (by decide +kernel)];exact ⟨rfl,rfl⟩))
  (fun os started H enc _=>lifted os started H enc)
end Go.Proofs.YtgaeikgoknoamaaGreat.fnKeeps
namespace Go.Proofs.YtgaeikgoknoamaaGreat
theorem fnKeeps_holds:Rows.FnKeepsSaid:=fnKeeps.over
#print axioms fnKeeps_holds
end Go.Proofs.YtgaeikgoknoamaaGreat
