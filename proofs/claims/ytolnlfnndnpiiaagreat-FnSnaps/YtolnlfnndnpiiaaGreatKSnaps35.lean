/-
  At every byte slice the law FnSnaps returns true: what is written to a snapshot turns no other one. No condition.
-/
import Derived.Test.YtolnlfnndnpiiaaGreatKSnaps32
import Derived.Test.YtolnlfnndnpiiaaGreatKSnaps34
import Derived.ProofKit
import Derived.Deep.CutRange
import Derived.OpenShut
import Derived.ShutString
import Derived.ChangeOld
import Derived.Deep.DrawnRows
import Derived.Deep.RegionHeld3
set_option linter.unusedVariables false
set_option maxHeartbeats 12800000
set_option maxRecDepth 100000
namespace Go.Proofs.YtolnlfnndnpiiaaGreat.fnSnaps
open Go.ChangeShapes Go.WideShapes Go.ChangeAt Go.RowKit Go.Maps
attribute [local go_sem ↓] Go.wp_at_zero Go.wp_at_succ
theorem own:ownKnob Tryz.prog.godebug=none:=by kernel_rfl
theorem ztm:laidOutB Tryz.prog=true:=by kernel_rfl
theorem zfk (a:Option Addr) (cap:Nat) (n:Nat) (w:World) (h:n≤1048576) :
  Calls Tryz.prog 5 #[.slice a n cap] w fun e w'=>e=.returned (.bool false)∧w'=w:=by
 have hb:¬ (1048576:Int)<(n:Int):=by omega
 go_enter Tryz.func5,Tryz.ntmps5;go_wp2
 go_ret
 exact ⟨bQ (by simp <;> omega),rfl⟩
theorem znh (a:Option Addr) (cap:Nat) (n:Nat) (w:World) (h:1048576<n) (h2:n≤maxLen) :
  Calls Tryz.prog 5 #[.slice a n cap] w fun e w'=>e=.returned (.bool true)∧w'=w:=by
 have hb:(1048576:Int)<(n:Int):=by omega
 unfold maxLen at h2;go_enter Tryz.func5,Tryz.ntmps5;go_wp2
 go_ret
 exact ⟨bQ (by simp <;> omega),rfl⟩
theorem tk {P:Program} {ops:Array Oper} {Q:Exit→Act→World→Prop} {md:Region.Mode} {S:World→Prop} (i d:Nat) (v:Value) {op:Op} {ty:TypeId} {pos:String} {af:Array Edge} {gd:Option (Nat × Bool)} {fuel:Nat} {listed:Array Bool} {a:Act} {w:World} (hS:S w) (hi:ops[i]?=some { dst:=some d,op:=op,type:=ty,pos:=pos,after:=af,guard:=gd })
  (hs:Region.noSelect ops=true) (hf:Region.free md ops listed i=true) (hr:(Region.ready md ops listed).contains i=true) (hQ:∀ c a w,Q (.panic c) (a.put (some d) v) w→Q (.panic c) a w) (hy:YieldsIf P ops S { dst:=some d,op:=op,type:=ty,pos:=pos,after:=af,guard:=gd } v a)
  (h:wpAnyH P md ops Q S fuel (listed.setIfInBounds i true) (a.put (some d) v) w):wpAnyH P md ops Q S (fuel+1) listed a w:=wpAnyH_take hi hs hf hr hQ hy hS h
theorem walk (a0:Option Addr) (cap0:Nat) (zs:List Int) (w:World) (h:aP .u8 w a0 zs) (hu:U8 zs) (hmax:zs.length≤maxLen) :
  Calls Tryz.prog 3 #[.slice a0 zs.length cap0] w fun e w'=>e=.returned (.bool true)∧Below w.heap.size w w':=by
 have HR:=aA h;have HU:=aA hu;clear h hu;by_cases hbig:1048576<zs.length
 ·go_enter Tryz.func3,Tryz.ntmps3
  go_wp2_with fail
  refine (znh _ _ _ _ hbig hmax).mono ?_;rintro e w ⟨rfl,rfl⟩;go_wp2_with fail
  go_ret
  exact ⟨rfl,Below.refl _ _⟩
 have hf28:∀ (u:World) (x r:Int) (v:Value),(Instr.field 28 (.agg #[.int .i64 x,.int .i64 r,v]) 1).run Tryz.prog u=.ok (.int .i64 r) u:=fun _ _ _ _=>by kernel_rfl
 have hf40:∀ (u:World) (x r:Int) (v:Value),(Instr.field 40 (.agg #[.int .i64 x,.int .i64 r,v]) 2).run Tryz.prog u=.ok v u:=fun _ _ _ _=>by kernel_rfl
 go_enter Tryz.func3,Tryz.ntmps3;go_wp2_with fail
 refine (zfk _ _ _ _ (by omega)).mono ?_
 rintro e w ⟨rfl,rfl⟩;go_wp2_with fail
 refine (zo1 a0 cap0 zs _ HR.out HU.out (by omega)).mono ?_
 rintro e w1 ⟨l,av,cv,nm,q,da,dc,ds,k,rfl,hgd,hsm,hten,hG,hnl,hql,hrd,hdc,hdu,hdl,hk0,hk4,hb1⟩;have RD:=aA hG.rd;have DD:=aA hrd;have DU:=aA hdu;have SM:=aA hsm;have GD:=aA hgd;have B1:=aA hb1;have HDC:=aA hdc;clear hgd hsm hG hb1 HR HU hbig hmax hrd hdu hdc;by_cases hz:snF l=0
 ·have hR:=kH.1 hz
  have HRi:=aA hR;clear hz;by_cases hkk:k<1∨3<k
  ·have HP:=aA (wT av cv l.length l nm q da ds.length dc ds k w1 RD.out rfl hR SM.out hkk)
   have HQ:=aA (fun u (hu:Below w1.heap.size w1 u)=>xX av cv l.length l nm q da ds.length dc k u (RD.out.below hu) rfl hR SM.out hkk)
   clear hR hkk;go_wp2_with fail
   refine HP.out.mono ?_;rintro e w2 ⟨a2,c2,rfl,-,hb2⟩;have X2:=aA (cC.new w2 (.int .i64 1) (.int .i64 0) (.slice a2 0 c2) 28);have A2:=aA (aB hb2 (aC w2 (.cells #[.int .i64 1,.int .i64 0,.slice a2 0 c2] 28)));have BB:=aA (aB B1.out A2.out);obtain ⟨⟨t0,t1,t2⟩,t3,t4,t5⟩:=X2.out;clear hb2;go_wp2_with fail
   refine (HQ.out _ A2.out).mono ?_;rintro e w3 ⟨rfl,hb3⟩;have BB3:=aA (aB BB.out (aB hb3 (aC w3 (.cells #[.int .i64 1,.int .i64 0,.slice none 0 0] 28))));obtain ⟨⟨s0,s1,s2⟩,s3,s4,s5⟩:=X2.out.below (aB hb3 (aC w3 (.cells #[.int .i64 1,.int .i64 0,.slice none 0 0] 28)));obtain ⟨⟨v0,v1,v2⟩,v3,v4,v5⟩:=cC.new w3 (.int .i64 1) (.int .i64 0) (.slice none 0 0) 28;clear hb3 t0 t1 t2 t3 t4 t5;go_wp2_with fail
   go_ret
   exact ⟨bQ (by simp),BB3.out⟩
  ·have hk3:k=1∨k=2∨k=3:=by omega
   clear hkk hk0 hk4;have HK:=aA hk3;cases ht:atS l nm with
   | none =>
    have HP:=aA (wU av cv l.length l nm q da ds.length dc ds k w1 RD.out rfl hR SM.out hk3 ht);have HQ:=aA (fun u (hu:Below w1.heap.size w1 u)=>xY av cv l.length l nm q ds da ds.length dc k u (RD.out.below hu) rfl hR SM.out hk3 hql (DD.out.below hu) rfl DU.out HDC.out (by omega) ht)
    clear hR hk3 ht;go_wp2_with fail
    refine HP.out.mono ?_;rintro e w2 ⟨a2,c2,rfl,-,hb2⟩;have X2:=aA (cC.new w2 (.int .i64 0) (.int .i64 4) (.slice a2 l.length c2) 28);have A2:=aA (aB hb2 (aC w2 (.cells #[.int .i64 0,.int .i64 4,.slice a2 l.length c2] 28)));have BB:=aA (aB B1.out A2.out);obtain ⟨⟨t0,t1,t2⟩,t3,t4,t5⟩:=X2.out;clear hb2;go_wp2_with fail
    refine (HQ.out _ A2.out).mono ?_;rintro e w3 ⟨a3,c3,rfl,-,hb3⟩;have BB3:=aA (aB BB.out (aB hb3 (aC w3 (.cells #[.int .i64 0,.int .i64 4,.slice a3 l.length c3] 28))));obtain ⟨⟨s0,s1,s2⟩,s3,s4,s5⟩:=X2.out.below (aB hb3 (aC w3 (.cells #[.int .i64 0,.int .i64 4,.slice a3 l.length c3] 28)));obtain ⟨⟨v0,v1,v2⟩,v3,v4,v5⟩:=cC.new w3 (.int .i64 0) (.int .i64 4) (.slice a3 l.length c3) 28;clear hb3 t0 t1 t2 t3 t4 t5;go_wp2_with fail
    go_ret
    exact ⟨bQ (by simp),BB3.out⟩
   | some t =>
    have HT:=aA ht;have HP:=aA (rL av cv l.length l nm q da ds.length dc ds k t w1 RD.out rfl hR SM.out hk3 ht hql DD.out rfl DU.out HDC.out (by omega))
    clear ht hk3 hR;go_wp2_with fail
    refine HP.out.mono ?_;rintro e w2 ⟨m,rep,hP,a2,c2,rfl,hH2,hb2⟩;by_cases hrep:rep=0
    ·subst hrep
     have SA:=zqb HRi.out HK.out HT.out hP;rw[zj6]at hH2 ⊢;rw[SA.len];have HRT:=aA SA.right;have HLN:=aA SA.len;have HEA:=aA SA.each;have HAT:=aA SA.at_;have HCM:=aA SA.com;have HCR:=aA SA.comRight;have HCA:=aA SA.comAt;have HSF:=aA (kH.2 SA.right);clear SA hP HP HT;generalize bO l m=L at *;have A2:=aA (aB hb2 (aC w2 (.cells #[.int .i64 0,.int .i64 0,.slice a2 l.length c2] 28)));have X2:=aA (cC.new w2 (.int .i64 0) (.int .i64 0) (.slice a2 l.length c2) 28);have R2:=aA (hH2.rd.below (aC w2 (.cells #[.int .i64 0,.int .i64 0,.slice a2 l.length c2] 28)))
     have RDn:=aA (RD.out.below A2.out);have DDn:=aA (DD.out.below A2.out);have B2:=aA (aB B1.out A2.out);clear hH2 hb2 RD DD A2 B1;have RD:=RDn;have DD:=DDn;clear RDn DDn;obtain ⟨⟨t0,t1,t2⟩,t3,t4,t5⟩:=X2.out;go_wp2_with fail
     clear t0 t1 t2 t3 t4 t5;generalize w2.alloc (.cells #[.int .i64 0,.int .i64 0,.slice a2 l.length c2] 28)=W2 at *;generalize w2.heap.size=b2 at *;refine (eA a2 c2 l.length L _ R2.out HLN.out.symm (by have:=HLN.out;omega) HRT.out.tiny).mono ?_
     rintro e w3 ⟨rfl,hb3⟩;rw[HSF.out];have X2n:=aA (X2.out.below hb3);have R2n:=aA (R2.out.below hb3);have RDn:=aA (RD.out.below hb3);have DDn:=aA (DD.out.below hb3);have B3:=aA (aB B2.out hb3);clear hb3 X2 R2 RD DD B2;have X2:=X2n;have R2:=R2n;have RD:=RDn;have DD:=DDn;clear X2n R2n RDn DDn;obtain ⟨⟨t0,t1,t2⟩,t3,t4,t5⟩:=X2.out;go_wp2_with fail
     clear t0 t1 t2 t3 t4 t5;go_loopw [10] (fun i wr=>∃ j:Nat,j≤l.length∧i=.int .i64 j∧Hid (Below w3.heap.size w3 wr)) (fun i _=>l.length - (intOf i).toNat)
     case atStart=>exact ⟨0,Nat.zero_le _,rfl,aA (Below.refl _ _)⟩
     case round =>
      obtain ⟨j,hj,rfl,HB⟩:=hrel;by_cases hlt:j<l.length
      ·have hlt':(j:Int)<(l.length:Int):=by omega
       have hj0:¬ (j:Int)<0:=by omega
       obtain ⟨b,off,s,y,cc,hav,hbl,hs,c0,c1,c2',c3,c4,hr⟩:=(RD.out.below HB.out).at hlt;subst hav;have hsl:=List.mem_of_getElem? hs;have HCC:=aA (tS (some ⟨b,off,none⟩) cv l.length l s.name s wr (RD.out.below HB.out) rfl HRi.out SM.out (kK HRi.out.rise hsl));obtain ⟨bm,e1,e2,e3⟩:=HEA.out s hsl;have HC2:=aA (fun u (hu:Below w3.heap.size w3 u)=>sD a2 c2 l.length L s.name bm u (R2.out.below hu) HLN.out.symm HRT.out HRT.out.tiny e1)
       have HF1:=aA (zn1 HRi.out hsl);have hpos:=zuf l s;clear hs c1 c2' c3 c4 hr e1;generalize cX l s=CH at *;generalize cX L bm=CM at *;have HEQ:=aA e3;have HLL:=aA e2;clear e2 e3;have hp1:¬ (CH.length:Int)=0:=by omega
       have hp2:((CH.length:Int)==0)=false:=by simpa using hp1
       go_wp2_with fail
       refine HCC.out.mono ?_;rintro e w4 ⟨a3,c3,rfl,hr3,hc3,hb4⟩;have A4:=aA (aB hb4 (aC w4 (.cells #[.int .i64 0,.slice a3 CH.length c3] 33)));have X3:=aA (Two.new w4 (.int .i64 0) (.slice a3 CH.length c3) 33);have R3:=aA (hr3.below (aC w4 (.cells #[.int .i64 0,.slice a3 CH.length c3] 33)));have B4:=aA (aB HB.out A4.out);have hcb:=(A4.out.cell (p:=⟨b,off+j * 5,none⟩) hbl).trans c0;have hbl4:b<(w4.alloc (.cells #[.int .i64 0,.slice a3 CH.length c3] 33)).heap.size:=Nat.lt_of_lt_of_le hbl A4.out.size;clear hr3 hb4 A4 c0 HCC hbl;go_upto_region 14 with fail
       generalize w4.alloc (.cells #[.int .i64 0,.slice a3 CH.length c3] 33)=W4 at *;generalize w4.heap.size=b3 at *;have KB:Hid (∀ u:World,Below W4.heap.size W4 u→u.cell? ⟨b2,2,none⟩=some (.slice a2 l.length c2)∧u.cell? ⟨b,off+j * 5,none⟩=some (.string (str s.name))):=aA (fun u hu=>⟨((X2.out.below B4.out).below hu).1.2.2,(hu.cell (p:=⟨b,off+j * 5,none⟩) hbl4).trans hcb⟩)
       have HC3:=aA (fun u (hu:Below W4.heap.size W4 u)=>HC2.out u (aB B4.out hu))
       have X34:=aA X3.out.lt;have h2l:b2<W4.heap.size:=(X2.out.below B4.out).lt;have BD:=aA ((Below.refl W4.heap.size W4).drew);have BA:=aA (aB (aC W4 (.cells #[.int .i64 0,.slice none 0 0] 33)) (Below.refl _ _).drew);have Z4:=aA ((Box.new W4 (.int .i64 0) (.slice none 0 0) 33).below (Below.refl _ _).drew);have hn1:¬ b2=W4.heap.size:=by omega
       have hn2:¬ W4.heap.size=b2:=by omega
       have hn3:¬ b=W4.heap.size:=by omega
       have hn4:¬ W4.heap.size=b:=by omega
       clear hcb HC2;obtain ⟨k0,k1⟩:=KB.out W4 (Below.refl _ _);go_cut [12] from 68 to 130 (fun v12 wc=>∃ (b4:Nat) (a4:Option Addr) (c4:Nat),v12=.pointer (some ⟨b4,0,none⟩)∧Hid (Two wc b4 (.int .i64 0) (.slice a4 CM.length c4))∧Hid (RdL wc a4 CM)∧Hid (Below W4.heap.size W4 wc))
       case first =>
        go_region_held3 (fun u=>u.cell? ⟨b2,2,none⟩=some (.slice a2 l.length c2)∧u.cell? ⟨b,off+j * 5,none⟩=some (.string (str s.name))) (first | exact KB.out _ BN6.out | exact KB.out _ (aB BN6.out (aC _ _)) | exact KB.out _ BS6.out | exact KB.out _ BA.out | exact KB.out _ BD.out | go_keep)
         ((first | (go_at_call 10;refine (HC3.out _ (by first | exact BD.out | exact BA.out)).mono ?_;rintro e w6 ⟨a4,c4,rfl,hr4,hc4,hb6⟩;have BN6:Hid (Below W4.heap.size W4 w6):=aA (by first | exact aB BD.out hb6 | exact aB BA.out hb6);have R6:=aA hr4.rd;(first | (have Z6:Box w6 W4.heap.size (.int .i64 0) (.slice none 0 0):=Z4.out.below hb6;have K6:=aA (aD.two w6 W4.heap.size 0 1 (.int .i64 0) (.slice a4 CM.length c4));have BS6:=aA (BN6.out.trans (K6.out.below (B:=W4.heap.size) BN6.out.size (fun x hx e=>by omega)));have RS6:=aA ((hr4.kept K6.out (fun x hx e=>by simp at hx;omega)).rd);have ZS:=aA (Two.set Z6.1 (.int .i64 0) (.slice a4 CM.length c4));obtain ⟨⟨n0,n1⟩,p0,p1⟩:=Z6) | skip);clear hr4 hc4 hb6)))
        ·go_wp2_with fail
         go_meet
         case rel=>exact ⟨w6.heap.size,a4,c4,rfl,aA (Two.new w6 _ _ _),aA (R6.out.below (aC w6 (.cells #[.int .i64 0,.slice a4 CM.length c4] 33))),aA (aB BN6.out (aC _ _))⟩
        ·go_wp2_with fail
         go_meet
         case rel=>exact ⟨W4.heap.size,a4,c4,rfl,ZS,RS6,BS6⟩
       case rest =>
        obtain ⟨b4,a4,c4,rfl,X4,R4,B5⟩:=hcut;rw[HLL.out]at X4;have X3':=aA (X3.out.below B5.out);have R3':=aA (R3.out.below B5.out);have B6:=aA (aB B4.out B5.out);obtain ⟨m0,m1⟩:=KB.out wc B5.out;have hbW:b<wc.heap.size:=Nat.lt_of_lt_of_le hbl4 B5.out.size;have KS:Hid (∀ u:World,Below wc.heap.size wc u→u.cell? ⟨b3,1,none⟩=some (.slice a3 CH.length c3)∧u.cell? ⟨b4,1,none⟩=some (.slice a4 CH.length c4)∧u.cell? ⟨b,off+j * 5,none⟩=some (.string (str s.name))):=aA (fun u hu=>⟨(X3'.out.below hu).2,(X4.out.below hu).2,(hu.cell (p:=⟨b,off+j * 5,none⟩) hbW).trans m1⟩)
        obtain ⟨x0,x1⟩:=X3'.out;obtain ⟨y0,y1⟩:=X4.out;go_upto_region 17 with fail
        clear x0 x1 y0 y1 k0 k1 m0 m1;have BX:=aA (Below.refl wc.heap.size wc).drew;by_cases hsn:s.name=nm
        ·have hse:=gS hsn
         refine wp_region_held_drew (S:=fun u:World=>u.cell? ⟨b3,1,none⟩=some (.slice a3 CH.length c3)∧u.cell? ⟨b4,1,none⟩=some (.slice a4 CH.length c4)∧u.cell? ⟨b,off+j * 5,none⟩=some (.string (str s.name))) (by kernel_rfl) (KS.out _ BX.out) (fun hHeld=>?_)
         change wpAnyH _ _ _ _ _ _ (Array.replicate _ false) _ _;refine tk 0 112 (.slice (some ⟨b,off,none⟩) l.length cv) hHeld rfl (by kernel_rfl) (by kernel_rfl) (by kernel_rfl) (fun _ _ _ h=>h) (Or.inl ⟨by rfl,?_⟩) ?_
         ·rintro w ⟨q0,q1,q2⟩
          go_simp <;> (first | done | omega | (intro _;omega))
         try simp only[Act.put,zsE]
         refine tk 1 113 (.int .i64 j) hHeld rfl (by kernel_rfl) (by kernel_rfl) (by kernel_rfl) (fun _ _ _ h=>h) (Or.inl ⟨by rfl,?_⟩) ?_
         ·rintro w ⟨q0,q1,q2⟩
          go_simp <;> (first | done | omega | (intro _;omega))
         try simp only[Act.put,zsE]
         refine tk 2 114 (.pointer (some ⟨b,off+j * 5,none⟩)) hHeld rfl (by kernel_rfl) (by kernel_rfl) (by kernel_rfl) (fun _ _ _ h=>h) (Or.inl ⟨by rfl,?_⟩) ?_
         ·rintro w ⟨q0,q1,q2⟩
          go_simp <;> (first | done | omega | (intro _;omega))
         try simp only[Act.put,zsE]
         refine tk 3 115 (.pointer (some ⟨b,off+j * 5,none⟩)) hHeld rfl (by kernel_rfl) (by kernel_rfl) (by kernel_rfl) (fun _ _ _ h=>h) (Or.inl ⟨by rfl,?_⟩) ?_
         ·rintro w ⟨q0,q1,q2⟩
          go_simp <;> (first | done | omega | (intro _;omega))
         try simp only[Act.put,zsE]
         refine tk 4 116 (.string (str s.name)) hHeld rfl (by kernel_rfl) (by kernel_rfl) (by kernel_rfl) (fun _ _ _ h=>h) (Or.inl ⟨by rfl,?_⟩) ?_
         ·rintro w ⟨q0,q1,q2⟩
          go_simp <;> (first | done | omega | (intro _;omega))
         try simp only[Act.put,zsE]
         refine tk 5 117 (.string (str nm)) hHeld rfl (by kernel_rfl) (by kernel_rfl) (by kernel_rfl) (fun _ _ _ h=>h) (Or.inl ⟨by rfl,?_⟩) ?_
         ·rintro w ⟨q0,q1,q2⟩
          go_simp <;> (first | done | omega | (intro _;omega))
         try simp only[Act.put,zsE]
         refine tk 6 118 (.bool false) hHeld rfl (by kernel_rfl) (by kernel_rfl) (by kernel_rfl) (fun _ _ _ h=>h) (Or.inl ⟨by rfl,?_⟩) ?_
         ·rintro w ⟨q0,q1,q2⟩
          go_simp <;> (first | done | omega | (intro _;omega))
         try simp only[Act.put,zsE]
         refine tk 7 119 (.bool false) hHeld rfl (by kernel_rfl) (by kernel_rfl) (by kernel_rfl) (fun _ _ _ h=>h) (Or.inl ⟨by rfl,?_⟩) ?_
         ·rintro w ⟨q0,q1,q2⟩
          go_simp <;> (first | done | omega | (intro _;omega))
         try simp only[Act.put,zsE]
         refine tk 8 120 undef hHeld rfl (by kernel_rfl) (by kernel_rfl) (by kernel_rfl) (fun _ _ _ h=>h) (Or.inr ⟨by rfl,rfl⟩) ?_
         try simp only[Act.put,zsE]
         refine tk 9 121 undef hHeld rfl (by kernel_rfl) (by kernel_rfl) (by kernel_rfl) (fun _ _ _ h=>h) (Or.inr ⟨by rfl,rfl⟩) ?_
         try simp only[Act.put,zsE]
         refine tk 10 122 undef hHeld rfl (by kernel_rfl) (by kernel_rfl) (by kernel_rfl) (fun _ _ _ h=>h) (Or.inr ⟨by rfl,rfl⟩) ?_
         try simp only[Act.put,zsE]
         refine tk 11 123 undef hHeld rfl (by kernel_rfl) (by kernel_rfl) (by kernel_rfl) (fun _ _ _ h=>h) (Or.inr ⟨by rfl,rfl⟩) ?_
         try simp only[Act.put,zsE]
         refine tk 12 124 undef hHeld rfl (by kernel_rfl) (by kernel_rfl) (by kernel_rfl) (fun _ _ _ h=>h) (Or.inr ⟨by rfl,rfl⟩) ?_
         try simp only[Act.put,zsE]
         refine tk 13 125 undef hHeld rfl (by kernel_rfl) (by kernel_rfl) (by kernel_rfl) (fun _ _ _ h=>h) (Or.inr ⟨by rfl,rfl⟩) ?_
         try simp only[Act.put,zsE]
         refine tk 14 126 undef hHeld rfl (by kernel_rfl) (by kernel_rfl) (by kernel_rfl) (fun _ _ _ h=>h) (Or.inr ⟨by rfl,rfl⟩) ?_
         try simp only[Act.put,zsE]
         refine tk 15 127 undef hHeld rfl (by kernel_rfl) (by kernel_rfl) (by kernel_rfl) (fun _ _ _ h=>h) (Or.inr ⟨by rfl,rfl⟩) ?_
         try simp only[Act.put,zsE]
         refine tk 16 128 undef hHeld rfl (by kernel_rfl) (by kernel_rfl) (by kernel_rfl) (fun _ _ _ h=>h) (Or.inr ⟨by rfl,rfl⟩) ?_
         try simp only[Act.put,zsE]
         refine tk 17 129 undef hHeld rfl (by kernel_rfl) (by kernel_rfl) (by kernel_rfl) (fun _ _ _ h=>h) (Or.inr ⟨by rfl,rfl⟩) ?_
         try simp only[Act.put,zsE]
         refine tk 18 130 (.bool false) hHeld rfl (by kernel_rfl) (by kernel_rfl) (by kernel_rfl) (fun _ _ _ h=>h) (Or.inl ⟨by rfl,?_⟩) ?_
         ·rintro w ⟨q0,q1,q2⟩
          go_simp <;> (first | done | omega | (intro _;omega))
         try simp only[Act.put,zsE]
         refine wpAnyH_done (by kernel_rfl) ?_ _
         go_wp2_with fail
         go_roundw
         case rel=>exact ⟨j+1,by omega,by go_num,aA (aB B6.out BX.out)⟩
         case measure=>simp[intOf];omega
        ·have hse:=jA hsn
         have hce:=HEQ.out hsn;subst hce;have hch4:CM.length≤4:=(dR.1 HF1.out).1;obtain ⟨M,hM⟩:∃ M,M=oG CM:=⟨_,rfl⟩;obtain ⟨hMl,hMs⟩:=zph HF1.out;rw[←hM]at hMl hMs;have HM:=aA (fun u x y (hu:RdL u x CM)=>zp0 x y CM.length CM u hu rfl (by omega) (za9 HF1.out))
         rw[←hM]at HM;generalize mL CM=q1 at *;have HMs:=aA hMs;clear hM hMs;refine wp_region_held_drew (S:=fun u:World=>u.cell? ⟨b3,1,none⟩=some (.slice a3 CM.length c3)∧u.cell? ⟨b4,1,none⟩=some (.slice a4 CM.length c4)∧u.cell? ⟨b,off+j * 5,none⟩=some (.string (str s.name))) (by kernel_rfl) (KS.out _ BX.out) (fun hHeld=>?_)
         change wpAnyH _ _ _ _ _ _ (Array.replicate _ false) _ _;refine tk 0 112 (.slice (some ⟨b,off,none⟩) l.length cv) hHeld rfl (by kernel_rfl) (by kernel_rfl) (by kernel_rfl) (fun _ _ _ h=>h) (Or.inl ⟨by rfl,?_⟩) ?_
         ·rintro w ⟨q0,q1,q2⟩
          go_simp <;> (first | done | omega | (intro _;omega))
         try simp only[Act.put,zsE]
         refine tk 1 113 (.int .i64 j) hHeld rfl (by kernel_rfl) (by kernel_rfl) (by kernel_rfl) (fun _ _ _ h=>h) (Or.inl ⟨by rfl,?_⟩) ?_
         ·rintro w ⟨q0,q1,q2⟩
          go_simp <;> (first | done | omega | (intro _;omega))
         try simp only[Act.put,zsE]
         refine tk 2 114 (.pointer (some ⟨b,off+j * 5,none⟩)) hHeld rfl (by kernel_rfl) (by kernel_rfl) (by kernel_rfl) (fun _ _ _ h=>h) (Or.inl ⟨by rfl,?_⟩) ?_
         ·rintro w ⟨q0,q1,q2⟩
          go_simp <;> (first | done | omega | (intro _;omega))
         try simp only[Act.put,zsE]
         refine tk 3 115 (.pointer (some ⟨b,off+j * 5,none⟩)) hHeld rfl (by kernel_rfl) (by kernel_rfl) (by kernel_rfl) (fun _ _ _ h=>h) (Or.inl ⟨by rfl,?_⟩) ?_
         ·rintro w ⟨q0,q1,q2⟩
          go_simp <;> (first | done | omega | (intro _;omega))
         try simp only[Act.put,zsE]
         refine tk 4 116 (.string (str s.name)) hHeld rfl (by kernel_rfl) (by kernel_rfl) (by kernel_rfl) (fun _ _ _ h=>h) (Or.inl ⟨by rfl,?_⟩) ?_
         ·rintro w ⟨q0,q1,q2⟩
          go_simp <;> (first | done | omega | (intro _;omega))
         try simp only[Act.put,zsE]
         refine tk 5 117 (.string (str nm)) hHeld rfl (by kernel_rfl) (by kernel_rfl) (by kernel_rfl) (fun _ _ _ h=>h) (Or.inl ⟨by rfl,?_⟩) ?_
         ·rintro w ⟨q0,q1,q2⟩
          go_simp <;> (first | done | omega | (intro _;omega))
         try simp only[Act.put,zsE]
         refine tk 6 118 (.bool true) hHeld rfl (by kernel_rfl) (by kernel_rfl) (by kernel_rfl) (fun _ _ _ h=>h) (Or.inl ⟨by rfl,?_⟩) ?_
         ·rintro w ⟨q0,q1,q2⟩
          go_simp <;> (first | done | omega | (intro _;omega))
         try simp only[Act.put,zsE]
         refine tk 7 119 (.bool true) hHeld rfl (by kernel_rfl) (by kernel_rfl) (by kernel_rfl) (fun _ _ _ h=>h) (Or.inl ⟨by rfl,?_⟩) ?_
         ·rintro w ⟨q0,q1,q2⟩
          go_simp <;> (first | done | omega | (intro _;omega))
         try simp only[Act.put,zsE]
         refine tk 8 120 (.pointer (some ⟨b3,1,none⟩)) hHeld rfl (by kernel_rfl) (by kernel_rfl) (by kernel_rfl) (fun _ _ _ h=>h) (Or.inl ⟨by rfl,?_⟩) ?_
         ·rintro w ⟨q0,q1,q2⟩
          go_simp <;> (first | done | omega | (intro _;omega))
         try simp only[Act.put,zsE]
         refine tk 9 121 (.slice a3 CM.length c3) hHeld rfl (by kernel_rfl) (by kernel_rfl) (by kernel_rfl) (fun _ _ _ h=>h) (Or.inl ⟨by rfl,?_⟩) ?_
         ·rintro w ⟨q0,q1,q2⟩
          go_simp <;> (first | done | omega | (intro _;omega))
         try simp only[Act.put,zsE]
         refine tk 12 124 (.pointer (some ⟨b4,1,none⟩)) hHeld rfl (by kernel_rfl) (by kernel_rfl) (by kernel_rfl) (fun _ _ _ h=>h) (Or.inl ⟨by rfl,?_⟩) ?_
         ·rintro w ⟨q0,q1,q2⟩
          go_simp <;> (first | done | omega | (intro _;omega))
         try simp only[Act.put,zsE]
         refine tk 13 125 (.slice a4 CM.length c4) hHeld rfl (by kernel_rfl) (by kernel_rfl) (by kernel_rfl) (fun _ _ _ h=>h) (Or.inl ⟨by rfl,?_⟩) ?_
         ·rintro w ⟨q0,q1,q2⟩
          go_simp <;> (first | done | omega | (intro _;omega))
         try simp only[Act.put,zsE]
         refine wpAnyH_ready (rs:=[10]) (by kernel_rfl) (by simp) ?_
         refine AllReadyH.cons rfl (fun K hK=>?_) AllReadyH.nil
         go_simp
         refine (HM.out _ _ _ (R3'.out.below BX.out)).mono ?_;rintro e x1 ⟨ta,tc,rfl,hG1,hxx1⟩;have BXn:=aA (aB BX.out hxx1);have T1:=aA hG1.rd;clear hG1;clear hxx1 BX;have BX:=BXn;clear BXn;go_wp2_with fail
         refine hK.out _ _ (KS.out _ BX.out) (fun hHeld=>?_)
         clear hK K;try simp only[Act.put,zsE]
         refine tk 11 123 (.slice ta M.length tc) hHeld rfl (by kernel_rfl) (by kernel_rfl) (by kernel_rfl) (fun _ _ _ h=>h) (Or.inl ⟨by rfl,?_⟩) ?_
         ·rintro w ⟨q0,q1,q2⟩
          go_simp <;> (first | done | omega | (intro _;omega))
         try simp only[Act.put,zsE]
         refine wpAnyH_ready (rs:=[14]) (by kernel_rfl) (by simp) ?_
         refine AllReadyH.cons rfl (fun K hK=>?_) AllReadyH.nil
         go_simp
         refine (HM.out _ _ _ (R4.out.below BX.out)).mono ?_;rintro e x2 ⟨tb,td,rfl,hG2,hxx2⟩;have BXn:=aA (aB BX.out hxx2);have T2:=aA hG2.rd;have T1n:=aA (T1.out.below hxx2);clear hG2 T1;have T1:=T1n;clear T1n;clear hxx2 BX;have BX:=BXn;clear BXn;go_wp2_with fail
         refine hK.out _ _ (KS.out _ BX.out) (fun hHeld=>?_)
         clear hK K;try simp only[Act.put,zsE]
         refine tk 15 127 (.slice tb M.length td) hHeld rfl (by kernel_rfl) (by kernel_rfl) (by kernel_rfl) (fun _ _ _ h=>h) (Or.inl ⟨by rfl,?_⟩) ?_
         ·rintro w ⟨q0,q1,q2⟩
          go_simp <;> (first | done | omega | (intro _;omega))
         try simp only[Act.put,zsE]
         refine wpAnyH_ready (rs:=[16]) (by kernel_rfl) (by simp) ?_
         refine AllReadyH.cons rfl (fun K hK=>?_) AllReadyH.nil
         go_simp
         refine (wS ta tb tc td M.length M.length M M _ T1.out T2.out rfl rfl (by omega) (by omega) HMs.out HMs.out).mono ?_
         rintro e x3 ⟨rfl,hxx3⟩;have BXn:=aA (aB BX.out hxx3);rw[decide_eq_true (rfl:M=M)];clear hxx3 BX;have BX:=BXn;clear BXn;go_wp2_with fail
         refine hK.out _ _ (KS.out _ BX.out) (fun hHeld=>?_)
         clear hK K;try simp only[Act.put,zsE]
         refine tk 17 129 (.bool false) hHeld rfl (by kernel_rfl) (by kernel_rfl) (by kernel_rfl) (fun _ _ _ h=>h) (Or.inl ⟨by rfl,?_⟩) ?_
         ·rintro w ⟨q0,q1,q2⟩
          go_simp <;> (first | done | omega | (intro _;omega))
         try simp only[Act.put,zsE]
         refine tk 18 130 (.bool false) hHeld rfl (by kernel_rfl) (by kernel_rfl) (by kernel_rfl) (fun _ _ _ h=>h) (Or.inl ⟨by rfl,?_⟩) ?_
         ·rintro w ⟨q0,q1,q2⟩
          go_simp <;> (first | done | omega | (intro _;omega))
         try simp only[Act.put,zsE]
         refine wpAnyH_done (by kernel_rfl) ?_ _
         go_wp2_with fail
         go_roundw
         case rel=>exact ⟨j+1,by omega,by go_num,aA (aB B6.out BX.out)⟩
         case measure=>simp[intOf];omega
      ·have hlt':¬ (j:Int)<(l.length:Int):=by omega
       have X5:=aA (X2.out.below HB.out);have R5:=aA (R2.out.below HB.out);have D5:=aA (DD.out.below HB.out);have B5:=aA (aB B3.out HB.out);have HCO:=aA (yR a2 c2 l.length L nm m wr R5.out HLN.out.symm HRT.out HRT.out.tiny HAT.out);rw[HCM.out,zj6]at HCO;generalize bO L (rH m)=LC at *;obtain ⟨⟨t0,t1,t2⟩,t3,t4,t5⟩:=X5.out;go_wp2_with fail
       clear t0 t1 t2 t3 t4 t5;refine HCO.out.mono ?_;rintro e w5 ⟨a5,c5,rfl,hH5,hb5⟩;have A5:=aA (aB hb5 (aC w5 (.cells #[.int .i64 0,.int .i64 0,.slice a5 LC.length c5] 28)));have X6:=aA (cC.new w5 (.int .i64 0) (.int .i64 0) (.slice a5 LC.length c5) 28);have R6:=aA (hH5.rd.below (aC w5 (.cells #[.int .i64 0,.int .i64 0,.slice a5 LC.length c5] 28)));have D6:=aA (D5.out.below A5.out);have B6:=aA (aB B5.out A5.out);have HWR:=aA (fun u (hu:RdS u a5 LC) (hd:aP .u8 u da ds)=>rL a5 c5 LC.length LC nm q da ds.length dc ds k (rH m) u hu rfl HCR.out HCR.out.tiny HK.out HCA.out hql hd rfl DU.out HDC.out (by omega))
       clear hH5 hb5 A5 HCO X5 R5 D5 B5;obtain ⟨⟨t0,t1,t2⟩,t3,t4,t5⟩:=X6.out;go_wp2_with fail
       refine (HWR.out _ R6.out D6.out).mono ?_;rintro e w6 ⟨m6,rep6,hP6,a6,c6,rfl,-,hb6⟩;have h10:rep6=10:=by
        rcases hP6 with ⟨-,h⟩ | ⟨h,-⟩
        ·exact h
        ·exact absurd rfl h
       subst h10;have B7:=aA (aB B6.out hb6);clear hP6 hb6;generalize (aft 10 LC (bO LC m6)).length=n6 at *;go_wp2_with fail
       go_ret
       exact ⟨bQ (by simp),B7.out⟩
    ·have HQ:=aA (fun u (hu:Below w1.heap.size w1 u)=>zD av cv l.length l nm q ds da ds.length dc k u (RD.out.below hu) rfl HRi.out SM.out HK.out hql (DD.out.below hu) rfl DU.out HDC.out (by omega) HT.out hP hrep)
     have hgb:(rep==0)=false:=by simpa using hrep
     clear hP hrep hH2 HP HT HRi;generalize (aft rep l (bO l m)).length=n2 at *;have X2:=aA (cC.new w2 (.int .i64 0) (.int .i64 rep) (.slice a2 n2 c2) 28);have A2:=aA (aB hb2 (aC w2 (.cells #[.int .i64 0,.int .i64 rep,.slice a2 n2 c2] 28)));have BB:=aA (aB B1.out A2.out);obtain ⟨⟨t0,t1,t2⟩,t3,t4,t5⟩:=X2.out;clear hb2;go_wp2_with fail
     refine (HQ.out _ A2.out).mono ?_;rintro e w3 ⟨a3,c3,rfl,-,hb3⟩;have BB3:=aA (aB BB.out (aB hb3 (aC w3 (.cells #[.int .i64 0,.int .i64 rep,.slice a3 l.length c3] 28))));obtain ⟨⟨s0,s1,s2⟩,s3,s4,s5⟩:=X2.out.below (aB hb3 (aC w3 (.cells #[.int .i64 0,.int .i64 rep,.slice a3 l.length c3] 28)));obtain ⟨⟨v0,v1,v2⟩,v3,v4,v5⟩:=cC.new w3 (.int .i64 0) (.int .i64 rep) (.slice a3 l.length c3) 28;clear hb3 t0 t1 t2 t3 t4 t5;go_wp2_with fail
     go_ret
     exact ⟨bQ (by simp),BB3.out⟩
 ·have HP:=aA (yX av cv l.length l nm q da ds.length dc ds k w1 RD.out rfl (by omega) SM.out hz)
  have HQ:=aA (fun u (hu:Below w1.heap.size w1 u)=>zC av cv l.length l nm q da ds.length dc k u (RD.out.below hu) rfl (by omega) SM.out (by rw[zc1 GD.out];exact hz))
  rw[zc1 GD.out]at HQ;obtain ⟨g,hge⟩:∃ g,g=snF l:=⟨_,rfl⟩;rw[←hge]at HP HQ hz;have hgb:(g==0)=false:=by simpa using hz
  clear hge;go_wp2_with fail
  refine HP.out.mono ?_;rintro e w2 ⟨a2,c2,rfl,-,hb2⟩;have X2:=aA (cC.new w2 (.int .i64 g) (.int .i64 0) (.slice a2 0 c2) 28);have A2:=aA (aB hb2 (aC w2 (.cells #[.int .i64 g,.int .i64 0,.slice a2 0 c2] 28)));have BB:=aA (aB B1.out A2.out);obtain ⟨⟨t0,t1,t2⟩,t3,t4,t5⟩:=X2.out;clear hb2;go_wp2_with fail
  refine (HQ.out _ A2.out).mono ?_;rintro e w3 ⟨rfl,hb3⟩;have BB3:=aA (aB BB.out (aB hb3 (aC w3 (.cells #[.int .i64 g,.int .i64 0,.slice none 0 0] 28))));obtain ⟨⟨s0,s1,s2⟩,s3,s4,s5⟩:=X2.out.below (aB hb3 (aC w3 (.cells #[.int .i64 g,.int .i64 0,.slice none 0 0] 28)));obtain ⟨⟨v0,v1,v2⟩,v3,v4,v5⟩:=cC.new w3 (.int .i64 g) (.int .i64 0) (.slice none 0 0) 28;clear hb3 t0 t1 t2 t3 t4 t5;go_wp2_with fail
  go_ret
  exact ⟨bQ (by simp),BB3.out⟩
theorem lifted (os:Os) (started:os.Started) (H:Type) (enc:TypeId × Value→H) :
  ReturnsInHanded {} Tryz.checked os 3 .any (Rows.fnSnapsSpec.pre6 enc Tryz.prog Tryz.f3 Rows.fnSnapsRow.domain false) (Rows.fnSnapsSpec.post enc Tryz.prog Tryz.f3 false true false false):=by
 refine returnsInHanded_of_change (C:=Tryz.checked) own started (by kernel_rfl) Tryz.func3
  (ChangeSpec.witness6 (enc:=enc) (C:=Tryz.checked) false ⟨#[],#[.slice none 0 0],[]⟩ 8 (by kernel_rfl) (by kernel_rfl) (by kernel_rfl) (by kernel_rfl)) ?_
 intro W base args ds gs before hval0 hW hcnd _;have hval:∀ (j:Nat) t v,Tryz.f3.params[j]?=some t→args[j]?=some v→Value.okWide Tryz.prog W .any base t v:=hval0;have hW':=hW;obtain ⟨p,q,hA0,hV,rfl,hfz,hnd⟩:=hW;have hA:DataW.TrodAll enc Tryz.prog W 0 (fun _=>true) true Tryz.f3.params.toList args.toList ds p:=hA0
 rw[Tryz.params3]at hA hval;obtain ⟨v0,vs0,d0,ds0,p0,q0,hargs,rfl,rfl,h0,r0⟩:=trodAll_cons hA;obtain ⟨rfl,rfl,rfl⟩:=trodAll_nil r0;obtain rfl:args=#[v0]:=by cases args;simp_all
 obtain ⟨rfl,rfl⟩:=trodVars_none hV;obtain ⟨a0,len0,cap0,rfl⟩:=okWide_slice Tryz.underlying22 (hval 0 22 v0 rfl rfl);have k0:=h0;have lt0:∀ x∈p0,x.block<W.heap.size:=by obtain ⟨m,hm⟩:=k0;exact DataW.trod_lt m _ _ _ hm
 obtain ⟨zs,hlen,hread,hu,hmax⟩:∃ zs:List Int,zs.length=len0∧aP .u8 W a0 zs∧U8 zs∧zs.length≤maxLen:=by
  obtain ⟨fuel,hf⟩:=h0;rcases open_ints Tryz.underlying22 Tryz.underlying5 (by kernel_rfl) hf with ⟨hcs,_⟩ | ⟨x,l,c,zs,hcs,_,hl,hm,hz,_,hcell,hwz⟩
  ·simp[Value.cells]at hcs
   obtain ⟨rfl,rfl,rfl⟩:=hcs;exact ⟨[],rfl,fun h=>absurd rfl h,fun z hz=>by simp at hz,Nat.zero_le _⟩
  ·simp[Value.cells]at hcs
   obtain ⟨rfl,rfl,rfl⟩:=hcs;exact zx8 (by simpa using hz) hl hm hcell hwz
 subst hlen;clear hA0 hval0;refine (walk a0 cap0 zs W hread hu hmax).mono fun e W' ⟨he,bel⟩=>?_
 subst he;exact ⟨_,rfl,_,_,_,[],_,[],hW',trodAll_mk1 (shut_bool Tryz.underlying4 _),(trodAll_cons_mk (Below.trod ztm (by kernel_rfl) (of_decide_eq_true (by kernel_rfl)) k0 bel lt0) trodAll_mk0),rfl,bel.frame _,fun h=>by cases h⟩
theorem over:Rows.fnSnapsRow.holds Tryz.pinned (OpenSpec.ofChange Rows.fnSnapsSpec) :=
 OpenClaim.holds_of_wide 3 Tryz.f3 rfl rfl rfl rfl rfl rfl rfl ⟨rfl,rfl,rfl,rfl,rfl⟩ rfl rfl rfl rfl rfl (by kernel_rfl) Tryz.func3 (by kernel_rfl)
  (of_decide_eq_true (by kernel_rfl)) (by unfold Func.isWrapper;first | (rw[if_pos (by decide +kernel)];kernel_rfl) | (rw[if_neg (by decide +kernel)];exact ⟨rfl,rfl⟩))
  (fun os started H enc _=>lifted os started H enc)
end Go.Proofs.YtolnlfnndnpiiaaGreat.fnSnaps
namespace Go.Proofs.YtolnlfnndnpiiaaGreat
theorem fnSnaps_holds:Rows.FnSnapsSaid:=fnSnaps.over
#print axioms fnSnaps_holds
end Go.Proofs.YtolnlfnndnpiiaaGreat
