/-
  Texts put together: SnqR SnqS.
-/
import Derived.Test.YtgaeikgoknoamaaGreatKCollec24
import Derived.Test.YtgaeikgoknoamaaGreatKCollec9
import Derived.Deep.RegionHeld3
import Derived.Test.YtgaeikgoknoamaaGreatKCollec11
set_option linter.unusedVariables false
set_option maxHeartbeats 12800000
set_option maxRecDepth 100000
namespace Go.Proofs.YtgaeikgoknoamaaGreat
open Go.RowKit Go.Maps
attribute [local go_sem ↓] Go.wp_at_zero Go.wp_at_succ
theorem tks {P:Program} {ops:Array Oper} {Q:Exit→Act→World→Prop} {md:Region.Mode} {S:World→Prop} (i d:Nat) (v:Value) {op:Op} {ty:TypeId} {pos:String} {af:Array Edge} {gd:Option (Nat × Bool)} {fuel:Nat} {listed:Array Bool} {a:Act} {w:World} (hS:S w) (hi:ops[i]?=some { dst:=some d,op:=op,type:=ty,pos:=pos,after:=af,guard:=gd })
  (hs:Region.noSelect ops=true) (hf:Region.free md ops listed i=true) (hr:(Region.ready md ops listed).contains i=true) (hQ:∀ c a w,Q (.panic c) (a.put (some d) v) w→Q (.panic c) a w) (hy:YieldsIf P ops S { dst:=some d,op:=op,type:=ty,pos:=pos,after:=af,guard:=gd } v a)
  (h:wpAnyH P md ops Q S fuel (listed.setIfInBounds i true) (a.put (some d) v) w):wpAnyH P md ops Q S (fuel+1) listed a w:=wpAnyH_take hi hs hf hr hQ hy hS h
theorem zfi (a b c:Value) (u:World):Sem.run Tryz.prog (Instr.field 29 (.agg #[a,b,c]) 2) u=.ok c u:=by kernel_rfl
structure gO (p:Nat) (zs:List Int) (T:Int) (w:World) (l:List Sn) (av:Option Addr) (cv:Nat) (u:World):Prop where
 right:aP l
 own:GS w.heap.size u (.slice av l.length cv) l
 src:dH u p zs T
 kept:aE (fun b=>b=p) w u
structure AtN (p:Nat) (zs:List Int) (T:Int) (w:World) (l:List Sn) (av:Option Addr) (cv rb:Nat) (u:World):Prop where
 head:gO p zs T w l av cv u
 box:dE u rb (.int .i64 0) (.int .i64 0) (.slice none 0 0)
 size:w.heap.size≤rb
 old:p<w.heap.size
theorem gO.keep {p:Nat} {zs:List Int} {T T':Int} {w:World} {l:List Sn} {av:Option Addr} {cv:Nat} {u u':World} (h:gO p zs T w l av cv u) (hp:p<w.heap.size) (hk:aE (fun b=>b=p) u u') (hs:dH u' p zs T'):gO p zs T' w l av cv u' :=
 ⟨h.right,h.own.kept hk (fun b h1 e=>by omega),hs,h.kept.trans hk⟩
theorem gO.below {p:Nat} {zs:List Int} {T:Int} {w:World} {l:List Sn} {av:Option Addr} {cv:Nat} {u u':World} (h:gO p zs T w l av cv u) (hb:Below u.heap.size u u'):gO p zs T w l av cv u' :=
 ⟨h.right,h.own.below hb,h.src.below hb,h.kept.trans (aE.of_below hb)⟩
theorem AtN.keep {p:Nat} {zs:List Int} {T T':Int} {w:World} {l:List Sn} {av:Option Addr} {cv rb:Nat} {u u':World} (h:AtN p zs T w l av cv rb u) (hk:aE (fun b=>b=p) u u') (hs:dH u' p zs T'):AtN p zs T' w l av cv rb u':=by
 have h1:=h.size;have h2:=h.old;exact ⟨h.head.keep h2 hk hs,h.box.kept hk (by omega),h1,h2⟩
theorem AtN.below {p:Nat} {zs:List Int} {T:Int} {w:World} {l:List Sn} {av:Option Addr} {cv rb:Nat} {u u':World} (h:AtN p zs T w l av cv rb u) (hb:Below u.heap.size u u'):AtN p zs T w l av cv rb u' :=
 ⟨h.head.below hb,h.box.below hb,h.size,h.old⟩
theorem gO.make {p:Nat} {zs:List Int} {T:Int} {w:World} {l:List Sn} {av:Option Addr} {cv:Nat} {u:World} (h:gO p zs T w l av cv u) (hp:p<w.heap.size):AtN p zs T w l av cv u.heap.size (u.alloc (.cells #[.int .i64 0,.int .i64 0,.slice none 0 0] 29)) :=
 ⟨h.below (aC u _),dE.new u _ _ _ _,h.kept.size,hp⟩
theorem AtN.turn {p:Nat} {zs:List Int} {T T':Int} {w:World} {l:List Sn} {av:Option Addr} {cv rb:Nat} {u:World} {l2:List Sn} {av2:Option Addr} {cv2:Nat} {w9:World} {rep:Int} (h:AtN p zs T w l av cv rb u) (hR:aP l2) (hG:GS u.heap.size w9 (.slice av2 l2.length cv2) l2) (hb:Below u.heap.size u w9) (hT:T≤T') :
  gO p zs T' w l2 av2 cv2 (((w9.setCell ⟨rb,0,none⟩ (.int .i64 0)).setCell ⟨rb,1,none⟩ (.int .i64 rep)).setCell ⟨rb,2,none⟩ (.slice av2 l2.length cv2)):=by
 have hk:=aE.three' w9 rb (.int .i64 0) (.int .i64 rep) (.slice av2 l2.length cv2);have h1:=h.size;have h2:=h.old;have h3:=h.box.lt;have h4:=h.head.kept.size;exact ⟨hR,(hG.kept hk (fun b hb e=>by omega)).mono h4,((h.head.src.below hb).kept hk (fun b hb e=>by omega)).mono hT,(h.head.kept.trans (aE.of_below hb)).trans_own hk (fun b hb e=>by omega)⟩
theorem zca (p:Nat) (zs:List Int) (T:Int) (n0:Nat) (w:World) (h:dH w p zs T) (hu:U8 zs) (hn0:n0≤15) (hT:T≤100000) (hl:zs.length≤2097152) :
  Calls Tryz.prog 96 #[.pointer (some ⟨p,0,none⟩),.int .i64 n0] w fun r w'=>∃ (l:List Sn) (av:Option Addr) (cv:Nat),r=.returned (.slice av l.length cv)∧gO p zs (T+20000) w l av cv w':=by
 have hp:=h.lt;have HS:=aA h;have HU:=aA hu;clear h hu;go_enter Tryz.func96,Tryz.ntmps96;go_wp2_with fail
 refine (kV p zs T w HS.out HU.out (by omega) hl).mono ?_
 rintro r w1 ⟨es,lv,lc,rfl,hR1,hG1,s1,k1⟩;have S1:=aA s1;have K1:=aA k1;have RE:=aA hG1.rd;have RI:=aA hR1;have hs1:=k1.size;clear hR1 hG1 s1 k1 HS;go_wp2_with fail
 refine (tN none 0 0 [] [97] [] lv lc es.length es rfl w1 (RdS.nil _ _) (.inl ⟨rfl,rfl,rfl⟩) rfl zwa (by simp) (by simp) RE.out RI.out).mono ?_
 rintro r w2 ⟨rep,l0,⟨a0,c0,rfl,hG2,hb2⟩,hR2⟩;have H2:Hid (gO p zs (T+1000) w l0 a0 c0 w2):=aA ⟨hR2,hG2.mono hs1,S1.out.below hb2,K1.out.trans (aE.of_below hb2)⟩;clear hG2 hb2 hR2 S1 K1 RE RI hs1;have HF:=zfi (.int .i64 0) (.int .i64 rep) (.slice a0 l0.length c0);go_wp2_with fail
 clear HF;go_loopw [1,5] (fun k v wr=>∃ (m:Nat) (l:List Sn) (av:Option Addr) (cv:Nat),k=.int .i64 m∧m≤15∧v=.slice av l.length cv∧Hid (gO p zs (T+1000+1010 * (15 - (m:Int))) w l av cv wr)) (fun k _ _=>(intOf k).toNat)
 case atStart=>exact ⟨n0,l0,a0,c0,rfl,hn0,rfl,aA ⟨H2.out.right,H2.out.own,H2.out.src.mono (by omega),H2.out.kept⟩⟩
 case round =>
  obtain ⟨m,l,av,cv,rfl,hm15,rfl,H⟩:=hrel;clear H2;by_cases hlt:0<m
  ·have hm':(0:Int)<(m:Int):=by omega
   go_wp2_with fail
   refine (ze0 p zs _ wr H.out.src HU.out (by omega) hl).mono ?_
   rintro e w3 ⟨nm,rfl,hnl,s3,k3⟩;have A:=aA ((H.out.keep hp k3 s3).make hp);clear s3 k3 H;go_wp2_with fail
   obtain ⟨rb,hrb⟩:∃ rb,rb=w3.heap.size:=⟨_,rfl⟩;rw[←hrb]at A ⊢;clear hrb;generalize w3.alloc (.cells #[.int .i64 0,.int .i64 0,.slice none 0 0] 29)=W4 at *;refine (eZ p zs _ 9 W4 A.out.head.src HU.out (by omega) (by decide) (by decide) hl).mono ?_
   rintro e w5 ⟨kk,rfl,hk9,s5,k5⟩;have A5:=aA (A.out.keep k5 s5);clear s5 k5 A;have A:=A5;clear A5;have hl10:=A.out.head.right.len;have hv:(kk=0∨kk=1)∨kk=2∨kk=3∨kk=4∨kk=5∨6≤kk:=by omega
   rcases hv with hv | hv | hv | hv | hv | hv
   ·rcases hv with hv | hv
    ·subst hv
     have T0:=aA (iP.new (Q:=fun x=>x.length≤2) (w:=w5) (t:=9) (vs:=[[],[97],[98],[99]]) (by decide))
     have A1:=aA (A.out.below (aC w5 (.cells ([[],[97],[98],[99]].map vS).toArray 9)));have hg1:p<w5.heap.size:=A.out.head.src.lt;clear A;go_wp2_with fail
     refine (eZ p zs _ 4 _ A1.out.head.src HU.out (by omega) (by decide) (by decide) hl).mono ?_
     rintro e w7 ⟨i,rfl,hi4,s7,k7⟩;have T1:=aA (T0.out.kept k7 (by omega))
     have A:=aA (A1.out.keep k7 s7);clear s7 k7 T0 A1;obtain ⟨x,hx,hxl⟩:=T1.out.2 i (by simp;omega)
     have hb:=T1.out.1;have HX:=aA hxl;clear hxl;go_wp2_with fail
     refine (zvg av cv l.length l nm x w7 A.out.head.own.rd A.out.head.own.plc rfl A.out.head.right (by omega) (by have:=HX.out;omega)).mono ?_
     rintro e w9 ⟨rep,l2,⟨av2,cv2,rfl,hG9,hb9⟩,hR9⟩;have H9:=aA (A.out.turn (T':=T+1000+1010 * (15 - ((m - 1:Nat):Int))) (rep:=rep) hR9 hG9 hb9 (by omega))
     obtain ⟨⟨t0,t1,t2⟩,t3,t4,t5⟩:=A.out.box.below hb9;clear hG9 hb9 hR9;go_wp2_with fail
     go_roundw
     case rel=>exact ⟨m - 1,l2,av2,cv2,by go_num,by omega,rfl,aA (by simpa using H9.out)⟩
     case measure=>simp[intOf];omega
    ·subst hv
     have T0:=aA (iP.new (Q:=fun x=>x.length≤2) (w:=w5) (t:=9) (vs:=[[],[97],[98],[99]]) (by decide))
     have A1:=aA (A.out.below (aC w5 (.cells ([[],[97],[98],[99]].map vS).toArray 9)));have hg1:p<w5.heap.size:=A.out.head.src.lt;clear A;go_wp2_with fail
     refine (eZ p zs _ 4 _ A1.out.head.src HU.out (by omega) (by decide) (by decide) hl).mono ?_
     rintro e w7 ⟨i,rfl,hi4,s7,k7⟩;have T1:=aA (T0.out.kept k7 (by omega))
     have A:=aA (A1.out.keep k7 s7);clear s7 k7 T0 A1;obtain ⟨x,hx,hxl⟩:=T1.out.2 i (by simp;omega)
     have hb:=T1.out.1;have HX:=aA hxl;clear hxl;go_wp2_with fail
     refine (zvg av cv l.length l nm x w7 A.out.head.own.rd A.out.head.own.plc rfl A.out.head.right (by omega) (by have:=HX.out;omega)).mono ?_
     rintro e w9 ⟨rep,l2,⟨av2,cv2,rfl,hG9,hb9⟩,hR9⟩;have H9:=aA (A.out.turn (T':=T+1000+1010 * (15 - ((m - 1:Nat):Int))) (rep:=rep) hR9 hG9 hb9 (by omega))
     obtain ⟨⟨t0,t1,t2⟩,t3,t4,t5⟩:=A.out.box.below hb9;clear hG9 hb9 hR9;go_wp2_with fail
     go_roundw
     case rel=>exact ⟨m - 1,l2,av2,cv2,by go_num,by omega,rfl,aA (by simpa using H9.out)⟩
     case measure=>simp[intOf];omega
   ·subst hv
    go_upto_region 12 with fail
    refine wp_region_held_drew (S:=fun _=>True) (by kernel_rfl) trivial (fun hHeld=>?_)
    change wpAnyH _ _ _ _ _ _ (Array.replicate _ false) _ (World.drew _);have Ad:Hid (AtN p zs (T+1000+1010 * (15 - (m:Int))+1+1) w l av cv rb w5.drew):=aA (A.out.below ⟨rfl,rfl,rfl,Nat.le_refl _,fun _ _=>rfl⟩)
    clear A;have A:=Ad;clear Ad;generalize w5.drew=D at *;refine tks 0 46 (.slice av l.length cv) hHeld rfl (by kernel_rfl) (by kernel_rfl) (by kernel_rfl) (fun _ _ _ h=>h) (Or.inl ⟨by rfl,?_⟩) ?_
    ·intro w _
     go_simp
    try simp only[Act.put,zsE]
    refine tks 1 47 (.string (str nm)) hHeld rfl (by kernel_rfl) (by kernel_rfl) (by kernel_rfl) (fun _ _ _ h=>h) (Or.inl ⟨by rfl,?_⟩) ?_
    ·intro w _
     go_simp
    try simp only[Act.put,zsE]
    refine tks 3 49 (.pointer (some ⟨p,0,none⟩)) hHeld rfl (by kernel_rfl) (by kernel_rfl) (by kernel_rfl) (fun _ _ _ h=>h) (Or.inl ⟨by rfl,?_⟩) ?_
    ·intro w _
     go_simp
    try simp only[Act.put,zsE]
    refine tks 7 53 (.pointer (some ⟨p,0,none⟩)) hHeld rfl (by kernel_rfl) (by kernel_rfl) (by kernel_rfl) (fun _ _ _ h=>h) (Or.inl ⟨by rfl,?_⟩) ?_
    ·intro w _
     go_simp
    try simp only[Act.put,zsE]
    refine wpAnyH_ready (rs:=[2,4]) (by kernel_rfl) (by simp) ?_
    refine AllReadyH.cons rfl (fun K hK=>?_) (AllReadyH.cons rfl (fun K hK=>?_) AllReadyH.nil)
    ·have TBn:=aA (iP.new (Q:=fun x=>x.length≤2) (w:=D) (t:=9) (vs:=[[],[97],[97],[98]]) (by decide))
     have An:=aA (A.out.below (aC D (.cells ([[],[97],[97],[98]].map vS).toArray 9)));have hgv1:p<D.heap.size:=A.out.head.src.lt;have hsv1:D.heap.size<(D.alloc (.cells ([[],[97],[97],[98]].map vS).toArray 9)).heap.size:=by simp
     go_simp
     refine hK.out _ _ trivial (fun hHeld=>?_)
     clear hK K A;have A:=An;clear An;have TB:=TBn;clear TBn;try simp only[Act.put,zsE]
     change wpAnyH _ _ _ _ _ _ _ _ (D.alloc (.cells ([[],[97],[97],[98]].map vS).toArray 9));generalize D.alloc (.cells ([[],[97],[97],[98]].map vS).toArray 9)=v1 at *;refine wpAnyH_ready (rs:=[4]) (by kernel_rfl) (by simp) ?_
     refine AllReadyH.cons rfl (fun K hK=>?_) AllReadyH.nil
     go_simp
     refine (eZ p zs _ 4 v1 A.out.head.src HU.out (by omega) (by decide) (by decide) hl).mono ?_
     rintro e v2 ⟨i,rfl,hi4,s7,k7⟩;have An:=aA (A.out.keep k7 s7);have TBn:=aA (TB.out.kept k7 (by omega))
     clear s7 k7;go_wp2_with fail
     refine hK.out _ _ trivial (fun hHeld=>?_)
     clear hK K A TB;have A:=An;clear An;have TB:=TBn;clear TBn;try simp only[Act.put,zsE]
     refine wpAnyH_ready (rs:=[5,8]) (by kernel_rfl) (by simp) ?_
     refine AllReadyH.cons rfl (fun K hK=>?_) (AllReadyH.cons rfl (fun K hK=>?_) AllReadyH.nil)
     ·have hi4':(i:Int)<4:=hi4
      go_simp
      refine hK.out _ _ trivial (fun hHeld=>?_)
      clear hK K;try simp only[Act.put,zsE]
      refine wpAnyH_ready (rs:=[6,8]) (by kernel_rfl) (by simp) ?_
      refine AllReadyH.cons rfl (fun K hK=>?_) (AllReadyH.cons rfl (fun K hK=>?_) AllReadyH.nil)
      ·obtain ⟨x,hx,hxl⟩:=TB.out.2 i (by simp;omega)
       have HX:=aA hxl;clear hxl;go_simp
       refine hK.out _ _ trivial (fun hHeld=>?_)
       clear hK K hx TB;try simp only[Act.put,zsE]
       refine wpAnyH_ready (rs:=[8]) (by kernel_rfl) (by simp) ?_
       refine AllReadyH.cons rfl (fun K hK=>?_) AllReadyH.nil
       go_simp
       refine (kV p zs _ v2 A.out.head.src HU.out (by omega) hl).mono ?_
       rintro e v5 ⟨es,lv,lc,rfl,hR7,hG7,s7,k7⟩;have An:=aA (A.out.keep k7 s7);have RE:=aA hG7.rd;have RI:=aA hR7;clear s7 k7 hG7 hR7;go_wp2_with fail
       refine hK.out _ _ trivial (fun hHeld=>?_)
       clear hK K A;have A:=An;clear An;try simp only[Act.put,zsE]
       refine wpAnyH_ready (rs:=[9]) (by kernel_rfl) (by simp) ?_
       refine AllReadyH.cons rfl (fun K hK=>?_) AllReadyH.nil
       go_simp
       refine (tN av cv l.length l nm x lv lc es.length es rfl v5 A.out.head.own.rd A.out.head.own.plc rfl A.out.head.right (by omega) (by have:=HX.out;omega) RE.out RI.out).mono ?_
       rintro e w9 ⟨rep,l2,⟨av2,cv2,rfl,hG9,hb9⟩,hR9⟩;have H9:=aA (A.out.turn (T':=T+1000+1010 * (15 - ((m - 1:Nat):Int))) (rep:=rep) hR9 hG9 hb9 (by omega))
       have BX:=aA (A.out.box.below hb9);clear hG9 hb9 hR9;go_wp2_with fail
       refine hK.out _ _ trivial (fun hHeld=>?_)
       clear hK K A RE RI;try simp only[Act.put,zsE]
       refine wpAnyH_ready (rs:=[10]) (by kernel_rfl) (by simp) ?_
       refine AllReadyH.cons rfl (fun K hK=>?_) AllReadyH.nil
       obtain ⟨⟨t0,t1,t2⟩,t3,t4,t5⟩:=BX.out;go_simp
       refine hK.out _ _ trivial (fun hHeld=>?_)
       clear hK K;try simp only[Act.put,zsE]
       refine wpAnyH_done (by kernel_rfl) ?_ _
       go_wp2_with fail
       go_roundw
       case rel=>exact ⟨m - 1,l2,av2,cv2,by go_num,by omega,rfl,aA (by simpa using H9.out)⟩
       case measure=>simp[intOf];omega
      ·go_simp
       refine (kV p zs _ v2 A.out.head.src HU.out (by omega) hl).mono ?_
       rintro e v7 ⟨es,lv,lc,rfl,hR7,hG7,s7,k7⟩;have An:=aA (A.out.keep k7 s7);have RE:=aA hG7.rd;have RI:=aA hR7;have TBn:=aA (TB.out.kept k7 (by omega))
       clear s7 k7 hG7 hR7;go_wp2_with fail
       refine hK.out _ _ trivial (fun hHeld=>?_)
       clear hK K A TB;have A:=An;clear An;have TB:=TBn;clear TBn;try simp only[Act.put,zsE]
       refine wpAnyH_ready (rs:=[6]) (by kernel_rfl) (by simp) ?_
       refine AllReadyH.cons rfl (fun K hK=>?_) AllReadyH.nil
       obtain ⟨x,hx,hxl⟩:=TB.out.2 i (by simp;omega)
       have HX:=aA hxl;clear hxl;go_simp
       refine hK.out _ _ trivial (fun hHeld=>?_)
       clear hK K hx TB;try simp only[Act.put,zsE]
       refine wpAnyH_ready (rs:=[9]) (by kernel_rfl) (by simp) ?_
       refine AllReadyH.cons rfl (fun K hK=>?_) AllReadyH.nil
       go_simp
       refine (tN av cv l.length l nm x lv lc es.length es rfl v7 A.out.head.own.rd A.out.head.own.plc rfl A.out.head.right (by omega) (by have:=HX.out;omega) RE.out RI.out).mono ?_
       rintro e w9 ⟨rep,l2,⟨av2,cv2,rfl,hG9,hb9⟩,hR9⟩;have H9:=aA (A.out.turn (T':=T+1000+1010 * (15 - ((m - 1:Nat):Int))) (rep:=rep) hR9 hG9 hb9 (by omega))
       have BX:=aA (A.out.box.below hb9);clear hG9 hb9 hR9;go_wp2_with fail
       refine hK.out _ _ trivial (fun hHeld=>?_)
       clear hK K A RE RI;try simp only[Act.put,zsE]
       refine wpAnyH_ready (rs:=[10]) (by kernel_rfl) (by simp) ?_
       refine AllReadyH.cons rfl (fun K hK=>?_) AllReadyH.nil
       obtain ⟨⟨t0,t1,t2⟩,t3,t4,t5⟩:=BX.out;go_simp
       refine hK.out _ _ trivial (fun hHeld=>?_)
       clear hK K;try simp only[Act.put,zsE]
       refine wpAnyH_done (by kernel_rfl) ?_ _
       go_wp2_with fail
       go_roundw
       case rel=>exact ⟨m - 1,l2,av2,cv2,by go_num,by omega,rfl,aA (by simpa using H9.out)⟩
       case measure=>simp[intOf];omega
     ·go_simp
      refine (kV p zs _ v2 A.out.head.src HU.out (by omega) hl).mono ?_
      rintro e v10 ⟨es,lv,lc,rfl,hR7,hG7,s7,k7⟩;have An:=aA (A.out.keep k7 s7);have RE:=aA hG7.rd;have RI:=aA hR7;have TBn:=aA (TB.out.kept k7 (by omega))
      clear s7 k7 hG7 hR7;go_wp2_with fail
      refine hK.out _ _ trivial (fun hHeld=>?_)
      clear hK K A TB;have A:=An;clear An;have TB:=TBn;clear TBn;try simp only[Act.put,zsE]
      refine wpAnyH_ready (rs:=[5]) (by kernel_rfl) (by simp) ?_
      refine AllReadyH.cons rfl (fun K hK=>?_) AllReadyH.nil
      have hi4':(i:Int)<4:=hi4;go_simp
      refine hK.out _ _ trivial (fun hHeld=>?_)
      clear hK K;try simp only[Act.put,zsE]
      refine wpAnyH_ready (rs:=[6]) (by kernel_rfl) (by simp) ?_
      refine AllReadyH.cons rfl (fun K hK=>?_) AllReadyH.nil
      obtain ⟨x,hx,hxl⟩:=TB.out.2 i (by simp;omega)
      have HX:=aA hxl;clear hxl;go_simp
      refine hK.out _ _ trivial (fun hHeld=>?_)
      clear hK K hx TB;try simp only[Act.put,zsE]
      refine wpAnyH_ready (rs:=[9]) (by kernel_rfl) (by simp) ?_
      refine AllReadyH.cons rfl (fun K hK=>?_) AllReadyH.nil
      go_simp
      refine (tN av cv l.length l nm x lv lc es.length es rfl v10 A.out.head.own.rd A.out.head.own.plc rfl A.out.head.right (by omega) (by have:=HX.out;omega) RE.out RI.out).mono ?_
      rintro e w9 ⟨rep,l2,⟨av2,cv2,rfl,hG9,hb9⟩,hR9⟩;have H9:=aA (A.out.turn (T':=T+1000+1010 * (15 - ((m - 1:Nat):Int))) (rep:=rep) hR9 hG9 hb9 (by omega))
      have BX:=aA (A.out.box.below hb9);clear hG9 hb9 hR9;go_wp2_with fail
      refine hK.out _ _ trivial (fun hHeld=>?_)
      clear hK K A RE RI;try simp only[Act.put,zsE]
      refine wpAnyH_ready (rs:=[10]) (by kernel_rfl) (by simp) ?_
      refine AllReadyH.cons rfl (fun K hK=>?_) AllReadyH.nil
      obtain ⟨⟨t0,t1,t2⟩,t3,t4,t5⟩:=BX.out;go_simp
      refine hK.out _ _ trivial (fun hHeld=>?_)
      clear hK K;try simp only[Act.put,zsE]
      refine wpAnyH_done (by kernel_rfl) ?_ _
      go_wp2_with fail
      go_roundw
      case rel=>exact ⟨m - 1,l2,av2,cv2,by go_num,by omega,rfl,aA (by simpa using H9.out)⟩
      case measure=>simp[intOf];omega
    ·go_simp
     refine (eZ p zs _ 4 D A.out.head.src HU.out (by omega) (by decide) (by decide) hl).mono ?_
     rintro e v14 ⟨i,rfl,hi4,s7,k7⟩;have An:=aA (A.out.keep k7 s7);clear s7 k7;go_wp2_with fail
     refine hK.out _ _ trivial (fun hHeld=>?_)
     clear hK K A;have A:=An;clear An;try simp only[Act.put,zsE]
     refine wpAnyH_ready (rs:=[2,8]) (by kernel_rfl) (by simp) ?_
     refine AllReadyH.cons rfl (fun K hK=>?_) (AllReadyH.cons rfl (fun K hK=>?_) AllReadyH.nil)
     ·have TBn:=aA (iP.new (Q:=fun x=>x.length≤2) (w:=v14) (t:=9) (vs:=[[],[97],[97],[98]]) (by decide))
      have An:=aA (A.out.below (aC v14 (.cells ([[],[97],[97],[98]].map vS).toArray 9)));have hgv15:p<v14.heap.size:=A.out.head.src.lt;have hsv15:v14.heap.size<(v14.alloc (.cells ([[],[97],[97],[98]].map vS).toArray 9)).heap.size:=by simp
      go_simp
      refine hK.out _ _ trivial (fun hHeld=>?_)
      clear hK K A;have A:=An;clear An;have TB:=TBn;clear TBn;try simp only[Act.put,zsE]
      change wpAnyH _ _ _ _ _ _ _ _ (v14.alloc (.cells ([[],[97],[97],[98]].map vS).toArray 9));generalize v14.alloc (.cells ([[],[97],[97],[98]].map vS).toArray 9)=v15 at *;refine wpAnyH_ready (rs:=[5,8]) (by kernel_rfl) (by simp) ?_
      refine AllReadyH.cons rfl (fun K hK=>?_) (AllReadyH.cons rfl (fun K hK=>?_) AllReadyH.nil)
      ·have hi4':(i:Int)<4:=hi4
       go_simp
       refine hK.out _ _ trivial (fun hHeld=>?_)
       clear hK K;try simp only[Act.put,zsE]
       refine wpAnyH_ready (rs:=[6,8]) (by kernel_rfl) (by simp) ?_
       refine AllReadyH.cons rfl (fun K hK=>?_) (AllReadyH.cons rfl (fun K hK=>?_) AllReadyH.nil)
       ·obtain ⟨x,hx,hxl⟩:=TB.out.2 i (by simp;omega)
        have HX:=aA hxl;clear hxl;go_simp
        refine hK.out _ _ trivial (fun hHeld=>?_)
        clear hK K hx TB;try simp only[Act.put,zsE]
        refine wpAnyH_ready (rs:=[8]) (by kernel_rfl) (by simp) ?_
        refine AllReadyH.cons rfl (fun K hK=>?_) AllReadyH.nil
        go_simp
        refine (kV p zs _ v15 A.out.head.src HU.out (by omega) hl).mono ?_
        rintro e v18 ⟨es,lv,lc,rfl,hR7,hG7,s7,k7⟩;have An:=aA (A.out.keep k7 s7);have RE:=aA hG7.rd;have RI:=aA hR7;clear s7 k7 hG7 hR7;go_wp2_with fail
        refine hK.out _ _ trivial (fun hHeld=>?_)
        clear hK K A;have A:=An;clear An;try simp only[Act.put,zsE]
        refine wpAnyH_ready (rs:=[9]) (by kernel_rfl) (by simp) ?_
        refine AllReadyH.cons rfl (fun K hK=>?_) AllReadyH.nil
        go_simp
        refine (tN av cv l.length l nm x lv lc es.length es rfl v18 A.out.head.own.rd A.out.head.own.plc rfl A.out.head.right (by omega) (by have:=HX.out;omega) RE.out RI.out).mono ?_
        rintro e w9 ⟨rep,l2,⟨av2,cv2,rfl,hG9,hb9⟩,hR9⟩;have H9:=aA (A.out.turn (T':=T+1000+1010 * (15 - ((m - 1:Nat):Int))) (rep:=rep) hR9 hG9 hb9 (by omega))
        have BX:=aA (A.out.box.below hb9);clear hG9 hb9 hR9;go_wp2_with fail
        refine hK.out _ _ trivial (fun hHeld=>?_)
        clear hK K A RE RI;try simp only[Act.put,zsE]
        refine wpAnyH_ready (rs:=[10]) (by kernel_rfl) (by simp) ?_
        refine AllReadyH.cons rfl (fun K hK=>?_) AllReadyH.nil
        obtain ⟨⟨t0,t1,t2⟩,t3,t4,t5⟩:=BX.out;go_simp
        refine hK.out _ _ trivial (fun hHeld=>?_)
        clear hK K;try simp only[Act.put,zsE]
        refine wpAnyH_done (by kernel_rfl) ?_ _
        go_wp2_with fail
        go_roundw
        case rel=>exact ⟨m - 1,l2,av2,cv2,by go_num,by omega,rfl,aA (by simpa using H9.out)⟩
        case measure=>simp[intOf];omega
       ·go_simp
        refine (kV p zs _ v15 A.out.head.src HU.out (by omega) hl).mono ?_
        rintro e v20 ⟨es,lv,lc,rfl,hR7,hG7,s7,k7⟩;have An:=aA (A.out.keep k7 s7);have RE:=aA hG7.rd;have RI:=aA hR7;have TBn:=aA (TB.out.kept k7 (by omega))
        clear s7 k7 hG7 hR7;go_wp2_with fail
        refine hK.out _ _ trivial (fun hHeld=>?_)
        clear hK K A TB;have A:=An;clear An;have TB:=TBn;clear TBn;try simp only[Act.put,zsE]
        refine wpAnyH_ready (rs:=[6]) (by kernel_rfl) (by simp) ?_
        refine AllReadyH.cons rfl (fun K hK=>?_) AllReadyH.nil
        obtain ⟨x,hx,hxl⟩:=TB.out.2 i (by simp;omega)
        have HX:=aA hxl;clear hxl;go_simp
        refine hK.out _ _ trivial (fun hHeld=>?_)
        clear hK K hx TB;try simp only[Act.put,zsE]
        refine wpAnyH_ready (rs:=[9]) (by kernel_rfl) (by simp) ?_
        refine AllReadyH.cons rfl (fun K hK=>?_) AllReadyH.nil
        go_simp
        refine (tN av cv l.length l nm x lv lc es.length es rfl v20 A.out.head.own.rd A.out.head.own.plc rfl A.out.head.right (by omega) (by have:=HX.out;omega) RE.out RI.out).mono ?_
        rintro e w9 ⟨rep,l2,⟨av2,cv2,rfl,hG9,hb9⟩,hR9⟩;have H9:=aA (A.out.turn (T':=T+1000+1010 * (15 - ((m - 1:Nat):Int))) (rep:=rep) hR9 hG9 hb9 (by omega))
        have BX:=aA (A.out.box.below hb9);clear hG9 hb9 hR9;go_wp2_with fail
        refine hK.out _ _ trivial (fun hHeld=>?_)
        clear hK K A RE RI;try simp only[Act.put,zsE]
        refine wpAnyH_ready (rs:=[10]) (by kernel_rfl) (by simp) ?_
        refine AllReadyH.cons rfl (fun K hK=>?_) AllReadyH.nil
        obtain ⟨⟨t0,t1,t2⟩,t3,t4,t5⟩:=BX.out;go_simp
        refine hK.out _ _ trivial (fun hHeld=>?_)
        clear hK K;try simp only[Act.put,zsE]
        refine wpAnyH_done (by kernel_rfl) ?_ _
        go_wp2_with fail
        go_roundw
        case rel=>exact ⟨m - 1,l2,av2,cv2,by go_num,by omega,rfl,aA (by simpa using H9.out)⟩
        case measure=>simp[intOf];omega
      ·go_simp
       refine (kV p zs _ v15 A.out.head.src HU.out (by omega) hl).mono ?_
       rintro e v23 ⟨es,lv,lc,rfl,hR7,hG7,s7,k7⟩;have An:=aA (A.out.keep k7 s7);have RE:=aA hG7.rd;have RI:=aA hR7;have TBn:=aA (TB.out.kept k7 (by omega))
       clear s7 k7 hG7 hR7;go_wp2_with fail
       refine hK.out _ _ trivial (fun hHeld=>?_)
       clear hK K A TB;have A:=An;clear An;have TB:=TBn;clear TBn;try simp only[Act.put,zsE]
       refine wpAnyH_ready (rs:=[5]) (by kernel_rfl) (by simp) ?_
       refine AllReadyH.cons rfl (fun K hK=>?_) AllReadyH.nil
       have hi4':(i:Int)<4:=hi4;go_simp
       refine hK.out _ _ trivial (fun hHeld=>?_)
       clear hK K;try simp only[Act.put,zsE]
       refine wpAnyH_ready (rs:=[6]) (by kernel_rfl) (by simp) ?_
       refine AllReadyH.cons rfl (fun K hK=>?_) AllReadyH.nil
       obtain ⟨x,hx,hxl⟩:=TB.out.2 i (by simp;omega)
       have HX:=aA hxl;clear hxl;go_simp
       refine hK.out _ _ trivial (fun hHeld=>?_)
       clear hK K hx TB;try simp only[Act.put,zsE]
       refine wpAnyH_ready (rs:=[9]) (by kernel_rfl) (by simp) ?_
       refine AllReadyH.cons rfl (fun K hK=>?_) AllReadyH.nil
       go_simp
       refine (tN av cv l.length l nm x lv lc es.length es rfl v23 A.out.head.own.rd A.out.head.own.plc rfl A.out.head.right (by omega) (by have:=HX.out;omega) RE.out RI.out).mono ?_
       rintro e w9 ⟨rep,l2,⟨av2,cv2,rfl,hG9,hb9⟩,hR9⟩;have H9:=aA (A.out.turn (T':=T+1000+1010 * (15 - ((m - 1:Nat):Int))) (rep:=rep) hR9 hG9 hb9 (by omega))
       have BX:=aA (A.out.box.below hb9);clear hG9 hb9 hR9;go_wp2_with fail
       refine hK.out _ _ trivial (fun hHeld=>?_)
       clear hK K A RE RI;try simp only[Act.put,zsE]
       refine wpAnyH_ready (rs:=[10]) (by kernel_rfl) (by simp) ?_
       refine AllReadyH.cons rfl (fun K hK=>?_) AllReadyH.nil
       obtain ⟨⟨t0,t1,t2⟩,t3,t4,t5⟩:=BX.out;go_simp
       refine hK.out _ _ trivial (fun hHeld=>?_)
       clear hK K;try simp only[Act.put,zsE]
       refine wpAnyH_done (by kernel_rfl) ?_ _
       go_wp2_with fail
       go_roundw
       case rel=>exact ⟨m - 1,l2,av2,cv2,by go_num,by omega,rfl,aA (by simpa using H9.out)⟩
       case measure=>simp[intOf];omega
     ·go_simp
      refine (kV p zs _ v14 A.out.head.src HU.out (by omega) hl).mono ?_
      rintro e v27 ⟨es,lv,lc,rfl,hR7,hG7,s7,k7⟩;have An:=aA (A.out.keep k7 s7);have RE:=aA hG7.rd;have RI:=aA hR7;clear s7 k7 hG7 hR7;go_wp2_with fail
      refine hK.out _ _ trivial (fun hHeld=>?_)
      clear hK K A;have A:=An;clear An;try simp only[Act.put,zsE]
      refine wpAnyH_ready (rs:=[2]) (by kernel_rfl) (by simp) ?_
      refine AllReadyH.cons rfl (fun K hK=>?_) AllReadyH.nil
      have TBn:=aA (iP.new (Q:=fun x=>x.length≤2) (w:=v27) (t:=9) (vs:=[[],[97],[97],[98]]) (by decide))
      have An:=aA (A.out.below (aC v27 (.cells ([[],[97],[97],[98]].map vS).toArray 9)));have REn:=aA (RE.out.below (aC v27 (.cells ([[],[97],[97],[98]].map vS).toArray 9)));have hgv28:p<v27.heap.size:=A.out.head.src.lt;have hsv28:v27.heap.size<(v27.alloc (.cells ([[],[97],[97],[98]].map vS).toArray 9)).heap.size:=by simp
      go_simp
      refine hK.out _ _ trivial (fun hHeld=>?_)
      clear hK K A RE;have A:=An;clear An;have RE:=REn;clear REn;have TB:=TBn;clear TBn;try simp only[Act.put,zsE]
      change wpAnyH _ _ _ _ _ _ _ _ (v27.alloc (.cells ([[],[97],[97],[98]].map vS).toArray 9));generalize v27.alloc (.cells ([[],[97],[97],[98]].map vS).toArray 9)=v28 at *;refine wpAnyH_ready (rs:=[5]) (by kernel_rfl) (by simp) ?_
      refine AllReadyH.cons rfl (fun K hK=>?_) AllReadyH.nil
      have hi4':(i:Int)<4:=hi4;go_simp
      refine hK.out _ _ trivial (fun hHeld=>?_)
      clear hK K;try simp only[Act.put,zsE]
      refine wpAnyH_ready (rs:=[6]) (by kernel_rfl) (by simp) ?_
      refine AllReadyH.cons rfl (fun K hK=>?_) AllReadyH.nil
      obtain ⟨x,hx,hxl⟩:=TB.out.2 i (by simp;omega)
      have HX:=aA hxl;clear hxl;go_simp
      refine hK.out _ _ trivial (fun hHeld=>?_)
      clear hK K hx TB;try simp only[Act.put,zsE]
      refine wpAnyH_ready (rs:=[9]) (by kernel_rfl) (by simp) ?_
      refine AllReadyH.cons rfl (fun K hK=>?_) AllReadyH.nil
      go_simp
      refine (tN av cv l.length l nm x lv lc es.length es rfl v28 A.out.head.own.rd A.out.head.own.plc rfl A.out.head.right (by omega) (by have:=HX.out;omega) RE.out RI.out).mono ?_
      rintro e w9 ⟨rep,l2,⟨av2,cv2,rfl,hG9,hb9⟩,hR9⟩;have H9:=aA (A.out.turn (T':=T+1000+1010 * (15 - ((m - 1:Nat):Int))) (rep:=rep) hR9 hG9 hb9 (by omega))
      have BX:=aA (A.out.box.below hb9);clear hG9 hb9 hR9;go_wp2_with fail
      refine hK.out _ _ trivial (fun hHeld=>?_)
      clear hK K A RE RI;try simp only[Act.put,zsE]
      refine wpAnyH_ready (rs:=[10]) (by kernel_rfl) (by simp) ?_
      refine AllReadyH.cons rfl (fun K hK=>?_) AllReadyH.nil
      obtain ⟨⟨t0,t1,t2⟩,t3,t4,t5⟩:=BX.out;go_simp
      refine hK.out _ _ trivial (fun hHeld=>?_)
      clear hK K;try simp only[Act.put,zsE]
      refine wpAnyH_done (by kernel_rfl) ?_ _
      go_wp2_with fail
      go_roundw
      case rel=>exact ⟨m - 1,l2,av2,cv2,by go_num,by omega,rfl,aA (by simpa using H9.out)⟩
      case measure=>simp[intOf];omega
   ·subst hv
    go_wp2_with fail
    refine (zti av cv l.length l nm w5 A.out.head.own.rd rfl A.out.head.right).mono ?_;rintro e w9 ⟨rep,l2,⟨av2,cv2,rfl,hG9,hb9⟩,hR9⟩;have H9:=aA (A.out.turn (T':=T+1000+1010 * (15 - ((m - 1:Nat):Int))) (rep:=rep) hR9 hG9 hb9 (by omega))
    obtain ⟨⟨t0,t1,t2⟩,t3,t4,t5⟩:=A.out.box.below hb9;clear hG9 hb9 hR9;go_wp2_with fail
    go_roundw
    case rel=>exact ⟨m - 1,l2,av2,cv2,by go_num,by omega,rfl,aA (by simpa using H9.out)⟩
    case measure=>simp[intOf];omega
   ·subst hv
    go_wp2_with fail
    refine (rP p zs _ 2 w5 A.out.head.src HU.out (by omega) (by decide) (by decide) hl).mono ?_
    rintro e w7 ⟨bb,rfl,s7,k7⟩;have A7:=aA (A.out.keep k7 s7);clear s7 k7 A;have A:=A7;clear A7;go_wp2_with fail
    refine (zvi av cv l.length l nm bb w7 A.out.head.own.rd rfl A.out.head.right).mono ?_;rintro e w9 ⟨rep,l2,⟨av2,cv2,rfl,hG9,hb9⟩,hR9⟩;have H9:=aA (A.out.turn (T':=T+1000+1010 * (15 - ((m - 1:Nat):Int))) (rep:=rep) hR9 hG9 hb9 (by omega))
    obtain ⟨⟨t0,t1,t2⟩,t3,t4,t5⟩:=A.out.box.below hb9;clear hG9 hb9 hR9;go_wp2_with fail
    go_roundw
    case rel=>exact ⟨m - 1,l2,av2,cv2,by go_num,by omega,rfl,aA (by simpa using H9.out)⟩
    case measure=>simp[intOf];omega
   ·subst hv
    go_wp2_with fail
    refine (rP p zs _ 2 w5 A.out.head.src HU.out (by omega) (by decide) (by decide) hl).mono ?_
    rintro e w7 ⟨bb,rfl,s7,k7⟩;have A7:=aA (A.out.keep k7 s7);clear s7 k7 A;have A:=A7;clear A7;cases bb with
    | true =>
     go_wp2_with fail
     refine (zbj av cv l.length l nm w7 A.out.head.own.rd A.out.head.own.plc rfl A.out.head.right).mono ?_;rintro e w9 ⟨rep,l2,⟨av2,cv2,rfl,hG9,hb9⟩,hR9⟩;have H9:=aA (A.out.turn (T':=T+1000+1010 * (15 - ((m - 1:Nat):Int))) (rep:=rep) hR9 hG9 hb9 (by omega))
     obtain ⟨⟨t0,t1,t2⟩,t3,t4,t5⟩:=A.out.box.below hb9;clear hG9 hb9 hR9;go_wp2_with fail
     go_roundw
     case rel=>exact ⟨m - 1,l2,av2,cv2,by go_num,by omega,rfl,aA (by simpa using H9.out)⟩
     case measure=>simp[intOf];omega
    | false =>
     go_wp2_with fail
     go_roundw
     case rel=>exact ⟨m - 1,l,av,cv,by go_num,by omega,rfl,aA ⟨A.out.head.right,A.out.head.own,A.out.head.src.mono (by omega),A.out.head.kept⟩⟩
     case measure=>simp[intOf];omega
   ·have f0:((kk:Int)==0)=false:=by simp;omega
    have f1:((kk:Int)==1)=false:=by simp;omega
    have f2:((kk:Int)==2)=false:=by simp;omega
    have f3:((kk:Int)==3)=false:=by simp;omega
    have f4:((kk:Int)==4)=false:=by simp;omega
    have f5:((kk:Int)==5)=false:=by simp;omega
    go_wp2_with fail
    refine (zz4 p zs _ w5 A.out.head.src HU.out (by omega) hl).mono ?_
    rintro e w7 ⟨pa,rfl,-,hpl,s7,k7⟩;have A7:=aA (A.out.keep k7 s7);clear s7 k7 A;go_wp2_with fail
    refine (eZ p zs _ 10 w7 A7.out.head.src HU.out (by omega) (by decide) (by decide) hl).mono ?_
    rintro e w8 ⟨nn,rfl,hn10,s8,k8⟩;have A8:=aA (A7.out.keep k8 s8);clear s8 k8 A7;go_wp2_with fail
    refine (zce p nn zs _ w8 A8.out.head.src HU.out (by omega) hl (by omega)).mono ?_
    rintro e w8b ⟨da,dc,ds,rfl,hds,hU,hown,s8,k8⟩;have A:=aA (A8.out.keep k8 s8);have hp8:p<w8.heap.size:=A8.out.head.src.lt;have DR:=aA (wV hown hds.symm).reads;have DP:Hid (∀ y,da=some y→y.block≠p):=aA (fun y hy e=>by have:=(hown.lt p (by subst hy;simp[Value.ownBlock,e])).1;omega)
    have UD:=aA hU;have hdc:ds.length≤dc:=by have:=nJ hown;omega
    clear s8 k8 A8 hU hown;go_wp2_with fail
    refine (eZ p zs _ 3 w8b A.out.head.src HU.out (by omega) (by decide) (by decide) hl).mono ?_
    rintro e w8c ⟨kd,rfl,hk3,s8,k8⟩;have D2:Hid (aZ .u8 w8c da ds):=aA (DR.out.kept k8 (fun hz y hy e=>DP.out y hy e))
    have A9:=aA (A.out.keep k8 s8);clear s8 k8 A DR;have A:=A9;clear A9;have hk1:(1:Int)+(kd:Int)=1∨(1:Int)+(kd:Int)=2∨(1:Int)+(kd:Int)=3:=by omega
    obtain ⟨k1,hk1e⟩:∃ k1,k1=(1:Int)+(kd:Int):=⟨_,rfl⟩;go_wp2_with fail
    rw[←hk1e]at hk1 ⊢;refine (zdj av cv l.length l nm pa ds da nn dc k1 w8c A.out.head.own.rd rfl A.out.head.right hk1 (by omega) D2.out hds.symm UD.out hdc (by omega)).mono ?_
    rintro e w9 ⟨rep,l2,⟨av2,cv2,rfl,hG9,hb9⟩,hR9⟩;have H9:=aA (A.out.turn (T':=T+1000+1010 * (15 - ((m - 1:Nat):Int))) (rep:=rep) hR9 hG9 hb9 (by omega))
    obtain ⟨⟨t0,t1,t2⟩,t3,t4,t5⟩:=A.out.box.below hb9;clear hG9 hb9 hR9;go_wp2_with fail
    go_roundw
    case rel=>exact ⟨m - 1,l2,av2,cv2,by go_num,by omega,rfl,aA (by simpa using H9.out)⟩
    case measure=>simp[intOf];omega
  ·have hm':¬ (0:Int)<(m:Int):=by omega
   go_wp2_with fail
   go_ret
   exact ⟨l,av,cv,rfl,H.out.right,H.out.own,H.out.src.mono (by omega),H.out.kept⟩
theorem zdh (w:World) (a b c d:Int) (t:TypeId):∀ i,i<4→(w.alloc (.cells #[.int .i64 a,.int .i64 b,.int .i64 c,.int .i64 d] t)).cell? ⟨w.heap.size,i,none⟩=some (.int .i64 ([a,b,c,d].getD i 0)):=by
 intro i hi;have:i=0∨i=1∨i=2∨i=3:=by omega
 rcases this with rfl | rfl | rfl | rfl <;> simp
theorem aP.same {l:List Sn} (h:aP l):oH l:=fun s hs=>by rw[mZ.2 (dM.1 (h.own s hs).2.2),(h.own s hs).2.2]
theorem ze3 {l:List Sn} {k:Nat} {s':Sn} (hg:oH l) (hs:bW l) (h1:bY s'.layer=aQ s'.layer) (h2:s'.name.length≤1048576∧s'.parent.length≤1048576∧s'.layer.length≤1048576∧bJ s'.layer):oH (l.set k s')∧bW (l.set k s'):=by
 refine ⟨fun s hs0=>?_,by rw[List.length_set];exact hs.1,fun s hs0=>?_⟩
 ·rcases List.mem_or_eq_of_mem_set hs0 with h | rfl
  ·exact hg s h
  ·exact h1
 ·rcases List.mem_or_eq_of_mem_set hs0 with h | rfl
  ·exact hs.2 s h
  ·exact h2
structure jQ (p:Nat) (zs:List Int) (T:Int) (w:World) (l:List Sn) (av:Option Addr) (cv:Nat) (u:World):Prop where
 good:oH l
 small:bW l
 ten:l.length≤10
 own:GS w.heap.size u (.slice av l.length cv) l
 src:dH u p zs T
 kept:aE (fun b=>b=p) w u
theorem gO.bent {p:Nat} {zs:List Int} {T T':Int} {w:World} {l:List Sn} {av:Option Addr} {cv:Nat} {u:World} (h:gO p zs T w l av cv u) (hT:T≤T'):jQ p zs T' w l av cv u:=⟨h.right.same,h.right.tiny,h.right.len,h.own,h.src.mono hT,h.kept⟩
theorem jQ.keep {p:Nat} {zs:List Int} {T T':Int} {w:World} {l:List Sn} {av:Option Addr} {cv:Nat} {u u':World} (h:jQ p zs T w l av cv u) (hp:p<w.heap.size) (hk:aE (fun b=>b=p) u u') (hs:dH u' p zs T'):jQ p zs T' w l av cv u' :=
 ⟨h.good,h.small,h.ten,h.own.kept hk (fun b h1 e=>by omega),hs,h.kept.trans hk⟩
theorem jQ.below {p:Nat} {zs:List Int} {T:Int} {w:World} {l:List Sn} {av:Option Addr} {cv:Nat} {u u':World} (h:jQ p zs T w l av cv u) (hb:Below u.heap.size u u'):jQ p zs T w l av cv u' :=
 ⟨h.good,h.small,h.ten,h.own.below hb,h.src.below hb,h.kept.trans (aE.of_below hb)⟩
theorem gO.set {p:Nat} {zs:List Int} {T T':Int} {w:World} {l:List Sn} {cv:Nat} {u:World} {k q g:Nat} {s s':Sn} {v:Value} (h:gO p zs T w l (some ⟨g,0,none⟩) cv u) (hp:p<w.heap.size) (hT:T≤T') (hs:l[k]?=some s) (hq:q<5) (hu:∀ a c,(bS ⟨s,a,c⟩).set q v=bS ⟨s',a,c⟩) (hy:s'.layer=s.layer) (hg:w.heap.size≤g) (hn:s'.name.length≤1048576) (hpa:s'.parent.length≤1048576) :
  jQ p zs T' w (l.set k s') (some ⟨g,0,none⟩) cv (u.setCell ⟨g,k * 5+q,none⟩ v):=by
 have hm:=List.mem_of_getElem? hs;have ht:=h.right.tiny.2 s hm;obtain ⟨b1,b2⟩:=ze3 (k:=k) (s':=s') h.right.same h.right.tiny (by rw[hy];exact h.right.same s hm) ⟨hn,hpa,by rw[hy];exact ht.2.2.1,by rw[hy];exact ht.2.2.2⟩
 have hk:=aE.setCell (S:=fun x=>x=g) (p:=⟨g,k * 5+q,none⟩) (aE.refl _ u) (fun _=>rfl) v
 refine ⟨b1,b2,by rw[List.length_set];exact h.right.len,?_,(h.src.kept hk (fun b hb e=>by omega)).mono hT,h.kept.trans_own hk (fun b hb e=>by omega)⟩
 rw[List.length_set];exact h.own.put hs hq hu hy
theorem gO.lay {p:Nat} {zs:List Int} {T T':Int} {w:World} {l:List Sn} {cv:Nat} {u:World} {k g:Nat} {s:Sn} {a2:Option Addr} {c2:Nat} {V:List En} (h:gO p zs T w l (some ⟨g,0,none⟩) cv u) (hp:p<w.heap.size) (hT:T≤T') (hs:l[k]?=some s) (hV:GW w.heap.size u (.slice a2 V.length c2) V) (hgd:mB V) (hl:V.length≤13) (hsm:bJ V) (hg:w.heap.size≤g) :
  jQ p zs T' w (l.set k ⟨s.name,s.parent,s.kind,s.lease,V⟩) (some ⟨g,0,none⟩) cv (u.setCell ⟨g,k * 5+4,none⟩ (.slice a2 V.length c2)):=by
 have hm:=List.mem_of_getElem? hs;have ht:=h.right.tiny.2 s hm;obtain ⟨b1,b2⟩:=ze3 (k:=k) (s':=⟨s.name,s.parent,s.kind,s.lease,V⟩) h.right.same h.right.tiny hgd.good.symm ⟨ht.1,ht.2.1,by show V.length≤1048576;omega,hsm⟩
 have hk:=aE.setCell (S:=fun x=>x=g) (p:=⟨g,k * 5+4,none⟩) (aE.refl _ u) (fun _=>rfl) (.slice a2 V.length c2)
 refine ⟨b1,b2,by rw[List.length_set];exact h.right.len,?_,(h.src.kept hk (fun b hb e=>by omega)).mono hT,h.kept.trans_own hk (fun b hb e=>by omega)⟩
 rw[List.length_set];exact h.own.lay hs hV
theorem zuc (p:Nat) (zs:List Int) (T:Int) (w:World) (h:dH w p zs T) (hu:U8 zs) (hT:T≤10000) (hl:zs.length≤2097152) :
  Calls Tryz.prog 52 #[.pointer (some ⟨p,0,none⟩)] w fun r w'=>∃ (l:List Sn) (av:Option Addr) (cv:Nat),r=.returned (.slice av l.length cv)∧jQ p zs (T+30000) w l av cv w':=by
 have hp:=h.lt;have HS:=aA h;have HU:=aA hu;clear h hu;go_enter Tryz.func52,Tryz.ntmps52;go_wp2_with fail
 refine (eZ p zs T 16 w HS.out HU.out (by omega) (by decide) (by decide) hl).mono ?_
 rintro e w1 ⟨n0,rfl,hn,s1,k1⟩;have S1:=aA s1;have K1:=aA k1;have hs1:=k1.size;clear s1 k1 HS;go_wp2_with fail
 refine (zca p zs _ n0 w1 S1.out HU.out (by omega) (by omega) hl).mono ?_
 rintro e w2 ⟨l,av,cv,rfl,hH⟩;have H2:Hid (gO p zs (T+1+20000) w l av cv w2):=aA ⟨hH.right,hH.own.mono hs1,hH.src,K1.out.trans hH.kept⟩;have hl10:=hH.right.len;clear hH S1 K1 hs1;by_cases hpos:0<l.length
 ·have hpos':(0:Int)<(l.length:Int):=by omega
  go_wp2_with fail
  refine (eZ p zs _ l.length w2 H2.out.src HU.out (by omega) (by omega) (by omega) hl).mono ?_
  rintro e w3 ⟨i,rfl,hi,s3,k3⟩;have H3:=aA (H2.out.keep hp k3 s3);clear s3 k3 H2;have hi':i<l.length:=by omega
  have hi0:¬ (i:Int)<0:=by omega
  go_wp2_with fail
  refine (eZ p zs _ 18 w3 H3.out.src HU.out (by omega) (by decide) (by decide) hl).mono ?_
  rintro e w4 ⟨kk,rfl,hk18,s4,k4⟩;have H:=aA (H3.out.keep hp k4 s4);clear s4 k4 H3;obtain ⟨s,hs⟩:∃ s,l[i]?=some s:=⟨_,List.getElem?_eq_getElem hi'⟩;have HQ:=aA hs;have hsn:=(H.out.right.tiny.2 s (List.mem_of_getElem? hs)).1;have hsp:=(H.out.right.tiny.2 s (List.mem_of_getElem? hs)).2.1;clear hs;have hv:kk=0∨kk=1∨kk=2∨kk=3∨4≤kk:=by omega
  rcases hv with hv | hv | hv | hv | hv
  ·subst hv
   have T0:=aA (iP.new (Q:=fun x=>x.length≤5) (w:=w4) (t:=9) (vs:=[[],[65],[97,98,99,100,101],[122,122]]) (by decide))
   have H5:=aA (H.out.below (aC w4 (.cells ([[],[65],[97,98,99,100,101],[122,122]].map vS).toArray 9)));have hg1:p<w4.heap.size:=H.out.src.lt;clear H;go_wp2_with fail
   refine (eZ p zs _ 4 _ H5.out.src HU.out (by omega) (by decide) (by decide) hl).mono ?_
   rintro e w6 ⟨j,rfl,hj4,s6,k6⟩;have T1:=aA (T0.out.kept k6 (by omega))
   have H:=aA (H5.out.keep hp k6 s6);clear s6 k6 T0 H5;obtain ⟨x,hx,hxl⟩:=T1.out.2 j (by simp;omega)
   have hb:=T1.out.1;have HX:=aA hxl;clear hxl;obtain ⟨g,hgv,hgB,hgl,hfz,r,hrs,hcl⟩:=H.out.own.at HQ.out;subst hgv;subst hrs;have hq:=hcl 0 (by decide)
   have hz:w6.cell? ⟨g,i * 5,none⟩=some (.string (str r.s.name)):=hq;have hf:w6.frozen? ⟨g,i * 5,none⟩=false:=hfz (i * 5);have BE:Hid (jQ p zs (T+30000) w (l.set i ⟨x,r.s.parent,r.s.kind,r.s.lease,r.s.layer⟩) (some ⟨g,0,none⟩) cv (w6.setCell ⟨g,i * 5,none⟩ (.string (str x)))):=aA (H.out.set (q:=0) (s':=⟨x,r.s.parent,r.s.kind,r.s.lease,r.s.layer⟩) (v:=.string (str x)) hp (by omega) HQ.out (by decide) (fun _ _=>rfl) rfl hgB (by first | exact hsn | (have:=HX.out;simp;omega)) (by first | exact hsp | (have:=HX.out;simp;omega)))
   have HLN:=aA (show (l.set i ⟨x,r.s.parent,r.s.kind,r.s.lease,r.s.layer⟩).length=l.length by rw[List.length_set])
   clear hq hcl hfz H;go_wp2_with fail
   go_ret
   exact ⟨_,some ⟨g,0,none⟩,cv,by rw[HLN.out];rfl,BE.out⟩
  ·subst hv
   go_wp2_with fail
   refine (ze0 p zs _ w4 H.out.src HU.out (by omega) hl).mono ?_
   rintro e w6 ⟨x,rfl,hxl,s6,k6⟩;have H6:=aA (H.out.keep hp k6 s6);clear s6 k6 H;have H:=H6;clear H6;have HX:=aA hxl;clear hxl;obtain ⟨g,hgv,hgB,hgl,hfz,r,hrs,hcl⟩:=H.out.own.at HQ.out;subst hgv;subst hrs;have hq:=hcl 1 (by decide)
   have hz:w6.cell? ⟨g,i * 5+1,none⟩=some (.string (str r.s.parent)):=hq;have hf:w6.frozen? ⟨g,i * 5+1,none⟩=false:=hfz (i * 5+1);have BE:Hid (jQ p zs (T+30000) w (l.set i ⟨r.s.name,x,r.s.kind,r.s.lease,r.s.layer⟩) (some ⟨g,0,none⟩) cv (w6.setCell ⟨g,i * 5+1,none⟩ (.string (str x)))):=aA (H.out.set (q:=1) (s':=⟨r.s.name,x,r.s.kind,r.s.lease,r.s.layer⟩) (v:=.string (str x)) hp (by omega) HQ.out (by decide) (fun _ _=>rfl) rfl hgB (by first | exact hsn | (have:=HX.out;simp;omega)) (by first | exact hsp | (have:=HX.out;simp;omega)))
   have HLN:=aA (show (l.set i ⟨r.s.name,x,r.s.kind,r.s.lease,r.s.layer⟩).length=l.length by rw[List.length_set])
   clear hq hcl hfz H;go_wp2_with fail
   go_ret
   exact ⟨_,some ⟨g,0,none⟩,cv,by rw[HLN.out];rfl,BE.out⟩
  ·subst hv
   have C4:=aA (zdh w4 0 3 1 2 2);have H5:=aA (H.out.below (aC w4 (.cells #[.int .i64 0,.int .i64 3,.int .i64 1,.int .i64 2] 2)));have hg1:p<w4.heap.size:=H.out.src.lt;clear H;go_wp2_with fail
   refine (pP p w4.heap.size 4 4 [0,3,1,2] zs _ _ H5.out.src HU.out (by omega) hl (by decide) (by decide) rfl (by omega) (by simp) (by simpa using C4.out)).mono ?_
   rintro e w6 ⟨x,hxv,rfl,s6,k6⟩;have H:=aA (H5.out.keep hp k6 s6);clear s6 k6 H5 C4 hxv;obtain ⟨g,hgv,hgB,hgl,hfz,r,hrs,hcl⟩:=H.out.own.at HQ.out;subst hgv;subst hrs;have hq:=hcl 2 (by decide)
   have hz:w6.cell? ⟨g,i * 5+2,none⟩=some (.int .i64 r.s.kind):=hq;have hf:w6.frozen? ⟨g,i * 5+2,none⟩=false:=hfz (i * 5+2);have BE:Hid (jQ p zs (T+30000) w (l.set i ⟨r.s.name,r.s.parent,x,r.s.lease,r.s.layer⟩) (some ⟨g,0,none⟩) cv (w6.setCell ⟨g,i * 5+2,none⟩ (.int .i64 x))):=aA (H.out.set (q:=2) (s':=⟨r.s.name,r.s.parent,x,r.s.lease,r.s.layer⟩) (v:=.int .i64 x) hp (by omega) HQ.out (by decide) (fun _ _=>rfl) rfl hgB (by first | exact hsn | (have:=HX.out;simp;omega)) (by first | exact hsp | (have:=HX.out;simp;omega)))
   have HLN:=aA (show (l.set i ⟨r.s.name,r.s.parent,x,r.s.lease,r.s.layer⟩).length=l.length by rw[List.length_set])
   clear hq hcl hfz H;go_wp2_with fail
   go_ret
   exact ⟨_,some ⟨g,0,none⟩,cv,by rw[HLN.out];rfl,BE.out⟩
  ·subst hv
   go_wp2_with fail
   refine (zlb p zs _ w4 H.out.src HU.out (by omega) hl).mono ?_
   rintro e w6 ⟨V,a2,c2,rfl,hgd,hvl,hsm,hG,s6,k6⟩;have hw4:=H.out.kept.size;have H6:=aA (H.out.keep hp k6 s6);have GV:=aA ((GW.of hG).mono hw4);have GD:=aA hgd;have SM:=aA hsm;clear s6 k6 H hgd hsm hG;have H:=H6;clear H6;obtain ⟨g,hgv,hgB,hgl,hfz,r,hrs,hcl⟩:=H.out.own.at HQ.out;subst hgv;subst hrs;have hq:=hcl 4 (by decide)
   have hz:w6.cell? ⟨g,i * 5+4,none⟩=some (.slice r.a r.s.layer.length r.c):=hq;have hf:w6.frozen? ⟨g,i * 5+4,none⟩=false:=hfz (i * 5+4);have BE:Hid (jQ p zs (T+30000) w (l.set i ⟨r.s.name,r.s.parent,r.s.kind,r.s.lease,V⟩) (some ⟨g,0,none⟩) cv (w6.setCell ⟨g,i * 5+4,none⟩ (.slice a2 V.length c2))):=aA (H.out.lay hp (by omega) HQ.out GV.out GD.out hvl SM.out hgB)
   have HLN:=aA (show (l.set i ⟨r.s.name,r.s.parent,r.s.kind,r.s.lease,V⟩).length=l.length by rw[List.length_set])
   clear hq hcl hfz H GV GD SM;go_wp2_with fail
   go_ret
   exact ⟨_,some ⟨g,0,none⟩,cv,by rw[HLN.out];rfl,BE.out⟩
  ·have f0:((kk:Int)==0)=false:=by simp;omega
   have f1:((kk:Int)==1)=false:=by simp;omega
   have f2:((kk:Int)==2)=false:=by simp;omega
   have f3:((kk:Int)==3)=false:=by simp;omega
   go_wp2_with fail
   go_ret
   exact ⟨l,av,cv,rfl,H.out.bent (by omega)⟩
 ·have hpos':¬ (0:Int)<(l.length:Int):=by omega
  go_wp2_with fail
  go_ret
  exact ⟨l,av,cv,rfl,H2.out.bent (by omega)⟩
end Go.Proofs.YtgaeikgoknoamaaGreat
