/-
  Texts put together: SnqN SnqP SnqO SnqR SnqS LazD.
-/
import Derived.Test.YtgaeikgoknoamaaGreatKKeeps22
import Derived.Test.YtgaeikgoknoamaaGreatKKeeps16
import Derived.Test.YtgaeikgoknoamaaGreatKKeeps20
import Derived.Test.YtgaeikgoknoamaaGreatKKeeps14
import Derived.Test.YtgaeikgoknoamaaGreatKKeeps12
import Derived.Test.YtgaeikgoknoamaaGreatKKeeps11
import Derived.Deep.RegionHeld3
set_option linter.unusedVariables false
set_option maxHeartbeats 12800000
set_option maxRecDepth 100000
namespace Go.Proofs.YtgaeikgoknoamaaGreat
open Go.RowKit Go.Maps
theorem zhb {l:List Sn} (h:bH l) {s:Sn} (hs:s∈l) {p:Bs} {zs:List Int} {k q rep:Int} {V:List En} (hk:k=1∨k=2∨k=3) (hz:q+rep=0) (hD:jP (iW l s) s.layer p zs k q rep V):aV V:=by
 have hb:=yB h hs hk hD;have hq:q=0:=by omega
 have hl:=rM h hs;have hR:=(fJ.1 hl).2;have ha:dP (iW l s ++ [s.layer]) p=aF p:=by unfold dP;rw[if_pos hl]
 rcases hk with rfl | rfl | rfl
 ·have hF:=hD.1 rfl
  by_cases h0:lM (iW l s ++ [s.layer]) p zs=0
  ·obtain ⟨h1,h2⟩:=hF.good h0
   unfold lM at h0;rw[ha]at h0;by_cases hp:aF p=0
   ·rw[if_pos hp]at h0
    exact zvi hR hp (by split at h0 <;> omega) h2
   ·rw[if_neg hp]at h0;exact absurd h0 hp
  ·exact absurd ((hF.bad h0).1.symm.trans hq) h0
 ·have hF:=hD.2.1 rfl
  rw[ha]at hF;by_cases h0:aF p=0
  ·exact zuh hR h0 (hF.good h0).2
  ·exact absurd ((hF.bad h0).1.symm.trans hq) h0
 ·have hF:=hD.2.2 rfl
  rw[ha]at hF;by_cases h0:aF p=0
  ·exact zni hR h0 (hF.good h0).2
  ·exact absurd ((hF.bad h0).1.symm.trans hq) h0
theorem zd8 {l:List Sn} (h:bH l) {t:Sn} {nm:Bs} (ht:atS l nm=some t) {p:Bs} {zs:List Int} {k q rep:Int} {V:List En} (hk:k=1∨k=2∨k=3) (hz:q+rep=0) (hD:jP (iW l t) t.layer p zs k q rep V):bH (dK l ⟨t.name,t.parent,t.kind,t.lease,V⟩):=by
 obtain ⟨h1,h2⟩:=cI ht;have ho:=h.own t h1;have hV:=zhb h h1 hk hz hD;exact uD h (s:=⟨t.name,t.parent,t.kind,t.lease,V⟩) (t:=t) ⟨ho.1,ho.2.1,eE.2 hV⟩ (by show atS l t.name=some t;rw[h2];exact ht) rfl (fun hk=>hk)
end Go.Proofs.YtgaeikgoknoamaaGreat
namespace Go.Proofs.YtgaeikgoknoamaaGreat
theorem zd9 {l:List Sn} (h:bH l) {t:Sn} {nm:Bs} (ht:atS l nm=some t) (b:Bool):bH (dK l (zoc t b))∧atS (dK l (zoc t b)) nm=some (zoc t b):=by
 obtain ⟨h1,h2⟩:=cI ht;have ho:=h.own t h1;refine ⟨uD h (s:=zoc t b) (t:=t) ⟨ho.1,ho.2.1,ho.2.2⟩ (by show atS l t.name=some t;rw[h2];exact ht) rfl (fun hk=>hk),?_⟩
 rw[mT h.rise,if_pos (by show nm=t.name;exact h2.symm)]
end Go.Proofs.YtgaeikgoknoamaaGreat
namespace Go.Proofs.YtgaeikgoknoamaaGreat
open Go.RowKit Go.Maps
attribute [local go_sem ↓] Go.wp_at_zero Go.wp_at_succ
theorem bH.tiny {l:List Sn} (h:bH l):dF l:=h.small (fun s hs=>by
 rcases h.stand s hs with h1 | ⟨p,h1,-,-⟩
 ·rw[h1];simp
 ·obtain ⟨a1,a2⟩:=cI h1
  have:=(h.own p a1).1;simp only[fL,Bool.and_eq_true,decide_eq_true_eq]at this;rw[←a2];omega) (fun s hs=>cN (eE.1 (h.own s hs).2.2))
theorem zzc:bH []:=oI.1 (by decide)
def xA (w:World) (r:Ending) (w':World):Prop:=∃ rep l,bI 0 rep l w r w'∧bH l
theorem zaj (a:Option Addr) (c n:Nat) (l:List Sn) (nm pa:Bs) (w:World) (h:RdS w a l) (hP:Plc a c l) (hn:n=l.length) (hR:bH l) (hn1:nm.length≤1048576) (hn2:pa.length≤1048576) :
  Calls Tryz.prog 146 #[.slice a n c,.string (str nm),.string (str pa)] w (xA w):=by
 refine (wQ a c n l nm pa w h hP hn hR hR.tiny hn1 hn2).mono ?_;rintro r w' (⟨-,h1⟩ | ⟨h0,h1⟩)
 ·exact ⟨_,l,h1,hR⟩
 ·exact ⟨0,_,h1,ze0 hR (by rw[←zs2 hR];exact h0) (.inl rfl) (eE.2 zt3)⟩
theorem vB (a:Option Addr) (c n:Nat) (l:List Sn) (nm pa:Bs) (xa:Option Addr) (xc m:Nat) (es:List En) (hm:m=es.length) (w:World) (h:RdS w a l) (hP:Plc a c l) (hn:n=l.length) (hR:bH l) (hn1:nm.length≤1048576) (hn2:pa.length≤1048576) (hx:RdE w xa es) (hz:aV es) :
  Calls Tryz.prog 144 #[.slice a n c,.string (str nm),.string (str pa),.slice xa m xc] w (xA w):=by
 refine (ze2 a c n l nm pa xa xc m es hm w h hP hn hR hR.tiny hn1 hn2 hx (by have:=hz.len;omega) (cN hz) (xJ.2 hz)).mono ?_
 rintro r w' (⟨-,h1⟩ | ⟨h0,h1⟩)
 ·exact ⟨_,l,h1,hR⟩
 ·exact ⟨0,_,h1,ze0 hR (by rw[←zs2 hR];exact h0) (.inr rfl) (eE.2 hz)⟩
theorem zrl (a:Option Addr) (c n:Nat) (l:List Sn) (nm:Bs) (w:World) (h:RdS w a l) (hn:n=l.length) (hR:bH l) :
  Calls Tryz.prog 147 #[.slice a n c,.string (str nm)] w (xA w):=by
 refine (xS a c n l nm w h hn hR hR.tiny).mono ?_;rintro r w' (⟨-,h1⟩ | ⟨t,ht,⟨-,h1⟩ | ⟨-,h1⟩⟩)
 ·exact ⟨_,l,h1,hR⟩
 ·exact ⟨_,l,h1,hR⟩
 ·obtain ⟨e1,e2⟩:=cI ht
  have ho:=hR.own t e1;exact ⟨0,_,h1,uD hR (s:=⟨t.name,t.parent,2,t.lease,t.layer⟩) (t:=t) ⟨ho.1,.inr rfl,ho.2.2⟩ (by show atS l t.name=some t;rw[e2];exact ht) rfl (fun _=>by show (2:Int)≠1;decide)⟩
theorem zsl (a:Option Addr) (c n:Nat) (l:List Sn) (nm:Bs) (b:Bool) (w:World) (h:RdS w a l) (hn:n=l.length) (hR:bH l) :
  Calls Tryz.prog 148 #[.slice a n c,.string (str nm),.bool b] w (xA w):=by
 refine (zR a c n l nm b w h hn hR hR.tiny).mono ?_;rintro r w' (⟨-,h1⟩ | ⟨t,ht,h1⟩)
 ·exact ⟨_,l,h1,hR⟩
 ·exact ⟨0,_,h1,(zd9 hR ht b).1⟩
theorem zul (a:Option Addr) (c n:Nat) (l:List Sn) (nm:Bs) (w:World) (h:RdS w a l) (hP:Plc a c l) (hn:n=l.length) (hR:bH l) :
  Calls Tryz.prog 149 #[.slice a n c,.string (str nm)] w (xA w):=by
 refine (xT a c n l nm w h hP hn hR hR.tiny).mono ?_;rintro r w' (⟨-,h1⟩ | ⟨t,ht,⟨-,h1⟩ | ⟨h0,h1⟩⟩)
 ·exact ⟨_,l,h1,hR⟩
 ·exact ⟨_,l,h1,hR⟩
 ·refine ⟨0,_,h1,zwf hR (fun x hx e=>?_)⟩
  have:(l.any fun s=>s.parent==t.name)=true:=List.any_eq_true.2 ⟨x,hx,by rw[e,(cI ht).2];simp⟩
  unfold wH at h0;rw[this,Bool.or_true]at h0;exact absurd h0 (by decide)
theorem zyl (a:Option Addr) (c n:Nat) (l:List Sn) (nm p:Bs) (zs:List Int) (d:Option Addr) (dn dc:Nat) (k:Int) (w:World) (h:RdS w a l) (hn:n=l.length) (hR:bH l) (hk3:k=1∨k=2∨k=3) (hpl:p.length≤1048576) (hd:aO .u8 w d zs) (hdn:dn=zs.length) (hu8:U8 zs) (hdc:zs.length≤dc) (hdl:zs.length≤1048576) :
  Calls Tryz.prog 150 #[.slice a n c,.string (str nm),.string (str p),.slice d dn dc,.int .i64 k] w (xA w):=by
 refine (zU a c n l nm p zs d dn dc k w h hn hR hR.tiny hk3 hpl hd hdn hu8 hdc hdl).mono ?_;rintro r w' (⟨-,h1⟩ | ⟨t,ht,⟨-,h1⟩ | ⟨-,q,rep,V,hD,⟨-,h1⟩ | ⟨hz,h1⟩⟩⟩)
 ·exact ⟨_,l,h1,hR⟩
 ·exact ⟨_,l,h1,hR⟩
 ·exact ⟨_,l,h1,hR⟩
 ·exact ⟨0,_,h1,zd8 hR ht hk3 hz hD⟩
theorem zna (p:Nat) (zs:List Int) (T:Int) (w:World) (h:dL w p zs T) (hu:U8 zs) (hT:T≤1000000) (hl:zs.length≤2097152) :
  Calls Tryz.prog 75 #[.pointer (some ⟨p,0,none⟩)] w fun e w'=>∃ x:Bs,e=.returned (.string (str x))∧x.length≤2∧dL w' p zs (T+1)∧aD (fun b=>b=p) w w':=by
 have hp:=h.lt;have T0:=aA (iY.new (Q:=fun x=>x.length≤2) (w:=w) (t:=9) (vs:=[[97],[98],[99],[100],[97,97]]) (by decide))
 have HS:=aA (h.below (aC w (.cells ([[97],[98],[99],[100],[97,97]].map vS).toArray 9)));have HU:=aA hu;clear h hu;go_enter Tryz.func75,Tryz.ntmps75;go_wp2_with fail
 refine (fK p zs T 5 _ HS.out HU.out hT (by decide) (by decide) hl).mono ?_
 rintro e w1 ⟨i,rfl,r1,s1,k1⟩;have T1:=aA (T0.out.kept k1 (by omega))
 have S1:=aA s1;have K1:=aA (((aD.refl (fun b=>b=p) w).alloc (.cells ([[97],[98],[99],[100],[97,97]].map vS).toArray 9)).trans k1)
 clear s1 k1 T0 HS;obtain ⟨x,hx,hxl⟩:=T1.out.2 i (by simp;omega)
 have hb:=T1.out.1;have HX:=aA hxl;clear hxl;go_wp2_with fail
 go_ret
 exact ⟨x,rfl,HX.out,S1.out,K1.out⟩
theorem tks {P:Program} {ops:Array Oper} {Q:Exit→Act→World→Prop} {md:Region.Mode} {S:World→Prop} (i d:Nat) (v:Value) {op:Op} {ty:TypeId} {pos:String} {af:Array Edge} {gd:Option (Nat × Bool)} {fuel:Nat} {listed:Array Bool} {a:Act} {w:World} (hS:S w) (hi:ops[i]?=some { dst:=some d,op:=op,type:=ty,pos:=pos,after:=af,guard:=gd })
  (hs:Region.noSelect ops=true) (hf:Region.free md ops listed i=true) (hr:(Region.ready md ops listed).contains i=true) (hQ:∀ c a w,Q (.panic c) (a.put (some d) v) w→Q (.panic c) a w) (hy:YieldsIf P ops S { dst:=some d,op:=op,type:=ty,pos:=pos,after:=af,guard:=gd } v a)
  (h:wpAnyH P md ops Q S fuel (listed.setIfInBounds i true) (a.put (some d) v) w):wpAnyH P md ops Q S (fuel+1) listed a w:=wpAnyH_take hi hs hf hr hQ hy hS h
theorem zwk (a b c:Value) (u:World):Sem.run Tryz.prog (Instr.field 29 (.agg #[a,b,c]) 2) u=.ok c u:=by kernel_rfl
structure iA (p:Nat) (zs:List Int) (T:Int) (w:World) (l:List Sn) (av:Option Addr) (cv:Nat) (u:World):Prop where
 right:bH l
 own:GS w.heap.size u (.slice av l.length cv) l
 src:dL u p zs T
 kept:aD (fun b=>b=p) w u
structure AtN (p:Nat) (zs:List Int) (T:Int) (w:World) (l:List Sn) (av:Option Addr) (cv rb:Nat) (u:World):Prop where
 head:iA p zs T w l av cv u
 box:fB u rb (.int .i64 0) (.int .i64 0) (.slice none 0 0)
 size:w.heap.size≤rb
 old:p<w.heap.size
theorem iA.keep {p:Nat} {zs:List Int} {T T':Int} {w:World} {l:List Sn} {av:Option Addr} {cv:Nat} {u u':World} (h:iA p zs T w l av cv u) (hp:p<w.heap.size) (hk:aD (fun b=>b=p) u u') (hs:dL u' p zs T'):iA p zs T' w l av cv u' :=
 ⟨h.right,h.own.kept hk (fun b h1 e=>by omega),hs,h.kept.trans hk⟩
theorem iA.below {p:Nat} {zs:List Int} {T:Int} {w:World} {l:List Sn} {av:Option Addr} {cv:Nat} {u u':World} (h:iA p zs T w l av cv u) (hb:Below u.heap.size u u'):iA p zs T w l av cv u' :=
 ⟨h.right,h.own.below hb,h.src.below hb,h.kept.trans (aD.of_below hb)⟩
theorem AtN.keep {p:Nat} {zs:List Int} {T T':Int} {w:World} {l:List Sn} {av:Option Addr} {cv rb:Nat} {u u':World} (h:AtN p zs T w l av cv rb u) (hk:aD (fun b=>b=p) u u') (hs:dL u' p zs T'):AtN p zs T' w l av cv rb u':=by
 have h1:=h.size;have h2:=h.old;exact ⟨h.head.keep h2 hk hs,h.box.kept hk (by omega),h1,h2⟩
theorem AtN.below {p:Nat} {zs:List Int} {T:Int} {w:World} {l:List Sn} {av:Option Addr} {cv rb:Nat} {u u':World} (h:AtN p zs T w l av cv rb u) (hb:Below u.heap.size u u'):AtN p zs T w l av cv rb u' :=
 ⟨h.head.below hb,h.box.below hb,h.size,h.old⟩
theorem iA.make {p:Nat} {zs:List Int} {T:Int} {w:World} {l:List Sn} {av:Option Addr} {cv:Nat} {u:World} (h:iA p zs T w l av cv u) (hp:p<w.heap.size):AtN p zs T w l av cv u.heap.size (u.alloc (.cells #[.int .i64 0,.int .i64 0,.slice none 0 0] 29)) :=
 ⟨h.below (aC u _),fB.new u _ _ _ _,h.kept.size,hp⟩
theorem AtN.turn {p:Nat} {zs:List Int} {T T':Int} {w:World} {l:List Sn} {av:Option Addr} {cv rb:Nat} {u:World} {l2:List Sn} {av2:Option Addr} {cv2:Nat} {w9:World} {rep:Int} (h:AtN p zs T w l av cv rb u) (hR:bH l2) (hG:GS u.heap.size w9 (.slice av2 l2.length cv2) l2) (hb:Below u.heap.size u w9) (hT:T≤T') :
  iA p zs T' w l2 av2 cv2 (((w9.setCell ⟨rb,0,none⟩ (.int .i64 0)).setCell ⟨rb,1,none⟩ (.int .i64 rep)).setCell ⟨rb,2,none⟩ (.slice av2 l2.length cv2)):=by
 have hk:=aD.three' w9 rb (.int .i64 0) (.int .i64 rep) (.slice av2 l2.length cv2);have h1:=h.size;have h2:=h.old;have h3:=h.box.lt;have h4:=h.head.kept.size;exact ⟨hR,(hG.kept hk (fun b hb e=>by omega)).mono h4,((h.head.src.below hb).kept hk (fun b hb e=>by omega)).mono hT,(h.head.kept.trans (aD.of_below hb)).trans_own hk (fun b hb e=>by omega)⟩
theorem zhc (p:Nat) (zs:List Int) (T:Int) (n0:Nat) (w:World) (h:dL w p zs T) (hu:U8 zs) (hn0:n0≤15) (hT:T≤100000) (hl:zs.length≤2097152) :
  Calls Tryz.prog 96 #[.pointer (some ⟨p,0,none⟩),.int .i64 n0] w fun r w'=>∃ (l:List Sn) (av:Option Addr) (cv:Nat),r=.returned (.slice av l.length cv)∧iA p zs (T+20000) w l av cv w':=by
 have hp:=h.lt;have HS:=aA h;have HU:=aA hu;clear h hu;go_enter Tryz.func96,Tryz.ntmps96;go_wp2_with fail
 refine (lT p zs T w HS.out HU.out (by omega) hl).mono ?_
 rintro r w1 ⟨es,lv,lc,rfl,hR1,hG1,s1,k1⟩;have S1:=aA s1;have K1:=aA k1;have RE:=aA hG1.rd;have RI:=aA hR1;have hs1:=k1.size;clear hR1 hG1 s1 k1 HS;go_wp2_with fail
 refine (vB none 0 0 [] [97] [] lv lc es.length es rfl w1 (RdS.nil _ _) (.inl ⟨rfl,rfl,rfl⟩) rfl zzc (by simp) (by simp) RE.out RI.out).mono ?_
 rintro r w2 ⟨rep,l0,⟨a0,c0,rfl,hG2,hb2⟩,hR2⟩;have H2:Hid (iA p zs (T+1000) w l0 a0 c0 w2):=aA ⟨hR2,hG2.mono hs1,S1.out.below hb2,K1.out.trans (aD.of_below hb2)⟩;clear hG2 hb2 hR2 S1 K1 RE RI hs1;have HF:=zwk (.int .i64 0) (.int .i64 rep) (.slice a0 l0.length c0);go_wp2_with fail
 clear HF;go_loopw [1,5] (fun k v wr=>∃ (m:Nat) (l:List Sn) (av:Option Addr) (cv:Nat),k=.int .i64 m∧m≤15∧v=.slice av l.length cv∧Hid (iA p zs (T+1000+1010 * (15 - (m:Int))) w l av cv wr)) (fun k _ _=>(intOf k).toNat)
 case atStart=>exact ⟨n0,l0,a0,c0,rfl,hn0,rfl,aA ⟨H2.out.right,H2.out.own,H2.out.src.mono (by omega),H2.out.kept⟩⟩
 case round =>
  obtain ⟨m,l,av,cv,rfl,hm15,rfl,H⟩:=hrel;clear H2;by_cases hlt:0<m
  ·have hm':(0:Int)<(m:Int):=by omega
   go_wp2_with fail
   refine (zna p zs _ wr H.out.src HU.out (by omega) hl).mono ?_
   rintro e w3 ⟨nm,rfl,hnl,s3,k3⟩;have A:=aA ((H.out.keep hp k3 s3).make hp);clear s3 k3 H;go_wp2_with fail
   obtain ⟨rb,hrb⟩:∃ rb,rb=w3.heap.size:=⟨_,rfl⟩;rw[←hrb]at A ⊢;clear hrb;generalize w3.alloc (.cells #[.int .i64 0,.int .i64 0,.slice none 0 0] 29)=W4 at *;refine (fK p zs _ 9 W4 A.out.head.src HU.out (by omega) (by decide) (by decide) hl).mono ?_
   rintro e w5 ⟨kk,rfl,hk9,s5,k5⟩;have A5:=aA (A.out.keep k5 s5);clear s5 k5 A;have A:=A5;clear A5;have hl10:=A.out.head.right.len;have hv:(kk=0∨kk=1)∨kk=2∨kk=3∨kk=4∨kk=5∨6≤kk:=by omega
   rcases hv with hv | hv | hv | hv | hv | hv
   ·rcases hv with hv | hv
    ·subst hv
     have T0:=aA (iY.new (Q:=fun x=>x.length≤2) (w:=w5) (t:=9) (vs:=[[],[97],[98],[99]]) (by decide))
     have A1:=aA (A.out.below (aC w5 (.cells ([[],[97],[98],[99]].map vS).toArray 9)));have hg1:p<w5.heap.size:=A.out.head.src.lt;clear A;go_wp2_with fail
     refine (fK p zs _ 4 _ A1.out.head.src HU.out (by omega) (by decide) (by decide) hl).mono ?_
     rintro e w7 ⟨i,rfl,hi4,s7,k7⟩;have T1:=aA (T0.out.kept k7 (by omega))
     have A:=aA (A1.out.keep k7 s7);clear s7 k7 T0 A1;obtain ⟨x,hx,hxl⟩:=T1.out.2 i (by simp;omega)
     have hb:=T1.out.1;have HX:=aA hxl;clear hxl;go_wp2_with fail
     refine (zaj av cv l.length l nm x w7 A.out.head.own.rd A.out.head.own.plc rfl A.out.head.right (by omega) (by have:=HX.out;omega)).mono ?_
     rintro e w9 ⟨rep,l2,⟨av2,cv2,rfl,hG9,hb9⟩,hR9⟩;have H9:=aA (A.out.turn (T':=T+1000+1010 * (15 - ((m - 1:Nat):Int))) (rep:=rep) hR9 hG9 hb9 (by omega))
     obtain ⟨⟨t0,t1,t2⟩,t3,t4,t5⟩:=A.out.box.below hb9;clear hG9 hb9 hR9;go_wp2_with fail
     go_roundw
     case rel=>exact ⟨m - 1,l2,av2,cv2,by go_num,by omega,rfl,aA (by simpa using H9.out)⟩
     case measure=>simp[intOf];omega
    ·subst hv
     have T0:=aA (iY.new (Q:=fun x=>x.length≤2) (w:=w5) (t:=9) (vs:=[[],[97],[98],[99]]) (by decide))
     have A1:=aA (A.out.below (aC w5 (.cells ([[],[97],[98],[99]].map vS).toArray 9)));have hg1:p<w5.heap.size:=A.out.head.src.lt;clear A;go_wp2_with fail
     refine (fK p zs _ 4 _ A1.out.head.src HU.out (by omega) (by decide) (by decide) hl).mono ?_
     rintro e w7 ⟨i,rfl,hi4,s7,k7⟩;have T1:=aA (T0.out.kept k7 (by omega))
     have A:=aA (A1.out.keep k7 s7);clear s7 k7 T0 A1;obtain ⟨x,hx,hxl⟩:=T1.out.2 i (by simp;omega)
     have hb:=T1.out.1;have HX:=aA hxl;clear hxl;go_wp2_with fail
     refine (zaj av cv l.length l nm x w7 A.out.head.own.rd A.out.head.own.plc rfl A.out.head.right (by omega) (by have:=HX.out;omega)).mono ?_
     rintro e w9 ⟨rep,l2,⟨av2,cv2,rfl,hG9,hb9⟩,hR9⟩;have H9:=aA (A.out.turn (T':=T+1000+1010 * (15 - ((m - 1:Nat):Int))) (rep:=rep) hR9 hG9 hb9 (by omega))
     obtain ⟨⟨t0,t1,t2⟩,t3,t4,t5⟩:=A.out.box.below hb9;clear hG9 hb9 hR9;go_wp2_with fail
     go_roundw
     case rel=>exact ⟨m - 1,l2,av2,cv2,by go_num,by omega,rfl,aA (by simpa using H9.out)⟩
     case measure=>simp[intOf];omega
   ·subst hv
    go_upto_region 12 with fail
    refine wp_region_held_drew (S:=fun _=>True) (by kernel_rfl) trivial (fun hHeld=>?_)
    change wpAnyH _ _ _ _ _ _ (Array.replicate _ false) _ (World.drew _);have Ad:Hid (AtN p zs (T+1000+1010 * (15 - (m:Int))+1+1) w l av cv rb w5.drew):=aA (A.out.below ⟨rfl,rfl,rfl,Nat.le_refl _,fun _ _=>rfl⟩)
    clear A;have A:=Ad;clear Ad;generalize w5.drew=D at *;refine tks 0 46 (.slice av l.length cv) hHeld rfl (by kernel_rfl) (by kernel_rfl) (by kernel_rfl) (fun _ _ _ h=>h) (Or.inl ⟨by rfl,?_⟩) ?_
    ·intro w _
     go_simp
    try simp only[Act.put,zsE]
    refine tks 1 47 (.string (str nm)) hHeld rfl (by kernel_rfl) (by kernel_rfl) (by kernel_rfl) (fun _ _ _ h=>h) (Or.inl ⟨by rfl,?_⟩) ?_
    ·intro w _
     go_simp
    try simp only[Act.put,zsE]
    refine tks 3 49 (.pointer (some ⟨p,0,none⟩)) hHeld rfl (by kernel_rfl) (by kernel_rfl) (by kernel_rfl) (fun _ _ _ h=>h) (Or.inl ⟨by rfl,?_⟩) ?_
    ·intro w _
     go_simp
    try simp only[Act.put,zsE]
    refine tks 7 53 (.pointer (some ⟨p,0,none⟩)) hHeld rfl (by kernel_rfl) (by kernel_rfl) (by kernel_rfl) (fun _ _ _ h=>h) (Or.inl ⟨by rfl,?_⟩) ?_
    ·intro w _
     go_simp
    try simp only[Act.put,zsE]
    refine wpAnyH_ready (rs:=[2,4]) (by kernel_rfl) (by simp) ?_
    refine AllReadyH.cons rfl (fun K hK=>?_) (AllReadyH.cons rfl (fun K hK=>?_) AllReadyH.nil)
    ·have TBn:=aA (iY.new (Q:=fun x=>x.length≤2) (w:=D) (t:=9) (vs:=[[],[97],[97],[98]]) (by decide))
     have An:=aA (A.out.below (aC D (.cells ([[],[97],[97],[98]].map vS).toArray 9)));have hgv1:p<D.heap.size:=A.out.head.src.lt;have hsv1:D.heap.size<(D.alloc (.cells ([[],[97],[97],[98]].map vS).toArray 9)).heap.size:=by simp
     go_simp
     refine hK.out _ _ trivial (fun hHeld=>?_)
     clear hK K A;have A:=An;clear An;have TB:=TBn;clear TBn;try simp only[Act.put,zsE]
     change wpAnyH _ _ _ _ _ _ _ _ (D.alloc (.cells ([[],[97],[97],[98]].map vS).toArray 9));generalize D.alloc (.cells ([[],[97],[97],[98]].map vS).toArray 9)=v1 at *;refine wpAnyH_ready (rs:=[4]) (by kernel_rfl) (by simp) ?_
     refine AllReadyH.cons rfl (fun K hK=>?_) AllReadyH.nil
     go_simp
     refine (fK p zs _ 4 v1 A.out.head.src HU.out (by omega) (by decide) (by decide) hl).mono ?_
     rintro e v2 ⟨i,rfl,hi4,s7,k7⟩;have An:=aA (A.out.keep k7 s7);have TBn:=aA (TB.out.kept k7 (by omega))
     clear s7 k7;go_wp2_with fail
     refine hK.out _ _ trivial (fun hHeld=>?_)
     clear hK K A TB;have A:=An;clear An;have TB:=TBn;clear TBn;try simp only[Act.put,zsE]
     refine wpAnyH_ready (rs:=[5,8]) (by kernel_rfl) (by simp) ?_
     refine AllReadyH.cons rfl (fun K hK=>?_) (AllReadyH.cons rfl (fun K hK=>?_) AllReadyH.nil)
     ·have hi4':(i:Int)<4:=hi4
      go_simp
      refine hK.out _ _ trivial (fun hHeld=>?_)
      clear hK K;try simp only[Act.put,zsE]
      refine wpAnyH_ready (rs:=[6,8]) (by kernel_rfl) (by simp) ?_
      refine AllReadyH.cons rfl (fun K hK=>?_) (AllReadyH.cons rfl (fun K hK=>?_) AllReadyH.nil)
      ·obtain ⟨x,hx,hxl⟩:=TB.out.2 i (by simp;omega)
       have HX:=aA hxl;clear hxl;go_simp
       refine hK.out _ _ trivial (fun hHeld=>?_)
       clear hK K hx TB;try simp only[Act.put,zsE]
       refine wpAnyH_ready (rs:=[8]) (by kernel_rfl) (by simp) ?_
       refine AllReadyH.cons rfl (fun K hK=>?_) AllReadyH.nil
       go_simp
       refine (lT p zs _ v2 A.out.head.src HU.out (by omega) hl).mono ?_
       rintro e v5 ⟨es,lv,lc,rfl,hR7,hG7,s7,k7⟩;have An:=aA (A.out.keep k7 s7);have RE:=aA hG7.rd;have RI:=aA hR7;clear s7 k7 hG7 hR7;go_wp2_with fail
       refine hK.out _ _ trivial (fun hHeld=>?_)
       clear hK K A;have A:=An;clear An;try simp only[Act.put,zsE]
       refine wpAnyH_ready (rs:=[9]) (by kernel_rfl) (by simp) ?_
       refine AllReadyH.cons rfl (fun K hK=>?_) AllReadyH.nil
       go_simp
       refine (vB av cv l.length l nm x lv lc es.length es rfl v5 A.out.head.own.rd A.out.head.own.plc rfl A.out.head.right (by omega) (by have:=HX.out;omega) RE.out RI.out).mono ?_
       rintro e w9 ⟨rep,l2,⟨av2,cv2,rfl,hG9,hb9⟩,hR9⟩;have H9:=aA (A.out.turn (T':=T+1000+1010 * (15 - ((m - 1:Nat):Int))) (rep:=rep) hR9 hG9 hb9 (by omega))
       have BX:=aA (A.out.box.below hb9);clear hG9 hb9 hR9;go_wp2_with fail
       refine hK.out _ _ trivial (fun hHeld=>?_)
       clear hK K A RE RI;try simp only[Act.put,zsE]
       refine wpAnyH_ready (rs:=[10]) (by kernel_rfl) (by simp) ?_
       refine AllReadyH.cons rfl (fun K hK=>?_) AllReadyH.nil
       obtain ⟨⟨t0,t1,t2⟩,t3,t4,t5⟩:=BX.out;go_simp
       refine hK.out _ _ trivial (fun hHeld=>?_)
       clear hK K;try simp only[Act.put,zsE]
       refine wpAnyH_done (by kernel_rfl) ?_ _
       go_wp2_with fail
       go_roundw
       case rel=>exact ⟨m - 1,l2,av2,cv2,by go_num,by omega,rfl,aA (by simpa using H9.out)⟩
       case measure=>simp[intOf];omega
      ·go_simp
       refine (lT p zs _ v2 A.out.head.src HU.out (by omega) hl).mono ?_
       rintro e v7 ⟨es,lv,lc,rfl,hR7,hG7,s7,k7⟩;have An:=aA (A.out.keep k7 s7);have RE:=aA hG7.rd;have RI:=aA hR7;have TBn:=aA (TB.out.kept k7 (by omega))
       clear s7 k7 hG7 hR7;go_wp2_with fail
       refine hK.out _ _ trivial (fun hHeld=>?_)
       clear hK K A TB;have A:=An;clear An;have TB:=TBn;clear TBn;try simp only[Act.put,zsE]
       refine wpAnyH_ready (rs:=[6]) (by kernel_rfl) (by simp) ?_
       refine AllReadyH.cons rfl (fun K hK=>?_) AllReadyH.nil
       obtain ⟨x,hx,hxl⟩:=TB.out.2 i (by simp;omega)
       have HX:=aA hxl;clear hxl;go_simp
       refine hK.out _ _ trivial (fun hHeld=>?_)
       clear hK K hx TB;try simp only[Act.put,zsE]
       refine wpAnyH_ready (rs:=[9]) (by kernel_rfl) (by simp) ?_
       refine AllReadyH.cons rfl (fun K hK=>?_) AllReadyH.nil
       go_simp
       refine (vB av cv l.length l nm x lv lc es.length es rfl v7 A.out.head.own.rd A.out.head.own.plc rfl A.out.head.right (by omega) (by have:=HX.out;omega) RE.out RI.out).mono ?_
       rintro e w9 ⟨rep,l2,⟨av2,cv2,rfl,hG9,hb9⟩,hR9⟩;have H9:=aA (A.out.turn (T':=T+1000+1010 * (15 - ((m - 1:Nat):Int))) (rep:=rep) hR9 hG9 hb9 (by omega))
       have BX:=aA (A.out.box.below hb9);clear hG9 hb9 hR9;go_wp2_with fail
       refine hK.out _ _ trivial (fun hHeld=>?_)
       clear hK K A RE RI;try simp only[Act.put,zsE]
       refine wpAnyH_ready (rs:=[10]) (by kernel_rfl) (by simp) ?_
       refine AllReadyH.cons rfl (fun K hK=>?_) AllReadyH.nil
       obtain ⟨⟨t0,t1,t2⟩,t3,t4,t5⟩:=BX.out;go_simp
       refine hK.out _ _ trivial (fun hHeld=>?_)
       clear hK K;try simp only[Act.put,zsE]
       refine wpAnyH_done (by kernel_rfl) ?_ _
       go_wp2_with fail
       go_roundw
       case rel=>exact ⟨m - 1,l2,av2,cv2,by go_num,by omega,rfl,aA (by simpa using H9.out)⟩
       case measure=>simp[intOf];omega
     ·go_simp
      refine (lT p zs _ v2 A.out.head.src HU.out (by omega) hl).mono ?_
      rintro e v10 ⟨es,lv,lc,rfl,hR7,hG7,s7,k7⟩;have An:=aA (A.out.keep k7 s7);have RE:=aA hG7.rd;have RI:=aA hR7;have TBn:=aA (TB.out.kept k7 (by omega))
      clear s7 k7 hG7 hR7;go_wp2_with fail
      refine hK.out _ _ trivial (fun hHeld=>?_)
      clear hK K A TB;have A:=An;clear An;have TB:=TBn;clear TBn;try simp only[Act.put,zsE]
      refine wpAnyH_ready (rs:=[5]) (by kernel_rfl) (by simp) ?_
      refine AllReadyH.cons rfl (fun K hK=>?_) AllReadyH.nil
      have hi4':(i:Int)<4:=hi4;go_simp
      refine hK.out _ _ trivial (fun hHeld=>?_)
      clear hK K;try simp only[Act.put,zsE]
      refine wpAnyH_ready (rs:=[6]) (by kernel_rfl) (by simp) ?_
      refine AllReadyH.cons rfl (fun K hK=>?_) AllReadyH.nil
      obtain ⟨x,hx,hxl⟩:=TB.out.2 i (by simp;omega)
      have HX:=aA hxl;clear hxl;go_simp
      refine hK.out _ _ trivial (fun hHeld=>?_)
      clear hK K hx TB;try simp only[Act.put,zsE]
      refine wpAnyH_ready (rs:=[9]) (by kernel_rfl) (by simp) ?_
      refine AllReadyH.cons rfl (fun K hK=>?_) AllReadyH.nil
      go_simp
      refine (vB av cv l.length l nm x lv lc es.length es rfl v10 A.out.head.own.rd A.out.head.own.plc rfl A.out.head.right (by omega) (by have:=HX.out;omega) RE.out RI.out).mono ?_
      rintro e w9 ⟨rep,l2,⟨av2,cv2,rfl,hG9,hb9⟩,hR9⟩;have H9:=aA (A.out.turn (T':=T+1000+1010 * (15 - ((m - 1:Nat):Int))) (rep:=rep) hR9 hG9 hb9 (by omega))
      have BX:=aA (A.out.box.below hb9);clear hG9 hb9 hR9;go_wp2_with fail
      refine hK.out _ _ trivial (fun hHeld=>?_)
      clear hK K A RE RI;try simp only[Act.put,zsE]
      refine wpAnyH_ready (rs:=[10]) (by kernel_rfl) (by simp) ?_
      refine AllReadyH.cons rfl (fun K hK=>?_) AllReadyH.nil
      obtain ⟨⟨t0,t1,t2⟩,t3,t4,t5⟩:=BX.out;go_simp
      refine hK.out _ _ trivial (fun hHeld=>?_)
      clear hK K;try simp only[Act.put,zsE]
      refine wpAnyH_done (by kernel_rfl) ?_ _
      go_wp2_with fail
      go_roundw
      case rel=>exact ⟨m - 1,l2,av2,cv2,by go_num,by omega,rfl,aA (by simpa using H9.out)⟩
      case measure=>simp[intOf];omega
    ·go_simp
     refine (fK p zs _ 4 D A.out.head.src HU.out (by omega) (by decide) (by decide) hl).mono ?_
     rintro e v14 ⟨i,rfl,hi4,s7,k7⟩;have An:=aA (A.out.keep k7 s7);clear s7 k7;go_wp2_with fail
     refine hK.out _ _ trivial (fun hHeld=>?_)
     clear hK K A;have A:=An;clear An;try simp only[Act.put,zsE]
     refine wpAnyH_ready (rs:=[2,8]) (by kernel_rfl) (by simp) ?_
     refine AllReadyH.cons rfl (fun K hK=>?_) (AllReadyH.cons rfl (fun K hK=>?_) AllReadyH.nil)
     ·have TBn:=aA (iY.new (Q:=fun x=>x.length≤2) (w:=v14) (t:=9) (vs:=[[],[97],[97],[98]]) (by decide))
      have An:=aA (A.out.below (aC v14 (.cells ([[],[97],[97],[98]].map vS).toArray 9)));have hgv15:p<v14.heap.size:=A.out.head.src.lt;have hsv15:v14.heap.size<(v14.alloc (.cells ([[],[97],[97],[98]].map vS).toArray 9)).heap.size:=by simp
      go_simp
      refine hK.out _ _ trivial (fun hHeld=>?_)
      clear hK K A;have A:=An;clear An;have TB:=TBn;clear TBn;try simp only[Act.put,zsE]
      change wpAnyH _ _ _ _ _ _ _ _ (v14.alloc (.cells ([[],[97],[97],[98]].map vS).toArray 9));generalize v14.alloc (.cells ([[],[97],[97],[98]].map vS).toArray 9)=v15 at *;refine wpAnyH_ready (rs:=[5,8]) (by kernel_rfl) (by simp) ?_
      refine AllReadyH.cons rfl (fun K hK=>?_) (AllReadyH.cons rfl (fun K hK=>?_) AllReadyH.nil)
      ·have hi4':(i:Int)<4:=hi4
       go_simp
       refine hK.out _ _ trivial (fun hHeld=>?_)
       clear hK K;try simp only[Act.put,zsE]
       refine wpAnyH_ready (rs:=[6,8]) (by kernel_rfl) (by simp) ?_
       refine AllReadyH.cons rfl (fun K hK=>?_) (AllReadyH.cons rfl (fun K hK=>?_) AllReadyH.nil)
       ·obtain ⟨x,hx,hxl⟩:=TB.out.2 i (by simp;omega)
        have HX:=aA hxl;clear hxl;go_simp
        refine hK.out _ _ trivial (fun hHeld=>?_)
        clear hK K hx TB;try simp only[Act.put,zsE]
        refine wpAnyH_ready (rs:=[8]) (by kernel_rfl) (by simp) ?_
        refine AllReadyH.cons rfl (fun K hK=>?_) AllReadyH.nil
        go_simp
        refine (lT p zs _ v15 A.out.head.src HU.out (by omega) hl).mono ?_
        rintro e v18 ⟨es,lv,lc,rfl,hR7,hG7,s7,k7⟩;have An:=aA (A.out.keep k7 s7);have RE:=aA hG7.rd;have RI:=aA hR7;clear s7 k7 hG7 hR7;go_wp2_with fail
        refine hK.out _ _ trivial (fun hHeld=>?_)
        clear hK K A;have A:=An;clear An;try simp only[Act.put,zsE]
        refine wpAnyH_ready (rs:=[9]) (by kernel_rfl) (by simp) ?_
        refine AllReadyH.cons rfl (fun K hK=>?_) AllReadyH.nil
        go_simp
        refine (vB av cv l.length l nm x lv lc es.length es rfl v18 A.out.head.own.rd A.out.head.own.plc rfl A.out.head.right (by omega) (by have:=HX.out;omega) RE.out RI.out).mono ?_
        rintro e w9 ⟨rep,l2,⟨av2,cv2,rfl,hG9,hb9⟩,hR9⟩;have H9:=aA (A.out.turn (T':=T+1000+1010 * (15 - ((m - 1:Nat):Int))) (rep:=rep) hR9 hG9 hb9 (by omega))
        have BX:=aA (A.out.box.below hb9);clear hG9 hb9 hR9;go_wp2_with fail
        refine hK.out _ _ trivial (fun hHeld=>?_)
        clear hK K A RE RI;try simp only[Act.put,zsE]
        refine wpAnyH_ready (rs:=[10]) (by kernel_rfl) (by simp) ?_
        refine AllReadyH.cons rfl (fun K hK=>?_) AllReadyH.nil
        obtain ⟨⟨t0,t1,t2⟩,t3,t4,t5⟩:=BX.out;go_simp
        refine hK.out _ _ trivial (fun hHeld=>?_)
        clear hK K;try simp only[Act.put,zsE]
        refine wpAnyH_done (by kernel_rfl) ?_ _
        go_wp2_with fail
        go_roundw
        case rel=>exact ⟨m - 1,l2,av2,cv2,by go_num,by omega,rfl,aA (by simpa using H9.out)⟩
        case measure=>simp[intOf];omega
       ·go_simp
        refine (lT p zs _ v15 A.out.head.src HU.out (by omega) hl).mono ?_
        rintro e v20 ⟨es,lv,lc,rfl,hR7,hG7,s7,k7⟩;have An:=aA (A.out.keep k7 s7);have RE:=aA hG7.rd;have RI:=aA hR7;have TBn:=aA (TB.out.kept k7 (by omega))
        clear s7 k7 hG7 hR7;go_wp2_with fail
        refine hK.out _ _ trivial (fun hHeld=>?_)
        clear hK K A TB;have A:=An;clear An;have TB:=TBn;clear TBn;try simp only[Act.put,zsE]
        refine wpAnyH_ready (rs:=[6]) (by kernel_rfl) (by simp) ?_
        refine AllReadyH.cons rfl (fun K hK=>?_) AllReadyH.nil
        obtain ⟨x,hx,hxl⟩:=TB.out.2 i (by simp;omega)
        have HX:=aA hxl;clear hxl;go_simp
        refine hK.out _ _ trivial (fun hHeld=>?_)
        clear hK K hx TB;try simp only[Act.put,zsE]
        refine wpAnyH_ready (rs:=[9]) (by kernel_rfl) (by simp) ?_
        refine AllReadyH.cons rfl (fun K hK=>?_) AllReadyH.nil
        go_simp
        refine (vB av cv l.length l nm x lv lc es.length es rfl v20 A.out.head.own.rd A.out.head.own.plc rfl A.out.head.right (by omega) (by have:=HX.out;omega) RE.out RI.out).mono ?_
        rintro e w9 ⟨rep,l2,⟨av2,cv2,rfl,hG9,hb9⟩,hR9⟩;have H9:=aA (A.out.turn (T':=T+1000+1010 * (15 - ((m - 1:Nat):Int))) (rep:=rep) hR9 hG9 hb9 (by omega))
        have BX:=aA (A.out.box.below hb9);clear hG9 hb9 hR9;go_wp2_with fail
        refine hK.out _ _ trivial (fun hHeld=>?_)
        clear hK K A RE RI;try simp only[Act.put,zsE]
        refine wpAnyH_ready (rs:=[10]) (by kernel_rfl) (by simp) ?_
        refine AllReadyH.cons rfl (fun K hK=>?_) AllReadyH.nil
        obtain ⟨⟨t0,t1,t2⟩,t3,t4,t5⟩:=BX.out;go_simp
        refine hK.out _ _ trivial (fun hHeld=>?_)
        clear hK K;try simp only[Act.put,zsE]
        refine wpAnyH_done (by kernel_rfl) ?_ _
        go_wp2_with fail
        go_roundw
        case rel=>exact ⟨m - 1,l2,av2,cv2,by go_num,by omega,rfl,aA (by simpa using H9.out)⟩
        case measure=>simp[intOf];omega
      ·go_simp
       refine (lT p zs _ v15 A.out.head.src HU.out (by omega) hl).mono ?_
       rintro e v23 ⟨es,lv,lc,rfl,hR7,hG7,s7,k7⟩;have An:=aA (A.out.keep k7 s7);have RE:=aA hG7.rd;have RI:=aA hR7;have TBn:=aA (TB.out.kept k7 (by omega))
       clear s7 k7 hG7 hR7;go_wp2_with fail
       refine hK.out _ _ trivial (fun hHeld=>?_)
       clear hK K A TB;have A:=An;clear An;have TB:=TBn;clear TBn;try simp only[Act.put,zsE]
       refine wpAnyH_ready (rs:=[5]) (by kernel_rfl) (by simp) ?_
       refine AllReadyH.cons rfl (fun K hK=>?_) AllReadyH.nil
       have hi4':(i:Int)<4:=hi4;go_simp
       refine hK.out _ _ trivial (fun hHeld=>?_)
       clear hK K;try simp only[Act.put,zsE]
       refine wpAnyH_ready (rs:=[6]) (by kernel_rfl) (by simp) ?_
       refine AllReadyH.cons rfl (fun K hK=>?_) AllReadyH.nil
       obtain ⟨x,hx,hxl⟩:=TB.out.2 i (by simp;omega)
       have HX:=aA hxl;clear hxl;go_simp
       refine hK.out _ _ trivial (fun hHeld=>?_)
       clear hK K hx TB;try simp only[Act.put,zsE]
       refine wpAnyH_ready (rs:=[9]) (by kernel_rfl) (by simp) ?_
       refine AllReadyH.cons rfl (fun K hK=>?_) AllReadyH.nil
       go_simp
       refine (vB av cv l.length l nm x lv lc es.length es rfl v23 A.out.head.own.rd A.out.head.own.plc rfl A.out.head.right (by omega) (by have:=HX.out;omega) RE.out RI.out).mono ?_
       rintro e w9 ⟨rep,l2,⟨av2,cv2,rfl,hG9,hb9⟩,hR9⟩;have H9:=aA (A.out.turn (T':=T+1000+1010 * (15 - ((m - 1:Nat):Int))) (rep:=rep) hR9 hG9 hb9 (by omega))
       have BX:=aA (A.out.box.below hb9);clear hG9 hb9 hR9;go_wp2_with fail
       refine hK.out _ _ trivial (fun hHeld=>?_)
       clear hK K A RE RI;try simp only[Act.put,zsE]
       refine wpAnyH_ready (rs:=[10]) (by kernel_rfl) (by simp) ?_
       refine AllReadyH.cons rfl (fun K hK=>?_) AllReadyH.nil
       obtain ⟨⟨t0,t1,t2⟩,t3,t4,t5⟩:=BX.out;go_simp
       refine hK.out _ _ trivial (fun hHeld=>?_)
       clear hK K;try simp only[Act.put,zsE]
       refine wpAnyH_done (by kernel_rfl) ?_ _
       go_wp2_with fail
       go_roundw
       case rel=>exact ⟨m - 1,l2,av2,cv2,by go_num,by omega,rfl,aA (by simpa using H9.out)⟩
       case measure=>simp[intOf];omega
     ·go_simp
      refine (lT p zs _ v14 A.out.head.src HU.out (by omega) hl).mono ?_
      rintro e v27 ⟨es,lv,lc,rfl,hR7,hG7,s7,k7⟩;have An:=aA (A.out.keep k7 s7);have RE:=aA hG7.rd;have RI:=aA hR7;clear s7 k7 hG7 hR7;go_wp2_with fail
      refine hK.out _ _ trivial (fun hHeld=>?_)
      clear hK K A;have A:=An;clear An;try simp only[Act.put,zsE]
      refine wpAnyH_ready (rs:=[2]) (by kernel_rfl) (by simp) ?_
      refine AllReadyH.cons rfl (fun K hK=>?_) AllReadyH.nil
      have TBn:=aA (iY.new (Q:=fun x=>x.length≤2) (w:=v27) (t:=9) (vs:=[[],[97],[97],[98]]) (by decide))
      have An:=aA (A.out.below (aC v27 (.cells ([[],[97],[97],[98]].map vS).toArray 9)));have REn:=aA (RE.out.below (aC v27 (.cells ([[],[97],[97],[98]].map vS).toArray 9)));have hgv28:p<v27.heap.size:=A.out.head.src.lt;have hsv28:v27.heap.size<(v27.alloc (.cells ([[],[97],[97],[98]].map vS).toArray 9)).heap.size:=by simp
      go_simp
      refine hK.out _ _ trivial (fun hHeld=>?_)
      clear hK K A RE;have A:=An;clear An;have RE:=REn;clear REn;have TB:=TBn;clear TBn;try simp only[Act.put,zsE]
      change wpAnyH _ _ _ _ _ _ _ _ (v27.alloc (.cells ([[],[97],[97],[98]].map vS).toArray 9));generalize v27.alloc (.cells ([[],[97],[97],[98]].map vS).toArray 9)=v28 at *;refine wpAnyH_ready (rs:=[5]) (by kernel_rfl) (by simp) ?_
      refine AllReadyH.cons rfl (fun K hK=>?_) AllReadyH.nil
      have hi4':(i:Int)<4:=hi4;go_simp
      refine hK.out _ _ trivial (fun hHeld=>?_)
      clear hK K;try simp only[Act.put,zsE]
      refine wpAnyH_ready (rs:=[6]) (by kernel_rfl) (by simp) ?_
      refine AllReadyH.cons rfl (fun K hK=>?_) AllReadyH.nil
      obtain ⟨x,hx,hxl⟩:=TB.out.2 i (by simp;omega)
      have HX:=aA hxl;clear hxl;go_simp
      refine hK.out _ _ trivial (fun hHeld=>?_)
      clear hK K hx TB;try simp only[Act.put,zsE]
      refine wpAnyH_ready (rs:=[9]) (by kernel_rfl) (by simp) ?_
      refine AllReadyH.cons rfl (fun K hK=>?_) AllReadyH.nil
      go_simp
      refine (vB av cv l.length l nm x lv lc es.length es rfl v28 A.out.head.own.rd A.out.head.own.plc rfl A.out.head.right (by omega) (by have:=HX.out;omega) RE.out RI.out).mono ?_
      rintro e w9 ⟨rep,l2,⟨av2,cv2,rfl,hG9,hb9⟩,hR9⟩;have H9:=aA (A.out.turn (T':=T+1000+1010 * (15 - ((m - 1:Nat):Int))) (rep:=rep) hR9 hG9 hb9 (by omega))
      have BX:=aA (A.out.box.below hb9);clear hG9 hb9 hR9;go_wp2_with fail
      refine hK.out _ _ trivial (fun hHeld=>?_)
      clear hK K A RE RI;try simp only[Act.put,zsE]
      refine wpAnyH_ready (rs:=[10]) (by kernel_rfl) (by simp) ?_
      refine AllReadyH.cons rfl (fun K hK=>?_) AllReadyH.nil
      obtain ⟨⟨t0,t1,t2⟩,t3,t4,t5⟩:=BX.out;go_simp
      refine hK.out _ _ trivial (fun hHeld=>?_)
      clear hK K;try simp only[Act.put,zsE]
      refine wpAnyH_done (by kernel_rfl) ?_ _
      go_wp2_with fail
      go_roundw
      case rel=>exact ⟨m - 1,l2,av2,cv2,by go_num,by omega,rfl,aA (by simpa using H9.out)⟩
      case measure=>simp[intOf];omega
   ·subst hv
    go_wp2_with fail
    refine (zrl av cv l.length l nm w5 A.out.head.own.rd rfl A.out.head.right).mono ?_;rintro e w9 ⟨rep,l2,⟨av2,cv2,rfl,hG9,hb9⟩,hR9⟩;have H9:=aA (A.out.turn (T':=T+1000+1010 * (15 - ((m - 1:Nat):Int))) (rep:=rep) hR9 hG9 hb9 (by omega))
    obtain ⟨⟨t0,t1,t2⟩,t3,t4,t5⟩:=A.out.box.below hb9;clear hG9 hb9 hR9;go_wp2_with fail
    go_roundw
    case rel=>exact ⟨m - 1,l2,av2,cv2,by go_num,by omega,rfl,aA (by simpa using H9.out)⟩
    case measure=>simp[intOf];omega
   ·subst hv
    go_wp2_with fail
    refine (tB p zs _ 2 w5 A.out.head.src HU.out (by omega) (by decide) (by decide) hl).mono ?_
    rintro e w7 ⟨bb,rfl,s7,k7⟩;have A7:=aA (A.out.keep k7 s7);clear s7 k7 A;have A:=A7;clear A7;go_wp2_with fail
    refine (zsl av cv l.length l nm bb w7 A.out.head.own.rd rfl A.out.head.right).mono ?_;rintro e w9 ⟨rep,l2,⟨av2,cv2,rfl,hG9,hb9⟩,hR9⟩;have H9:=aA (A.out.turn (T':=T+1000+1010 * (15 - ((m - 1:Nat):Int))) (rep:=rep) hR9 hG9 hb9 (by omega))
    obtain ⟨⟨t0,t1,t2⟩,t3,t4,t5⟩:=A.out.box.below hb9;clear hG9 hb9 hR9;go_wp2_with fail
    go_roundw
    case rel=>exact ⟨m - 1,l2,av2,cv2,by go_num,by omega,rfl,aA (by simpa using H9.out)⟩
    case measure=>simp[intOf];omega
   ·subst hv
    go_wp2_with fail
    refine (tB p zs _ 2 w5 A.out.head.src HU.out (by omega) (by decide) (by decide) hl).mono ?_
    rintro e w7 ⟨bb,rfl,s7,k7⟩;have A7:=aA (A.out.keep k7 s7);clear s7 k7 A;have A:=A7;clear A7;cases bb with
    | true =>
     go_wp2_with fail
     refine (zul av cv l.length l nm w7 A.out.head.own.rd A.out.head.own.plc rfl A.out.head.right).mono ?_;rintro e w9 ⟨rep,l2,⟨av2,cv2,rfl,hG9,hb9⟩,hR9⟩;have H9:=aA (A.out.turn (T':=T+1000+1010 * (15 - ((m - 1:Nat):Int))) (rep:=rep) hR9 hG9 hb9 (by omega))
     obtain ⟨⟨t0,t1,t2⟩,t3,t4,t5⟩:=A.out.box.below hb9;clear hG9 hb9 hR9;go_wp2_with fail
     go_roundw
     case rel=>exact ⟨m - 1,l2,av2,cv2,by go_num,by omega,rfl,aA (by simpa using H9.out)⟩
     case measure=>simp[intOf];omega
    | false =>
     go_wp2_with fail
     go_roundw
     case rel=>exact ⟨m - 1,l,av,cv,by go_num,by omega,rfl,aA ⟨A.out.head.right,A.out.head.own,A.out.head.src.mono (by omega),A.out.head.kept⟩⟩
     case measure=>simp[intOf];omega
   ·have f0:((kk:Int)==0)=false:=by simp;omega
    have f1:((kk:Int)==1)=false:=by simp;omega
    have f2:((kk:Int)==2)=false:=by simp;omega
    have f3:((kk:Int)==3)=false:=by simp;omega
    have f4:((kk:Int)==4)=false:=by simp;omega
    have f5:((kk:Int)==5)=false:=by simp;omega
    go_wp2_with fail
    refine (zx6 p zs _ w5 A.out.head.src HU.out (by omega) hl).mono ?_
    rintro e w7 ⟨pa,rfl,-,hpl,s7,k7⟩;have A7:=aA (A.out.keep k7 s7);clear s7 k7 A;go_wp2_with fail
    refine (fK p zs _ 10 w7 A7.out.head.src HU.out (by omega) (by decide) (by decide) hl).mono ?_
    rintro e w8 ⟨nn,rfl,hn10,s8,k8⟩;have A8:=aA (A7.out.keep k8 s8);clear s8 k8 A7;go_wp2_with fail
    refine (zn7 p nn zs _ w8 A8.out.head.src HU.out (by omega) hl (by omega)).mono ?_
    rintro e w8b ⟨da,dc,ds,rfl,hds,hU,hown,s8,k8⟩;have A:=aA (A8.out.keep k8 s8);have hp8:p<w8.heap.size:=A8.out.head.src.lt;have DR:=aA (mC hown hds.symm).reads;have DP:Hid (∀ y,da=some y→y.block≠p):=aA (fun y hy e=>by have:=(hown.lt p (by subst hy;simp[Value.ownBlock,e])).1;omega)
    have UD:=aA hU;have hdc:ds.length≤dc:=by have:=kM hown;omega
    clear s8 k8 A8 hU hown;go_wp2_with fail
    refine (fK p zs _ 3 w8b A.out.head.src HU.out (by omega) (by decide) (by decide) hl).mono ?_
    rintro e w8c ⟨kd,rfl,hk3,s8,k8⟩;have D2:Hid (aO .u8 w8c da ds):=aA (DR.out.kept k8 (fun hz y hy e=>DP.out y hy e))
    have A9:=aA (A.out.keep k8 s8);clear s8 k8 A DR;have A:=A9;clear A9;have hk1:(1:Int)+(kd:Int)=1∨(1:Int)+(kd:Int)=2∨(1:Int)+(kd:Int)=3:=by omega
    obtain ⟨k1,hk1e⟩:∃ k1,k1=(1:Int)+(kd:Int):=⟨_,rfl⟩;go_wp2_with fail
    rw[←hk1e]at hk1 ⊢;refine (zyl av cv l.length l nm pa ds da nn dc k1 w8c A.out.head.own.rd rfl A.out.head.right hk1 (by omega) D2.out hds.symm UD.out hdc (by omega)).mono ?_
    rintro e w9 ⟨rep,l2,⟨av2,cv2,rfl,hG9,hb9⟩,hR9⟩;have H9:=aA (A.out.turn (T':=T+1000+1010 * (15 - ((m - 1:Nat):Int))) (rep:=rep) hR9 hG9 hb9 (by omega))
    obtain ⟨⟨t0,t1,t2⟩,t3,t4,t5⟩:=A.out.box.below hb9;clear hG9 hb9 hR9;go_wp2_with fail
    go_roundw
    case rel=>exact ⟨m - 1,l2,av2,cv2,by go_num,by omega,rfl,aA (by simpa using H9.out)⟩
    case measure=>simp[intOf];omega
  ·have hm':¬ (0:Int)<(m:Int):=by omega
   go_wp2_with fail
   go_ret
   exact ⟨l,av,cv,rfl,H.out.right,H.out.own,H.out.src.mono (by omega),H.out.kept⟩
theorem zjj (w:World) (a b c d:Int) (t:TypeId):∀ i,i<4→(w.alloc (.cells #[.int .i64 a,.int .i64 b,.int .i64 c,.int .i64 d] t)).cell? ⟨w.heap.size,i,none⟩=some (.int .i64 ([a,b,c,d].getD i 0)):=by
 intro i hi;have:i=0∨i=1∨i=2∨i=3:=by omega
 rcases this with rfl | rfl | rfl | rfl <;> simp
end Go.Proofs.YtgaeikgoknoamaaGreat
namespace Go.Proofs.YtgaeikgoknoamaaGreat
open Go.RowKit Go.Maps
theorem zqc {es:List En} {k:Nat} {e0 e' d:En} (hk:es[k]?=some e0) (hd:d∈es) (hne:d≠e0):d∈es.set k e':=by
 obtain ⟨i,hi,rfl⟩:=List.mem_iff_getElem.1 hd;have hik:i≠k:=fun e=>by
  subst e;rw[List.getElem?_eq_getElem hi]at hk;exact hne (Option.some.inj hk)
 refine List.mem_iff_getElem.2 ⟨i,by rw[List.length_set];exact hi,?_⟩
 rw[List.getElem_set_ne (fun e=>hik e.symm)]
theorem zp6 {es:List En} {k:Nat} {e0 e':En} (hk:es[k]?=some e0) (hp:e'.path=e0.path):(es.set k e').map En.path=es.map En.path:=by
 apply List.ext_getElem?
 intro j;rw[List.getElem?_map,List.getElem?_map,List.getElem?_set]
 by_cases h:k=j
 ·subst h
  have hlt:=(List.getElem?_eq_some_iff.1 hk).1;rw[if_pos rfl,if_pos hlt,hk];simp[hp]
 ·rw[if_neg h]
theorem zh7 {es:List En}:eL es↔(es.map En.path).Pairwise (fun x y=>Op.bytesLess x y=true):=by
 unfold eL;rw[List.pairwise_map]
theorem aV.set_file {es:List En} {k:Nat} {e0:En} {zs:List Int} (h:aV es) (hk:es[k]?=some e0) (h1:e0.kind=1) (hz:zs.length≤24):aV (es.set k (bV e0.path zs)):=by
 have hm:=List.mem_of_getElem? hk;have hpath:=bQ (h.ent e0 hm);refine ⟨by rw[List.length_set];exact h.len,fun x hx=>?_,?_,fun x hx=>?_⟩
 ·rcases List.mem_or_eq_of_mem_set hx with hx | rfl
  ·exact h.ent x hx
  ·exact yD hpath hz
 ·rw[zh7,zp6 (e':=bV e0.path zs) hk rfl,←zh7]
  exact h.rise
 ·have hxp:∃ y∈es,y.path=x.path:=by
   rcases List.mem_or_eq_of_mem_set hx with hx | rfl
   ·exact ⟨x,hx,rfl⟩
   ·exact ⟨e0,hm,rfl⟩
  obtain ⟨y,hy,hyp⟩:=hxp;have hh:=h.home y hy;rw[hyp]at hh;rcases dH.1 hh with h0 | ⟨d,hd,hdp,hdk⟩
  ·exact dH.2 (.inl h0)
  ·refine dH.2 (.inr ⟨d,zqc hk hd (fun e=>?_),hdp,hdk⟩)
   subst e;rw[h1]at hdk;exact absurd hdk (by decide)
def ShE (es:List En):Prop:=aV es∨(∃ es0 e,aV es0∧es=es0 ++ [e])∨(∃ r0 e tl,aV (r0 :: tl)∧es=e :: tl)∨es=List.replicate 13 zEn
theorem ShE.goodH {es:List En} (h:ShE es):pP es:=by
 rcases h with h | ⟨es0,e,h,rfl⟩ | ⟨r0,e,tl,h,rfl⟩ | rfl
 ·exact zd0 h.rise
 ·exact ztb h.rise h.home
 ·exact zle h
 ·exact zk8 (e:=zEn) (tl:=List.replicate 12 zEn) (by decide)
theorem ShE.set {es:List En} {k:Nat} {e0:En} {zs:List Int} (h:ShE es) (hk:es[k]?=some e0) (h1:e0.kind=1) (hz:zs.length≤24):ShE (es.set k (bV e0.path zs)):=by
 rcases h with h | ⟨es0,e,h,rfl⟩ | ⟨r0,e,tl,h,rfl⟩ | rfl
 ·exact .inl (h.set_file hk h1 hz)
 ·by_cases hlt:k<es0.length
  ·rw[List.getElem?_append_left hlt]at hk
   refine .inr (.inl ⟨_,e,h.set_file hk h1 hz,?_⟩);rw[List.set_append_left _ _ hlt]
  ·refine .inr (.inl ⟨es0,bV e0.path zs,h,?_⟩)
   have hk2:k=es0.length:=by
    have:=(List.getElem?_eq_some_iff.1 hk).1;rw[List.length_append]at this;simp at this
    omega
   subst hk2;rw[List.set_append_right _ _ (Nat.le_refl _)];simp
 ·cases k with
  | zero=>exact .inr (.inr (.inl ⟨r0,bV e0.path zs,tl,h,rfl⟩))
  | succ k =>
   refine .inr (.inr (.inl ⟨r0,e,tl.set k (bV e0.path zs),?_,rfl⟩));have hk2:(r0 :: tl)[k+1]?=some e0:=by simpa using hk
   exact h.set_file hk2 h1 hz
 ·have:=List.mem_of_getElem? hk
  rw[(List.mem_replicate.1 this).2]at h1;exact absurd h1 (by decide)
theorem zl5 {p:Bs} {zs:List Int} (hz:zs.length≤24):(bV p zs).chunks.length≤3:=by
 unfold bV;simp only;rw[yA,gP];omega
def LyS (es:List En):Prop:=ShE es∧es.length≤13∧cG es
theorem LyS.set {es:List En} {k:Nat} {e0:En} {zs:List Int} (h:LyS es) (hk:es[k]?=some e0) (h1:e0.kind=1) (hz:zs.length≤24):LyS (es.set k (bV e0.path zs)):=by
 refine ⟨h.1.set hk h1 hz,by rw[List.length_set];exact h.2.1,fun x hx=>?_⟩
 rcases List.mem_or_eq_of_mem_set hx with hx | rfl
 ·exact h.2.2 x hx
 ·refine ⟨(h.2.2 e0 (List.mem_of_getElem? hk)).1,?_⟩
  have:=zl5 (p:=e0.path) hz;omega
theorem zuf {es:List En} (h:aV es):LyS es:=⟨.inl h,by have:=h.len;omega,cN h⟩
end Go.Proofs.YtgaeikgoknoamaaGreat
