/-
  Texts put together: SnpX SnpY.
-/
import Derived.Test.YtolnlfnndnpiiaaGreatKSnaps32
set_option linter.unusedVariables false
set_option maxHeartbeats 6400000
set_option maxRecDepth 100000
namespace Go.Proofs.YtolnlfnndnpiiaaGreat
open Go.RowKit Go.Maps
attribute [local go_sem ↓] Go.wp_at_zero Go.wp_at_succ
def Tri (w:World) (b:Nat) (u0 u1 u2:Value):Prop:=w.cell? ⟨b,0,none⟩=some u0∧w.cell? ⟨b,1,none⟩=some u1∧w.cell? ⟨b,2,none⟩=some u2
theorem Tri.of {w:World} {b:Nat} {u0 u1 u2:Value} (h:cC w b u0 u1 u2):Tri w b u0 u1 u2:=h.1
theorem Tri.lt {w:World} {b:Nat} {u0 u1 u2:Value} (h:Tri w b u0 u1 u2):b<w.heap.size:=World.block_lt_of_cell? w ⟨b,0,none⟩ h.1
theorem Tri.kept {S:Nat→Prop} {w w':World} {b:Nat} {u0 u1 u2:Value} (h:Tri w b u0 u1 u2) (hk:aD S w w') (hn:¬ S b):Tri w' b u0 u1 u2 :=
 ⟨(hk.cell (p:=⟨b,0,none⟩) h.lt hn).trans h.1,(hk.cell (p:=⟨b,1,none⟩) h.lt hn).trans h.2.1,(hk.cell (p:=⟨b,2,none⟩) h.lt hn).trans h.2.2⟩
theorem Tri.below {w w':World} {b:Nat} {u0 u1 u2:Value} (h:Tri w b u0 u1 u2) (hk:Below w.heap.size w w'):Tri w' b u0 u1 u2:=h.kept (S:=fun _=>False) (aD.of_below hk) id
theorem dE.set4 {w:World} {b:Nat} {u0 u1 u2 u3 u4:Value} (h:dE w b u0 u1 u2 u3 u4) (v:Value):dE (w.setCell ⟨b,4,none⟩ v) b u0 u1 u2 u3 v:=by
 have ne:∀ j:Nat,4≠j→(⟨b,4,none⟩:Addr)≠⟨b,j,none⟩:=fun j hij e=>hij (by injection e)
 obtain ⟨h0,h1,h2,h3,h4⟩:=h;exact ⟨(aM (ne 0 (by decide))).trans h0,(aM (ne 1 (by decide))).trans h1,(aM (ne 2 (by decide))).trans h2,(aM (ne 3 (by decide))).trans h3,dG h4⟩
theorem jB.kept {S:Nat→Prop} {w w':World} {b:Nat} {u0 u1 u2 u3 u4:Value} (h:jB w b u0 u1 u2 u3 u4) (hk:aD S w w') (hn:¬ S b):jB w' b u0 u1 u2 u3 u4 :=
 ⟨h.1.kept hk hn,fun i=>(hk.frozen (p:=⟨b,i,none⟩) h.1.lt hn).trans (h.2 i)⟩
def vX (w:World) (bl bn bk bi bp bd d:Nat) (a:Option Addr) (n c:Nat) (nm:Bs) (k:Int) (p:Bs) (da:Option Addr) (dn dc:Nat):Prop :=
 w.cell? ⟨bl,0,none⟩=some (.slice a n c)∧w.cell? ⟨bn,0,none⟩=some (.string (str nm))∧w.cell? ⟨bk,0,none⟩=some (.slice (some ⟨d,0,none⟩) 3 3)∧w.cell? ⟨bi,0,none⟩=some (.int .i64 k)∧w.cell? ⟨bp,0,none⟩=some (.string (str p))∧w.cell? ⟨bd,0,none⟩=some (.slice da dn dc) ∧
  w.cell? ⟨d,0,none⟩=some (.func (.func 63) #[] #[])∧w.cell? ⟨d,1,none⟩=some (.func (.func 64) #[] #[])∧w.cell? ⟨d,2,none⟩=some (.func (.func 66) #[] #[])
theorem vX.below {w w':World} {bl bn bk bi bp bd d:Nat} {a:Option Addr} {n c:Nat} {nm:Bs} {k:Int} {p:Bs} {da:Option Addr} {dn dc:Nat} (h:vX w bl bn bk bi bp bd d a n c nm k p da dn dc) (hb:Below w.heap.size w w'):vX w' bl bn bk bi bp bd d a n c nm k p da dn dc:=by
 have key:∀ {b o:Nat} {v:Value},w.cell? ⟨b,o,none⟩=some v→w'.cell? ⟨b,o,none⟩=some v:=fun {b o v} hv=>(hb.cell (p:=⟨b,o,none⟩) (World.block_lt_of_cell? w ⟨b,o,none⟩ hv)).trans hv
 obtain ⟨h1,h2,h3,h4,h5,h6,h7,h8,h9⟩:=h;exact ⟨key h1,key h2,key h3,key h4,key h5,key h6,key h7,key h8,key h9⟩
def vY (l:List Sn) (t:Sn) (p:Bs) (zs:List Int) (k:Int) (m:Sn) (rep:Int):Prop :=
 (t.kind=2∧rep=10)∨(t.kind≠2∧∃ q r V,pO (eE l t) t.layer p zs k q r V∧rep=orI q r∧m=⟨t.name,t.parent,t.kind,t.lease,V⟩)
theorem zs9 (kq:Int) (hkq:kq=1∨kq=2∨kq=3) (bl bn bk bi bp bd d:Nat) (a:Option Addr) (c0:Nat) (l:List Sn) (nm p:Bs) (da:Option Addr) (dc:Nat) (zs:List Int) (t:Sn) (W0:World) (hC:vX W0 bl bn bk bi bp bd d a l.length c0 nm kq p da zs.length dc) (h:RdS W0 a l) (hR:aW l) (hs:cD l) (ht:atS l nm=some t) (hpl:p.length≤1048576) (hd:aP .u8 W0 da zs) (hu8:U8 zs) (hdc:zs.length≤dc) (hdl:zs.length≤1048576) :
  zpc W0 29 #[.pointer (some ⟨bl,0,none⟩),.pointer (some ⟨bn,0,none⟩),.pointer (some ⟨bk,0,none⟩),.pointer (some ⟨bi,0,none⟩),.pointer (some ⟨bp,0,none⟩),.pointer (some ⟨bd,0,none⟩)] t (vY l t p zs kq):=by
 refine ⟨enters_of Tryz.func29 (by kernel_rfl) rfl,fun x c w hw hx=>?_⟩
 have htl:=hR.own t (bW ht).1;have hUr:=eX.1 htl.2.2;have hUl:t.layer.length≤1000000:=by have:=hUr.len;omega
 have HUs:=aA (cG hUr);have hll:(cX l t).length≤4:=qM hR (bW ht).1;have HSL:Hid (eJ (eE l t)):=aA (fun es he=>by
  have h9:=(dR.1 (zn1 hR (bW ht).1)).2 es (by rw[gT];exact List.mem_append_left _ he)
  exact ⟨by have:=h9.len;omega,cG h9⟩)
 have HX:=aA hx;have B0:=aA (aB (aC w (.cells #[.string (str t.name),.string (str t.parent),.int .i64 t.kind,.bool t.lease,.slice x t.layer.length c] 37)) (aC _ (.cells #[.string ⟨#[]⟩,.string ⟨#[]⟩,.int .i64 0,.bool false,.slice none 0 0] 37)));have X1:=aA ((jB.new w (.string (str t.name)) (.string (str t.parent)) (.int .i64 t.kind) (.bool t.lease) (.slice x t.layer.length c) 37).below (aC _ (.cells #[.string ⟨#[]⟩,.string ⟨#[]⟩,.int .i64 0,.bool false,.slice none 0 0] 37)));have X2:=aA (jB.new (w.alloc (.cells #[.string (str t.name),.string (str t.parent),.int .i64 t.kind,.bool t.lease,.slice x t.layer.length c] 37)) (.string ⟨#[]⟩) (.string ⟨#[]⟩) (.int .i64 0) (.bool false) (.slice none 0 0) 37)
 have HC:=aA (hC.below (aB hw (aB (aC w (.cells #[.string (str t.name),.string (str t.parent),.int .i64 t.kind,.bool t.lease,.slice x t.layer.length c] 37)) (aC _ (.cells #[.string ⟨#[]⟩,.string ⟨#[]⟩,.int .i64 0,.bool false,.slice none 0 0] 37)))));have HCH:=aA (fun (u:World) (hu:Below W0.heap.size W0 u)=>tS a c0 l.length l nm t u (h.below hu) rfl hR hs ht)
 rw[gT,List.length_append]at hll;have HLW:Hid (cX l t=eE l t ++ [t.layer]):=aA (gT l t);have HLL:=aA (show (cX l t).length=(eE l t).length+1 by rw[gT,List.length_append];rfl)
 have HD:=aA hd;have HU8z:=aA hu8;have HWW:=aA hw;show Calls Tryz.prog 29 #[.agg #[.string (str t.name),.string (str t.parent),.int .i64 t.kind,.bool t.lease,.slice x t.layer.length c],.pointer (some ⟨bl,0,none⟩),.pointer (some ⟨bn,0,none⟩),.pointer (some ⟨bk,0,none⟩),.pointer (some ⟨bi,0,none⟩),.pointer (some ⟨bp,0,none⟩),.pointer (some ⟨bd,0,none⟩)] w _
 simp only[World.size_alloc]at X2;simp only[List.length_singleton]at hll;have hsz0:((w.alloc (.cells #[.string (str t.name),.string (str t.parent),.int .i64 t.kind,.bool t.lease,.slice x t.layer.length c] 37)).alloc (.cells #[.string ⟨#[]⟩,.string ⟨#[]⟩,.int .i64 0,.bool false,.slice none 0 0] 37)).heap.size=w.heap.size+2:=by simp
 clear hC h hR hs ht hd hu8 hw hx hUr htl;by_cases hk:t.kind=2
 ·have hkb:(t.kind==2)=true:=by simp[hk]
  have HK:=aA hk;clear hk;go_enter Tryz.func29,Tryz.ntmps29;go_wp2_with fail
  refine bodyPost_ret (v:=.tuple #[.agg #[.string (str t.name),.string (str t.parent),.int .i64 t.kind,.bool t.lease,.slice x t.layer.length c],.int .i64 10]) (by simp[results,Tryz.results29,go_sem]) rfl ?_
  exact ⟨t,10,x,c,.inl ⟨HK.out,rfl⟩,rfl,HX.out.below (aB (aC _ _) (aC _ _)),aB (aC _ _) (aC _ _)⟩
 ·have hkb:(t.kind==2)=false:=by simp[hk]
  have HK:=aA hk;clear hk;have hfd:∀ (u:World) (v:Value),(Instr.field 33 (.agg #[.int .i64 0,v]) 1).run Tryz.prog u=.ok v u:=fun _ _=>by kernel_rfl
  obtain ⟨cc1,cc2,cc3,cc4,cc5,cc6,cc7,cc8,cc9⟩:=HC.out;go_enter Tryz.func29,Tryz.ntmps29;go_wp2_with fail
  clear cc1 cc2 cc3 cc4 cc5 cc6 cc7 cc8 cc9;generalize (w.alloc (.cells #[.string (str t.name),.string (str t.parent),.int .i64 t.kind,.bool t.lease,.slice x t.layer.length c] 37)).alloc (.cells #[.string ⟨#[]⟩,.string ⟨#[]⟩,.int .i64 0,.bool false,.slice none 0 0] 37)=W1 at *;refine (HCH.out _ (aB HWW.out B0.out)).mono ?_;rintro r w1 ⟨av,cv,rfl,hL,hcv,hb1⟩;have B1:=aA (aB B0.out hb1);have X11:=aA (X1.out.below hb1);have X21:=aA (X2.out.below hb1);have HC1:=aA (HC.out.below hb1);have hs1:=hb1.size;rw[HLW.out]at hL;have HL:=aA hL.front;rw[HLL.out]at hcv ⊢;clear hL hb1;go_wp2_with fail
  obtain ⟨g,fd,hg⟩:∃ g fd:Nat,(kq=1∧g=0∧fd=63)∨(kq=2∧g=1∧fd=64)∨(kq=3∧g=2∧fd=66):=by
   rcases hkq with h | h | h
   ·exact ⟨_,_,.inl ⟨h,rfl,rfl⟩⟩
   ·exact ⟨_,_,.inr (.inl ⟨h,rfl,rfl⟩)⟩
   ·exact ⟨_,_,.inr (.inr ⟨h,rfl,rfl⟩)⟩
  have HG:=aA hg;clear hg hkq;have eg:∀ args w,(callFunc fd args).run Tryz.prog w=.ok (.enter fd args) w:=by
   rcases HG.out with ⟨-,-,rfl⟩ | ⟨-,-,rfl⟩ | ⟨-,-,rfl⟩
   ·exact enters_of Tryz.func63 (by kernel_rfl) rfl
   ·exact enters_of Tryz.func64 (by kernel_rfl) rfl
   ·exact enters_of Tryz.func66 (by kernel_rfl) rfl
  have KC:Hid (∀ w':World,Below w1.heap.size w1 w'→vX w' bl bn bk bi bp bd d a l.length c0 nm kq p da zs.length dc∧dE w' w.heap.size (.string (str t.name)) (.string (str t.parent)) (.int .i64 t.kind) (.bool t.lease) (.slice x t.layer.length c)):=aA (fun w' hb=>⟨HC1.out.below hb,X11.out.1.below hb⟩)
  have HFR:Hid (∀ u:World,Below w1.heap.size w1 u→RdL u av (eE l t)):=aA (fun u hu=>HL.out.below hu)
  have HXB:Hid (∀ u:World,Below w1.heap.size w1 u→RdE u x t.layer):=aA (fun u hu=>HX.out.below (aB B1.out hu))
  have BB0:Hid (∀ {u:World},Below w1.heap.size w1 u→Below W0.heap.size W0 u):=aA (fun hu=>aB (aB HWW.out B1.out) hu)
  have HDE:Hid (∀ u:World,Below w1.heap.size w1 u→Calls Tryz.prog fd #[.slice av (eE l t).length cv,.slice x t.layer.length c,.string (str p),.slice da zs.length dc] u fun r w'=>∃ q rep V,pO (eE l t) t.layer p zs kq q rep V∧cY q rep V u r w'):=aA (fun u BD=>by
   have hll':(eE l t).length≤1000000:=by omega
   rcases HG.out with ⟨rfl,-,rfl⟩ | ⟨rfl,-,rfl⟩ | ⟨rfl,-,rfl⟩
   ·exact zad av cv _ (eE l t) x c t.layer.length t.layer p zs da zs.length dc _ (HFR.out _ BD) rfl hll' HSL.out (HXB.out _ BD) rfl hUl HUs.out hpl (HD.out.below (BB0.out BD)) rfl HU8z.out hdc hdl
   ·exact zbd av cv _ (eE l t) x c t.layer.length t.layer p zs _ _ (HFR.out _ BD) rfl hll' HSL.out (HXB.out _ BD) rfl hUl HUs.out hpl
   ·exact zcd av cv _ (eE l t) x c t.layer.length t.layer p zs _ _ (HFR.out _ BD) rfl hll' HSL.out (HXB.out _ BD) rfl hUl HUs.out hpl)
  have hcv':((eE l t).length:Int)≤(cv:Int):=by omega
  have hL0:(0:Int)≤((eE l t).length:Int):=by omega
  have hdr:w1.drew.heap.size=w1.heap.size:=rfl;refine wp_region_held_drew (S:=fun w'=>vX w' bl bn bk bi bp bd d a l.length c0 nm kq p da zs.length dc∧dE w' w.heap.size (.string (str t.name)) (.string (str t.parent)) (.int .i64 t.kind) (.bool t.lease) (.slice x t.layer.length c)) (by kernel_rfl) (KC.out _ (Below.refl _ _).drew) (fun hHeld=>?_)
  change wpAnyH _ _ _ _ _ _ (Array.replicate _ false) _ _;refine wpAnyH_take (i:=0) (oi:=⟨some 20,_,_,_,_,_⟩) (v:=.slice (some ⟨d,0,none⟩) 3 3) rfl (by kernel_rfl) (by kernel_rfl) (by kernel_rfl) (fun _ _ _ h=>h) (Or.inl ⟨by rfl,?_⟩) hHeld ?_
  ·rintro w ⟨⟨p1,p2,p3,p4,p5,p6,p7,p8,p9⟩,q0,q1,q2,q3,q4⟩
   go_simp
  try simp only[Act.put,zsE]
  refine wpAnyH_take (i:=1) (oi:=⟨some 21,_,_,_,_,_⟩) (v:=.int .i64 kq) rfl (by kernel_rfl) (by kernel_rfl) (by kernel_rfl) (fun _ _ _ h=>h) (Or.inl ⟨by rfl,?_⟩) hHeld ?_
  ·rintro w ⟨⟨p1,p2,p3,p4,p5,p6,p7,p8,p9⟩,q0,q1,q2,q3,q4⟩
   go_simp
  try simp only[Act.put,zsE]
  refine wpAnyH_take (i:=2) (oi:=⟨some 22,_,_,_,_,_⟩) (v:=.int .i64 (g:Nat)) rfl (by kernel_rfl) (by kernel_rfl) (by kernel_rfl) (fun _ _ _ h=>h) (Or.inl ⟨by rfl,?_⟩) hHeld ?_
  ·rintro w ⟨⟨p1,p2,p3,p4,p5,p6,p7,p8,p9⟩,q0,q1,q2,q3,q4⟩
   rcases HG.out with ⟨rfl,rfl,rfl⟩ | ⟨rfl,rfl,rfl⟩ | ⟨rfl,rfl,rfl⟩ <;> go_simp <;> (first | done | decide | (simp[IntKind.wrap,IntKind.bits,IntKind.signed];omega) | omega)
  try simp only[Act.put,zsE]
  refine wpAnyH_take (i:=3) (oi:=⟨some 23,_,_,_,_,_⟩) (v:=.pointer (some ⟨d,g,none⟩)) rfl (by kernel_rfl) (by kernel_rfl) (by kernel_rfl) (fun _ _ _ h=>h) (Or.inl ⟨by rfl,?_⟩) hHeld ?_
  ·rintro w ⟨⟨p1,p2,p3,p4,p5,p6,p7,p8,p9⟩,q0,q1,q2,q3,q4⟩
   rcases HG.out with ⟨rfl,rfl,rfl⟩ | ⟨rfl,rfl,rfl⟩ | ⟨rfl,rfl,rfl⟩ <;> go_simp <;> (first | done | decide | (simp[IntKind.wrap,IntKind.bits,IntKind.signed];omega) | omega)
  try simp only[Act.put,zsE]
  refine wpAnyH_take (i:=4) (oi:=⟨some 24,_,_,_,_,_⟩) (v:=.func (.func fd) #[] #[]) rfl (by kernel_rfl) (by kernel_rfl) (by kernel_rfl) (fun _ _ _ h=>h) (Or.inl ⟨by rfl,?_⟩) hHeld ?_
  ·rintro w ⟨⟨p1,p2,p3,p4,p5,p6,p7,p8,p9⟩,q0,q1,q2,q3,q4⟩
   rcases HG.out with ⟨rfl,rfl,rfl⟩ | ⟨rfl,rfl,rfl⟩ | ⟨rfl,rfl,rfl⟩ <;> go_simp <;> (first | done | decide | (simp[IntKind.wrap,IntKind.bits,IntKind.signed];omega) | omega)
  try simp only[Act.put,zsE]
  refine wpAnyH_take (i:=5) (oi:=⟨some 25,_,_,_,_,_⟩) (v:=.slice av ((eE l t).length+1) cv) rfl (by kernel_rfl) (by kernel_rfl) (by kernel_rfl) (fun _ _ _ h=>h) (Or.inl ⟨by rfl,?_⟩) hHeld ?_
  ·rintro w ⟨⟨p1,p2,p3,p4,p5,p6,p7,p8,p9⟩,q0,q1,q2,q3,q4⟩
   go_simp
  try simp only[Act.put,zsE]
  refine wpAnyH_take (i:=6) (oi:=⟨some 26,_,_,_,_,_⟩) (v:=.slice av ((eE l t).length+1) cv) rfl (by kernel_rfl) (by kernel_rfl) (by kernel_rfl) (fun _ _ _ h=>h) (Or.inl ⟨by rfl,?_⟩) hHeld ?_
  ·rintro w ⟨⟨p1,p2,p3,p4,p5,p6,p7,p8,p9⟩,q0,q1,q2,q3,q4⟩
   go_simp
  try simp only[Act.put,zsE]
  refine wpAnyH_take (i:=7) (oi:=⟨some 27,_,_,_,_,_⟩) (v:=.int .i64 ((eE l t).length+1:Nat)) rfl (by kernel_rfl) (by kernel_rfl) (by kernel_rfl) (fun _ _ _ h=>h) (Or.inl ⟨by rfl,?_⟩) hHeld ?_
  ·rintro w ⟨⟨p1,p2,p3,p4,p5,p6,p7,p8,p9⟩,q0,q1,q2,q3,q4⟩
   go_simp
  try simp only[Act.put,zsE]
  refine wpAnyH_take (i:=8) (oi:=⟨some 28,_,_,_,_,_⟩) (v:=.int .i64 ((eE l t).length:Nat)) rfl (by kernel_rfl) (by kernel_rfl) (by kernel_rfl) (fun _ _ _ h=>h) (Or.inl ⟨by rfl,?_⟩) hHeld ?_
  ·rintro w ⟨⟨p1,p2,p3,p4,p5,p6,p7,p8,p9⟩,q0,q1,q2,q3,q4⟩
   go_simp <;> (first | done | decide | (simp[IntKind.wrap,IntKind.bits,IntKind.signed];omega) | omega)
  try simp only[Act.put,zsE]
  refine wpAnyH_take (i:=9) (oi:=⟨some 29,_,_,_,_,_⟩) (v:=.slice av (eE l t).length cv) rfl (by kernel_rfl) (by kernel_rfl) (by kernel_rfl) (fun _ _ _ h=>h) (Or.inl ⟨by rfl,?_⟩) hHeld ?_
  ·rintro w ⟨⟨p1,p2,p3,p4,p5,p6,p7,p8,p9⟩,q0,q1,q2,q3,q4⟩
   go_simp <;> (first | done | omega | skip)
  try simp only[Act.put,zsE]
  refine wpAnyH_take (i:=10) (oi:=⟨some 30,_,_,_,_,_⟩) (v:=.pointer (some ⟨w.heap.size,4,none⟩)) rfl (by kernel_rfl) (by kernel_rfl) (by kernel_rfl) (fun _ _ _ h=>h) (Or.inl ⟨by rfl,?_⟩) hHeld ?_
  ·rintro w ⟨⟨p1,p2,p3,p4,p5,p6,p7,p8,p9⟩,q0,q1,q2,q3,q4⟩
   go_simp
  try simp only[Act.put,zsE]
  refine wpAnyH_take (i:=11) (oi:=⟨some 31,_,_,_,_,_⟩) (v:=.slice x t.layer.length c) rfl (by kernel_rfl) (by kernel_rfl) (by kernel_rfl) (fun _ _ _ h=>h) (Or.inl ⟨by rfl,?_⟩) hHeld ?_
  ·rintro w ⟨⟨p1,p2,p3,p4,p5,p6,p7,p8,p9⟩,q0,q1,q2,q3,q4⟩
   go_simp
  try simp only[Act.put,zsE]
  refine wpAnyH_take (i:=12) (oi:=⟨some 32,_,_,_,_,_⟩) (v:=.string (str p)) rfl (by kernel_rfl) (by kernel_rfl) (by kernel_rfl) (fun _ _ _ h=>h) (Or.inl ⟨by rfl,?_⟩) hHeld ?_
  ·rintro w ⟨⟨p1,p2,p3,p4,p5,p6,p7,p8,p9⟩,q0,q1,q2,q3,q4⟩
   go_simp
  try simp only[Act.put,zsE]
  refine wpAnyH_take (i:=13) (oi:=⟨some 33,_,_,_,_,_⟩) (v:=.slice da zs.length dc) rfl (by kernel_rfl) (by kernel_rfl) (by kernel_rfl) (fun _ _ _ h=>h) (Or.inl ⟨by rfl,?_⟩) hHeld ?_
  ·rintro w ⟨⟨p1,p2,p3,p4,p5,p6,p7,p8,p9⟩,q0,q1,q2,q3,q4⟩
   go_simp
  try simp only[Act.put,zsE]
  refine wpAnyH_ready (rs:=[14,15]) (by kernel_rfl) (by simp) ?_
  refine AllReadyH.cons rfl (fun K hK=>?_) (AllReadyH.cons rfl (fun K hK=>?_) AllReadyH.nil)
  ·have BD:Below w1.heap.size w1 w1.drew:=(Below.refl _ _).drew
   go_simp
   refine (HDE.out _ BD).mono ?_;rintro r w2 ⟨q,rep,V,hD,av2,cv2,rfl,hG,hb2⟩;have B2:=aA (aB BD hb2);have HDD:=aA hD;have G2:=aA hG;have hs2:=hb2.size;clear hD hG hb2;go_wp2_with fail
   refine hK.out _ _ (KC.out _ B2.out) (fun hHeld=>?_)
   clear hK K;try simp only[Act.put,zsE]
   refine wpAnyH_ready (rs:=[15]) (by kernel_rfl) (by simp) ?_
   refine AllReadyH.cons rfl (fun K hK=>?_) AllReadyH.nil
   go_simp
   refine hK.out _ _ (KC.out _ (aB B2.out (aC _ _))) (fun hHeld=>?_)
   clear hK K;try simp only[Act.put,zsE]
   refine wpAnyH_ready (rs:=[16]) (by kernel_rfl) (by simp) ?_
   refine AllReadyH.cons rfl (fun K hK=>?_) AllReadyH.nil
   go_simp
   refine hK.out _ _ (KC.out _ (aB B2.out (aC _ _))) (fun hHeld=>?_)
   clear hK K;try simp only[Act.put,zsE]
   have BU1:=aA (aB B2.out (aC w2 (.cells #[.int .i64 q,.int .i64 rep,.slice av2 V.length cv2] 64)));have HU7:=aA (X11.out.below BU1.out);have HU8:=aA (X21.out.below BU1.out);have HU11:Hid (Tri (w2.alloc (.cells #[.int .i64 q,.int .i64 rep,.slice av2 V.length cv2] 64)) w2.heap.size (.int .i64 q) (.int .i64 rep) (.slice av2 V.length cv2)):=aA ⟨by simp,by simp,by simp⟩
   have GU:=aA (G2.out.below (aC w2 (.cells #[.int .i64 q,.int .i64 rep,.slice av2 V.length cv2] 64)));have BU:=aA (aB B1.out BU1.out);have hsU:w2.heap.size<(w2.alloc (.cells #[.int .i64 q,.int .i64 rep,.slice av2 V.length cv2] 64)).heap.size:=by simp
   generalize w2.alloc (.cells #[.int .i64 q,.int .i64 rep,.slice av2 V.length cv2] 64)=U at *;refine wpAnyH_done (by kernel_rfl) ?_ _
   obtain ⟨u0,u1,u2⟩:=HU11.out;obtain ⟨⟨e0,e1,e2,e3,e4⟩,ef⟩:=HU7.out;have ef4:=ef 4;have hB11:w.heap.size≠w2.heap.size:=by omega
   clear ef;go_wp2_with fail
   have KS:=aA (aD.setCell (S:=fun b=>b=w.heap.size) (p:=⟨w.heap.size,4,none⟩) (aD.refl _ (U)) (fun _=>rfl) (.slice av2 V.length cv2))
   have Y7:Hid (dE ((U).setCell ⟨w.heap.size,4,none⟩ (.slice av2 V.length cv2)) w.heap.size (.string (str t.name)) (.string (str t.parent)) (.int .i64 t.kind) (.bool t.lease) (.slice av2 V.length cv2)):=aA (dE.set4 HU7.out.1 _);have Y8:=aA (HU8.out.kept KS.out (by omega))
   have Y11:Hid (Tri ((U).setCell ⟨w.heap.size,4,none⟩ (.slice av2 V.length cv2)) w2.heap.size (.int .i64 q) (.int .i64 rep) (.slice av2 V.length cv2)):=aA (HU11.out.kept KS.out (fun e=>hB11 e.symm))
   have GY:=aA (GU.out.kept KS.out (fun b hb e=>by omega))
   have BY:=aA (BU.out.setCell (p:=⟨w.heap.size,4,none⟩) (Nat.le_refl _) (.slice av2 V.length cv2));have hsY:=KS.out.size;clear u0 u1 u2 e0 e1 e2 e3 e4 ef4 KS;generalize (U).setCell ⟨w.heap.size,4,none⟩ (.slice av2 V.length cv2)=Y at *;have KD:Hid (∀ w':World,Below Y.heap.size Y w'→dE w' w.heap.size (.string (str t.name)) (.string (str t.parent)) (.int .i64 t.kind) (.bool t.lease) (.slice av2 V.length cv2)∧Tri w' w2.heap.size (.int .i64 q) (.int .i64 rep) (.slice av2 V.length cv2)):=aA (fun w' hb=>⟨Y7.out.below hb,Y11.out.below hb⟩)
   refine wp_region_held_drew (S:=fun w'=>dE w' w.heap.size (.string (str t.name)) (.string (str t.parent)) (.int .i64 t.kind) (.bool t.lease) (.slice av2 V.length cv2)∧Tri w' w2.heap.size (.int .i64 q) (.int .i64 rep) (.slice av2 V.length cv2)) (by kernel_rfl) (KD.out _ (Below.refl _ _).drew) (fun hHeld=>?_)
   change wpAnyH _ _ _ _ _ _ (Array.replicate _ false) _ _;refine wpAnyH_take (i:=0) (oi:=⟨some 38,_,_,_,_,_⟩) (v:=.agg #[.string (str t.name),.string (str t.parent),.int .i64 t.kind,.bool t.lease,.slice av2 V.length cv2]) rfl (by kernel_rfl) (by kernel_rfl) (by kernel_rfl) (fun _ _ _ h=>h) (Or.inl ⟨by rfl,?_⟩) hHeld ?_
   ·rintro w ⟨⟨q0,q1,q2,q3,q4⟩,p1,p2,p3⟩
    go_simp
   try simp only[Act.put,zsE]
   refine wpAnyH_take (i:=1) (oi:=⟨some 39,_,_,_,_,_⟩) (v:=.pointer (some ⟨w2.heap.size,0,none⟩)) rfl (by kernel_rfl) (by kernel_rfl) (by kernel_rfl) (fun _ _ _ h=>h) (Or.inl ⟨by rfl,?_⟩) hHeld ?_
   ·rintro w ⟨⟨q0,q1,q2,q3,q4⟩,p1,p2,p3⟩
    go_simp
   try simp only[Act.put,zsE]
   refine wpAnyH_take (i:=2) (oi:=⟨some 40,_,_,_,_,_⟩) (v:=.int .i64 q) rfl (by kernel_rfl) (by kernel_rfl) (by kernel_rfl) (fun _ _ _ h=>h) (Or.inl ⟨by rfl,?_⟩) hHeld ?_
   ·rintro w ⟨⟨q0,q1,q2,q3,q4⟩,p1,p2,p3⟩
    go_simp
   try simp only[Act.put,zsE]
   refine wpAnyH_take (i:=3) (oi:=⟨some 41,_,_,_,_,_⟩) (v:=.pointer (some ⟨w2.heap.size,1,none⟩)) rfl (by kernel_rfl) (by kernel_rfl) (by kernel_rfl) (fun _ _ _ h=>h) (Or.inl ⟨by rfl,?_⟩) hHeld ?_
   ·rintro w ⟨⟨q0,q1,q2,q3,q4⟩,p1,p2,p3⟩
    go_simp
   try simp only[Act.put,zsE]
   refine wpAnyH_take (i:=4) (oi:=⟨some 42,_,_,_,_,_⟩) (v:=.int .i64 rep) rfl (by kernel_rfl) (by kernel_rfl) (by kernel_rfl) (fun _ _ _ h=>h) (Or.inl ⟨by rfl,?_⟩) hHeld ?_
   ·rintro w ⟨⟨q0,q1,q2,q3,q4⟩,p1,p2,p3⟩
    go_simp
   try simp only[Act.put,zsE]
   refine wpAnyH_ready (rs:=[5]) (by kernel_rfl) (by simp) ?_
   refine AllReadyH.cons rfl (fun K hK=>?_) AllReadyH.nil
   have BN:Hid (Below Y.heap.size Y (Y.alloc (.cells #[.int .i64 q,.int .i64 rep] 2)).drew):=aA ((aC Y _).drew);have N0:Hid (Two (Y.alloc (.cells #[.int .i64 q,.int .i64 rep] 2)).drew Y.heap.size (.int .i64 q) (.int .i64 rep)):=aA (Two.new Y (.int .i64 q) (.int .i64 rep) 2);go_simp
   refine hK.out _ _ (KD.out _ BN.out) (fun hHeld=>?_)
   clear hK K;try simp only[Act.put,zsE]
   refine wpAnyH_ready (rs:=[6]) (by kernel_rfl) (by simp) ?_
   refine AllReadyH.cons rfl (fun K hK=>?_) AllReadyH.nil
   go_simp
   refine (zth _ q rep _ N0.out.1 N0.out.2).mono ?_;rintro r w9 ⟨rfl,rfl⟩;go_wp2_with fail
   refine hK.out _ _ (KD.out _ BN.out) (fun hHeld=>?_)
   clear hK K;try simp only[Act.put,zsE]
   have Y82:=aA (Y8.out.below BN.out);have GY2:=aA (GY.out.below BN.out);have BY2:Hid (Below w.heap.size w (Y.alloc (.cells #[.int .i64 q,.int .i64 rep] 2)).drew):=aA (BY.out.trans (BN.out.mono (by have:=BY.out.size;omega)))
   have KDD:=aA (KD.out _ BN.out);clear N0 BN KD;generalize (Y.alloc (.cells #[.int .i64 q,.int .i64 rep] 2)).drew=Y2 at *;obtain ⟨⟨t0,t1,t2,t3,t4⟩,tf⟩:=Y82.out;have tf0:=tf 0;have tf1:=tf 1;have tf2:=tf 2;have tf3:=tf 3;have tf4:=tf 4;clear tf;refine wpAnyH_ready (rs:=[7]) (by kernel_rfl) (by simp) ?_
   refine AllReadyH.cons rfl (fun K hK=>?_) AllReadyH.nil
   go_simp
   have K5:=aA (aD.five Y2 (w.heap.size+1) (.string (str t.name)) (.string (str t.parent)) (.int .i64 t.kind) (.bool t.lease) (.slice av2 V.length cv2));refine hK.out _ _ ⟨KDD.out.1.kept K5.out (by omega),KDD.out.2.kept K5.out (by omega)⟩ (fun hHeld=>?_)
   clear hK K;try simp only[Act.put,zsE]
   refine wpAnyH_ready (rs:=[8]) (by kernel_rfl) (by simp) ?_
   refine AllReadyH.cons rfl (fun K hK=>?_) AllReadyH.nil
   go_simp
   refine hK.out _ _ ⟨KDD.out.1.kept K5.out (by omega),KDD.out.2.kept K5.out (by omega)⟩ (fun hHeld=>?_)
   clear hK K;try simp only[Act.put,zsE]
   refine wpAnyH_done (by kernel_rfl) ?_ _
   have Z5:=aA (Y82.out.set (.string (str t.name)) (.string (str t.parent)) (.int .i64 t.kind) (.bool t.lease) (.slice av2 V.length cv2));have GZ:=aA (GY2.out.kept K5.out (fun b hb e=>by omega))
   have BZ:=aA (Below.five BY2.out (show w.heap.size≤w.heap.size+1 by omega) (.string (str t.name)) (.string (str t.parent)) (.int .i64 t.kind) (.bool t.lease) (.slice av2 V.length cv2))
   clear t0 t1 t2 t3 t4 tf0 tf1 tf2 tf3 tf4;generalize ((((Y2.setCell ⟨w.heap.size+1,0,none⟩ (.string (str t.name))).setCell ⟨w.heap.size+1,1,none⟩ (.string (str t.parent))).setCell ⟨w.heap.size+1,2,none⟩ (.int .i64 t.kind)).setCell ⟨w.heap.size+1,3,none⟩ (.bool t.lease)).setCell ⟨w.heap.size+1,4,none⟩ (.slice av2 V.length cv2)=Z at *;obtain ⟨⟨t0,t1,t2,t3,t4⟩,tf⟩:=Z5.out;go_wp2_with fail
   refine bodyPost_ret (v:=.tuple #[.agg #[.string (str t.name),.string (str t.parent),.int .i64 t.kind,.bool t.lease,.slice av2 V.length cv2],.int .i64 (orI q rep)]) (by simp[results,Tryz.results29,go_sem,t0,t1,t2,t3,t4]) rfl ?_
   exact ⟨⟨t.name,t.parent,t.kind,t.lease,V⟩,orI q rep,av2,cv2,.inr ⟨HK.out,q,rep,V,HDD.out,rfl,rfl⟩,rfl,GZ.out.rd,BZ.out⟩
  ·have BD0:Below w1.heap.size w1 ((w1.alloc (.cells #[.int .i64 0,.int .i64 0,.slice none 0 0] 64)).drew):=(aC w1 _).drew
   have Z0:Hid (cC ((w1.alloc (.cells #[.int .i64 0,.int .i64 0,.slice none 0 0] 64)).drew) w1.heap.size (.int .i64 0) (.int .i64 0) (.slice none 0 0)):=aA (cC.new w1 _ _ _ _);go_simp
   refine hK.out _ _ (KC.out _ BD0) (fun hHeld=>?_)
   clear hK K;try simp only[Act.put,zsE]
   refine wpAnyH_ready (rs:=[14]) (by kernel_rfl) (by simp) ?_
   refine AllReadyH.cons rfl (fun K hK=>?_) AllReadyH.nil
   go_simp
   have BD:=BD0;have hsZ:((w1.alloc (.cells #[.int .i64 0,.int .i64 0,.slice none 0 0] 64)).drew).heap.size=w1.heap.size+1:=by show (w1.alloc _).heap.size=_;rw[World.size_alloc]
   generalize (w1.alloc (.cells #[.int .i64 0,.int .i64 0,.slice none 0 0] 64)).drew=WZ at *;refine (HDE.out _ BD).mono ?_;rintro r w2 ⟨q,rep,V,hD,av2,cv2,rfl,hG,hb2⟩;have B2:=aA (aB BD hb2);have HDD:=aA hD;have G2:=aA hG;have hs2:=hb2.size;have Z2:=aA (Z0.out.below hb2);obtain ⟨⟨z0,z1,z2⟩,z3,z4,z5⟩:=Z2.out;clear hD hG hb2;go_wp2_with fail
   refine hK.out _ _ (KC.out _ B2.out) (fun hHeld=>?_)
   clear hK K;try simp only[Act.put,zsE]
   refine wpAnyH_ready (rs:=[16]) (by kernel_rfl) (by simp) ?_
   refine AllReadyH.cons rfl (fun K hK=>?_) AllReadyH.nil
   go_simp
   have KT:=aA (aD.three' w2 w1.heap.size (.int .i64 q) (.int .i64 rep) (.slice av2 V.length cv2));have HU11:=aA (Tri.of (Z2.out.set (.int .i64 q) (.int .i64 rep) (.slice av2 V.length cv2)));have HU7:=aA ((X11.out.below B2.out).kept KT.out (by omega))
   have HU8:=aA ((X21.out.below B2.out).kept KT.out (by omega))
   have BB:=aA (KT.out.below (B:=w1.heap.size) (by omega) (fun k hk e=>by omega))
   refine hK.out _ _ (KC.out _ (B2.out.trans BB.out)) (fun hHeld=>?_)
   clear hK K;try simp only[Act.put,zsE]
   have GU:=aA (G2.out.kept KT.out (fun b hb e=>by omega))
   have BU:=aA (aB B1.out (B2.out.trans BB.out));have hsU:=KT.out.size;clear z0 z1 z2 z3 z4 z5;generalize ((w2.setCell ⟨w1.heap.size,0,none⟩ (.int .i64 q)).setCell ⟨w1.heap.size,1,none⟩ (.int .i64 rep)).setCell ⟨w1.heap.size,2,none⟩ (.slice av2 V.length cv2)=U at *;refine wpAnyH_done (by kernel_rfl) ?_ _
   obtain ⟨u0,u1,u2⟩:=HU11.out;obtain ⟨⟨e0,e1,e2,e3,e4⟩,ef⟩:=HU7.out;have ef4:=ef 4;have hB11:w.heap.size≠w1.heap.size:=by omega
   clear ef;go_wp2_with fail
   have KS:=aA (aD.setCell (S:=fun b=>b=w.heap.size) (p:=⟨w.heap.size,4,none⟩) (aD.refl _ (U)) (fun _=>rfl) (.slice av2 V.length cv2))
   have Y7:Hid (dE ((U).setCell ⟨w.heap.size,4,none⟩ (.slice av2 V.length cv2)) w.heap.size (.string (str t.name)) (.string (str t.parent)) (.int .i64 t.kind) (.bool t.lease) (.slice av2 V.length cv2)):=aA (dE.set4 HU7.out.1 _);have Y8:=aA (HU8.out.kept KS.out (by omega))
   have Y11:Hid (Tri ((U).setCell ⟨w.heap.size,4,none⟩ (.slice av2 V.length cv2)) w1.heap.size (.int .i64 q) (.int .i64 rep) (.slice av2 V.length cv2)):=aA (HU11.out.kept KS.out (fun e=>hB11 e.symm))
   have GY:=aA (GU.out.kept KS.out (fun b hb e=>by omega))
   have BY:=aA (BU.out.setCell (p:=⟨w.heap.size,4,none⟩) (Nat.le_refl _) (.slice av2 V.length cv2));have hsY:=KS.out.size;clear u0 u1 u2 e0 e1 e2 e3 e4 ef4 KS;generalize (U).setCell ⟨w.heap.size,4,none⟩ (.slice av2 V.length cv2)=Y at *;have KD:Hid (∀ w':World,Below Y.heap.size Y w'→dE w' w.heap.size (.string (str t.name)) (.string (str t.parent)) (.int .i64 t.kind) (.bool t.lease) (.slice av2 V.length cv2)∧Tri w' w1.heap.size (.int .i64 q) (.int .i64 rep) (.slice av2 V.length cv2)):=aA (fun w' hb=>⟨Y7.out.below hb,Y11.out.below hb⟩)
   refine wp_region_held_drew (S:=fun w'=>dE w' w.heap.size (.string (str t.name)) (.string (str t.parent)) (.int .i64 t.kind) (.bool t.lease) (.slice av2 V.length cv2)∧Tri w' w1.heap.size (.int .i64 q) (.int .i64 rep) (.slice av2 V.length cv2)) (by kernel_rfl) (KD.out _ (Below.refl _ _).drew) (fun hHeld=>?_)
   change wpAnyH _ _ _ _ _ _ (Array.replicate _ false) _ _;refine wpAnyH_take (i:=0) (oi:=⟨some 38,_,_,_,_,_⟩) (v:=.agg #[.string (str t.name),.string (str t.parent),.int .i64 t.kind,.bool t.lease,.slice av2 V.length cv2]) rfl (by kernel_rfl) (by kernel_rfl) (by kernel_rfl) (fun _ _ _ h=>h) (Or.inl ⟨by rfl,?_⟩) hHeld ?_
   ·rintro w ⟨⟨q0,q1,q2,q3,q4⟩,p1,p2,p3⟩
    go_simp
   try simp only[Act.put,zsE]
   refine wpAnyH_take (i:=1) (oi:=⟨some 39,_,_,_,_,_⟩) (v:=.pointer (some ⟨w1.heap.size,0,none⟩)) rfl (by kernel_rfl) (by kernel_rfl) (by kernel_rfl) (fun _ _ _ h=>h) (Or.inl ⟨by rfl,?_⟩) hHeld ?_
   ·rintro w ⟨⟨q0,q1,q2,q3,q4⟩,p1,p2,p3⟩
    go_simp
   try simp only[Act.put,zsE]
   refine wpAnyH_take (i:=2) (oi:=⟨some 40,_,_,_,_,_⟩) (v:=.int .i64 q) rfl (by kernel_rfl) (by kernel_rfl) (by kernel_rfl) (fun _ _ _ h=>h) (Or.inl ⟨by rfl,?_⟩) hHeld ?_
   ·rintro w ⟨⟨q0,q1,q2,q3,q4⟩,p1,p2,p3⟩
    go_simp
   try simp only[Act.put,zsE]
   refine wpAnyH_take (i:=3) (oi:=⟨some 41,_,_,_,_,_⟩) (v:=.pointer (some ⟨w1.heap.size,1,none⟩)) rfl (by kernel_rfl) (by kernel_rfl) (by kernel_rfl) (fun _ _ _ h=>h) (Or.inl ⟨by rfl,?_⟩) hHeld ?_
   ·rintro w ⟨⟨q0,q1,q2,q3,q4⟩,p1,p2,p3⟩
    go_simp
   try simp only[Act.put,zsE]
   refine wpAnyH_take (i:=4) (oi:=⟨some 42,_,_,_,_,_⟩) (v:=.int .i64 rep) rfl (by kernel_rfl) (by kernel_rfl) (by kernel_rfl) (fun _ _ _ h=>h) (Or.inl ⟨by rfl,?_⟩) hHeld ?_
   ·rintro w ⟨⟨q0,q1,q2,q3,q4⟩,p1,p2,p3⟩
    go_simp
   try simp only[Act.put,zsE]
   refine wpAnyH_ready (rs:=[5]) (by kernel_rfl) (by simp) ?_
   refine AllReadyH.cons rfl (fun K hK=>?_) AllReadyH.nil
   have BN:Hid (Below Y.heap.size Y (Y.alloc (.cells #[.int .i64 q,.int .i64 rep] 2)).drew):=aA ((aC Y _).drew);have N0:Hid (Two (Y.alloc (.cells #[.int .i64 q,.int .i64 rep] 2)).drew Y.heap.size (.int .i64 q) (.int .i64 rep)):=aA (Two.new Y (.int .i64 q) (.int .i64 rep) 2);go_simp
   refine hK.out _ _ (KD.out _ BN.out) (fun hHeld=>?_)
   clear hK K;try simp only[Act.put,zsE]
   refine wpAnyH_ready (rs:=[6]) (by kernel_rfl) (by simp) ?_
   refine AllReadyH.cons rfl (fun K hK=>?_) AllReadyH.nil
   go_simp
   refine (zth _ q rep _ N0.out.1 N0.out.2).mono ?_;rintro r w9 ⟨rfl,rfl⟩;go_wp2_with fail
   refine hK.out _ _ (KD.out _ BN.out) (fun hHeld=>?_)
   clear hK K;try simp only[Act.put,zsE]
   have Y82:=aA (Y8.out.below BN.out);have GY2:=aA (GY.out.below BN.out);have BY2:Hid (Below w.heap.size w (Y.alloc (.cells #[.int .i64 q,.int .i64 rep] 2)).drew):=aA (BY.out.trans (BN.out.mono (by have:=BY.out.size;omega)))
   have KDD:=aA (KD.out _ BN.out);clear N0 BN KD;generalize (Y.alloc (.cells #[.int .i64 q,.int .i64 rep] 2)).drew=Y2 at *;obtain ⟨⟨t0,t1,t2,t3,t4⟩,tf⟩:=Y82.out;have tf0:=tf 0;have tf1:=tf 1;have tf2:=tf 2;have tf3:=tf 3;have tf4:=tf 4;clear tf;refine wpAnyH_ready (rs:=[7]) (by kernel_rfl) (by simp) ?_
   refine AllReadyH.cons rfl (fun K hK=>?_) AllReadyH.nil
   go_simp
   have K5:=aA (aD.five Y2 (w.heap.size+1) (.string (str t.name)) (.string (str t.parent)) (.int .i64 t.kind) (.bool t.lease) (.slice av2 V.length cv2));refine hK.out _ _ ⟨KDD.out.1.kept K5.out (by omega),KDD.out.2.kept K5.out (by omega)⟩ (fun hHeld=>?_)
   clear hK K;try simp only[Act.put,zsE]
   refine wpAnyH_ready (rs:=[8]) (by kernel_rfl) (by simp) ?_
   refine AllReadyH.cons rfl (fun K hK=>?_) AllReadyH.nil
   go_simp
   refine hK.out _ _ ⟨KDD.out.1.kept K5.out (by omega),KDD.out.2.kept K5.out (by omega)⟩ (fun hHeld=>?_)
   clear hK K;try simp only[Act.put,zsE]
   refine wpAnyH_done (by kernel_rfl) ?_ _
   have Z5:=aA (Y82.out.set (.string (str t.name)) (.string (str t.parent)) (.int .i64 t.kind) (.bool t.lease) (.slice av2 V.length cv2));have GZ:=aA (GY2.out.kept K5.out (fun b hb e=>by omega))
   have BZ:=aA (Below.five BY2.out (show w.heap.size≤w.heap.size+1 by omega) (.string (str t.name)) (.string (str t.parent)) (.int .i64 t.kind) (.bool t.lease) (.slice av2 V.length cv2))
   clear t0 t1 t2 t3 t4 tf0 tf1 tf2 tf3 tf4;generalize ((((Y2.setCell ⟨w.heap.size+1,0,none⟩ (.string (str t.name))).setCell ⟨w.heap.size+1,1,none⟩ (.string (str t.parent))).setCell ⟨w.heap.size+1,2,none⟩ (.int .i64 t.kind)).setCell ⟨w.heap.size+1,3,none⟩ (.bool t.lease)).setCell ⟨w.heap.size+1,4,none⟩ (.slice av2 V.length cv2)=Z at *;obtain ⟨⟨t0,t1,t2,t3,t4⟩,tf⟩:=Z5.out;go_wp2_with fail
   refine bodyPost_ret (v:=.tuple #[.agg #[.string (str t.name),.string (str t.parent),.int .i64 t.kind,.bool t.lease,.slice av2 V.length cv2],.int .i64 (orI q rep)]) (by simp[results,Tryz.results29,go_sem,t0,t1,t2,t3,t4]) rfl ?_
   exact ⟨⟨t.name,t.parent,t.kind,t.lease,V⟩,orI q rep,av2,cv2,.inr ⟨HK.out,q,rep,V,HDD.out,rfl,rfl⟩,rfl,GZ.out.rd,BZ.out⟩
theorem zr2 {l:List Sn} {t m:Sn} {p:Bs} {zs:List Int} {k:Int} (hk:k=1∨k=2∨k=3) (h:vY l t p zs k m 0):t.kind≠2∧∃ V,aU V∧m=⟨t.name,t.parent,t.kind,t.lease,V⟩:=by
 rcases h with ⟨-,h9⟩ | ⟨h1,q,r,V,hd,ho,rfl⟩
 ·exact absurd h9 (by decide)
 ·obtain ⟨rfl,rfl⟩:=zqk ho.symm
  exact ⟨h1,V,zzc (by omega) hd,rfl⟩
theorem rL (a:Option Addr) (c n:Nat) (l:List Sn) (nm p:Bs) (da:Option Addr) (dn dc:Nat) (zs:List Int) (k:Int) (t:Sn) (w:World) (h:RdS w a l) (hn:n=l.length) (hR:aW l) (hs:cD l) (hk:k=1∨k=2∨k=3) (ht:atS l nm=some t) (hpl:p.length≤1048576) (hd:aP .u8 w da zs) (hdn:dn=zs.length) (hu8:U8 zs) (hdc:zs.length≤dc) (hdl:zs.length≤1048576) :
  Calls Tryz.prog 7 #[.slice a n c,.string (str nm),.string (str p),.slice da dn dc,.int .i64 k] w fun r w'=>∃ m rep,vY l t p zs k m rep∧iA 0 rep (aft rep l (bO l m)) w r w':=by
 have hmf:∀ (fn:Fn) (first cap:Array Value) (w:World),(Instr.makeFunc fn first cap).run Tryz.prog w=.ok (.func fn first cap) w:=fun _ _ _ _=>rfl
 subst hn;subst hdn;have hl:=hR.len;have B0:Hid (Below w.heap.size w ((((((w.alloc (.cells #[.slice a l.length c] 24)).alloc (.cells #[.string (str nm)] 9)).alloc (.cells #[.string (str p)] 9)).alloc (.cells #[.slice da zs.length dc] 22)).alloc (.cells #[.int .i64 k] 2)).alloc (.cells #[.int .i64 0,.int .i64 0,.slice none 0 0] 28))):=aA ((((((((Below.refl w.heap.size w).alloc (Nat.le_refl _) _).alloc (by simp) _).alloc (by simp;omega) _).alloc (by simp;omega) _).alloc (by simp;omega) _).alloc (by simp;omega) _))
 have X0:Hid (cC ((((((w.alloc (.cells #[.slice a l.length c] 24)).alloc (.cells #[.string (str nm)] 9)).alloc (.cells #[.string (str p)] 9)).alloc (.cells #[.slice da zs.length dc] 22)).alloc (.cells #[.int .i64 k] 2)).alloc (.cells #[.int .i64 0,.int .i64 0,.slice none 0 0] 28)) (w.heap.size+5) (.int .i64 0) (.int .i64 0) (.slice none 0 0)):=aA (by
  have h9:=cC.new ((((((w.alloc (.cells #[.slice a l.length c] 24)).alloc (.cells #[.string (str nm)] 9)).alloc (.cells #[.string (str p)] 9)).alloc (.cells #[.slice da zs.length dc] 22)).alloc (.cells #[.int .i64 k] 2))) (.int .i64 0) (.int .i64 0) (.slice none 0 0) 28;simp only[World.size_alloc]at h9;exact h9)
 have HCELL:Hid (((((((w.alloc (.cells #[.slice a l.length c] 24)).alloc (.cells #[.string (str nm)] 9)).alloc (.cells #[.string (str p)] 9)).alloc (.cells #[.slice da zs.length dc] 22)).alloc (.cells #[.int .i64 k] 2)).alloc (.cells #[.int .i64 0,.int .i64 0,.slice none 0 0] 28)).cell? ⟨w.heap.size,0,none⟩=some (.slice a l.length c)∧((((((w.alloc (.cells #[.slice a l.length c] 24)).alloc (.cells #[.string (str nm)] 9)).alloc (.cells #[.string (str p)] 9)).alloc (.cells #[.slice da zs.length dc] 22)).alloc (.cells #[.int .i64 k] 2)).alloc (.cells #[.int .i64 0,.int .i64 0,.slice none 0 0] 28)).cell? ⟨w.heap.size+1,0,none⟩=some (.string (str nm))∧((((((w.alloc (.cells #[.slice a l.length c] 24)).alloc (.cells #[.string (str nm)] 9)).alloc (.cells #[.string (str p)] 9)).alloc (.cells #[.slice da zs.length dc] 22)).alloc (.cells #[.int .i64 k] 2)).alloc (.cells #[.int .i64 0,.int .i64 0,.slice none 0 0] 28)).cell? ⟨w.heap.size+2,0,none⟩=some (.string (str p))∧((((((w.alloc (.cells #[.slice a l.length c] 24)).alloc (.cells #[.string (str nm)] 9)).alloc (.cells #[.string (str p)] 9)).alloc (.cells #[.slice da zs.length dc] 22)).alloc (.cells #[.int .i64 k] 2)).alloc (.cells #[.int .i64 0,.int .i64 0,.slice none 0 0] 28)).cell? ⟨w.heap.size+3,0,none⟩=some (.slice da zs.length dc)∧((((((w.alloc (.cells #[.slice a l.length c] 24)).alloc (.cells #[.string (str nm)] 9)).alloc (.cells #[.string (str p)] 9)).alloc (.cells #[.slice da zs.length dc] 22)).alloc (.cells #[.int .i64 k] 2)).alloc (.cells #[.int .i64 0,.int .i64 0,.slice none 0 0] 28)).cell? ⟨w.heap.size+4,0,none⟩=some (.int .i64 k)):=aA (by refine ⟨?_,?_,?_,?_,?_⟩ <;> (first | (go_simp;done) | (simp[go_sem];done) | (simp[World.cell?,World.alloc];done)))
 have HSF:=aA (fun (u:World) (hu:Below w.heap.size w u)=>eA a c l.length l u (h.below hu) rfl (by omega) hs)
 rw[kH.2 hR]at HSF;have HRd:=aA h;have HRS:=aA hR;have HSM:=aA hs;have HT:=aA ht;have HKK:=aA hk;have HD:=aA hd;have HU8:=aA hu8;have HTP:=aA (show ∀ m,vY l t p zs k m 0→m.name=t.name∧m.parent=t.parent∧cD (bO l m) from fun m hm=>by
  obtain ⟨-,V,hV,rfl⟩:=zr2 hk hm;have h9:=hs.2 t (bW ht).1;exact ⟨rfl,rfl,zi5 hs (by omega) ⟨h9.1,h9.2.1,by show V.length≤_;have:=hV.len;omega,cG hV⟩⟩)
 have hk1:¬ k<1:=by omega
 have hk3:¬ (3:Int)<k:=by omega
 clear h hR hs ht hd hu8 hk;go_enter Tryz.func7,Tryz.ntmps7;obtain ⟨c0,c1,c2,c3,c4⟩:=HCELL.out;go_wp2_with fail
 have hsz0:((((((w.alloc (.cells #[.slice a l.length c] 24)).alloc (.cells #[.string (str nm)] 9)).alloc (.cells #[.string (str p)] 9)).alloc (.cells #[.slice da zs.length dc] 22)).alloc (.cells #[.int .i64 k] 2)).alloc (.cells #[.int .i64 0,.int .i64 0,.slice none 0 0] 28)).heap.size=w.heap.size+6:=by simp
 clear c0 c1 c2 c3 c4;generalize (((((w.alloc (.cells #[.slice a l.length c] 24)).alloc (.cells #[.string (str nm)] 9)).alloc (.cells #[.string (str p)] 9)).alloc (.cells #[.slice da zs.length dc] 22)).alloc (.cells #[.int .i64 k] 2)).alloc (.cells #[.int .i64 0,.int .i64 0,.slice none 0 0] 28)=W0 at *;refine (HSF.out _ B0.out).mono ?_;rintro r w1 ⟨rfl,hb1⟩;have B1:=aA (aB B0.out hb1);have X1:=aA (X0.out.below hb1);have hs1:=hb1.size;have key:∀ {b o:Nat} {v:Value},W0.cell? ⟨b,o,none⟩=some v→w1.cell? ⟨b,o,none⟩=some v:=fun {b o v} hv=>(hb1.cell (p:=⟨b,o,none⟩) (World.block_lt_of_cell? W0 ⟨b,o,none⟩ hv)).trans hv
 obtain ⟨c0,c1,c2,c3,c4⟩:=HCELL.out;have C1:=aA (show w1.cell? ⟨w.heap.size,0,none⟩=some (.slice a l.length c)∧w1.cell? ⟨w.heap.size+1,0,none⟩=some (.string (str nm))∧w1.cell? ⟨w.heap.size+2,0,none⟩=some (.string (str p))∧w1.cell? ⟨w.heap.size+3,0,none⟩=some (.slice da zs.length dc)∧w1.cell? ⟨w.heap.size+4,0,none⟩=some (.int .i64 k) from ⟨key c0,key c1,key c2,key c3,key c4⟩)
 clear hb1 key c0 c1 c2 c3 c4 HCELL X0;go_wp2_with fail
 refine (wB _).mono ?_;rintro r w2 ⟨ty,rfl,rfl⟩;have B2:=aA (aB (aC w1 (.cells #[.func (.func 63) #[] #[],.func (.func 64) #[] #[],.func (.func 66) #[] #[]] ty)) (aC _ (.cells #[.slice (some ⟨w1.heap.size,0,none⟩) 3 3] 60)));have X2:=aA (X1.out.below B2.out);have key:∀ {b o:Nat} {v:Value},w1.cell? ⟨b,o,none⟩=some v→((w1.alloc (.cells #[.func (.func 63) #[] #[],.func (.func 64) #[] #[],.func (.func 66) #[] #[]] ty)).alloc (.cells #[.slice (some ⟨w1.heap.size,0,none⟩) 3 3] 60)).cell? ⟨b,o,none⟩=some v:=fun {b o v} hv=>(B2.out.cell (p:=⟨b,o,none⟩) (World.block_lt_of_cell? w1 ⟨b,o,none⟩ hv)).trans hv
 obtain ⟨c0,c1,c2,c3,c4⟩:=C1.out;have HCW:Hid (vX ((w1.alloc (.cells #[.func (.func 63) #[] #[],.func (.func 64) #[] #[],.func (.func 66) #[] #[]] ty)).alloc (.cells #[.slice (some ⟨w1.heap.size,0,none⟩) 3 3] 60)) w.heap.size (w.heap.size+1) (w1.heap.size+1) (w.heap.size+4) (w.heap.size+2) (w.heap.size+3) w1.heap.size a l.length c nm k p da zs.length dc):=aA ⟨key c0,key c1,by simp,key c4,key c2,key c3,by simp,by simp,by simp⟩
 have B3:=aA (aB B1.out B2.out);have hsz2:((w1.alloc (.cells #[.func (.func 63) #[] #[],.func (.func 64) #[] #[],.func (.func 66) #[] #[]] ty)).alloc (.cells #[.slice (some ⟨w1.heap.size,0,none⟩) 3 3] 60)).heap.size=w1.heap.size+2:=by simp
 clear key c0 c1 c2 c3 c4 C1 X1;obtain ⟨d1,d2,d3,d4,d5,d6,d7,d8,d9⟩:=HCW.out;go_wp2_with fail
 clear d1 d2 d3 d4 d5 d6 d7 d8 d9;generalize (w1.alloc (.cells #[.func (.func 63) #[] #[],.func (.func 64) #[] #[],.func (.func 66) #[] #[]] ty)).alloc (.cells #[.slice (some ⟨w1.heap.size,0,none⟩) 3 3] 60)=W2 at *;refine (za0 a c l.length l nm 29 #[.pointer (some ⟨w.heap.size,0,none⟩),.pointer (some ⟨w.heap.size+1,0,none⟩),.pointer (some ⟨w1.heap.size+1,0,none⟩),.pointer (some ⟨w.heap.size+4,0,none⟩),.pointer (some ⟨w.heap.size+2,0,none⟩),.pointer (some ⟨w.heap.size+3,0,none⟩)] t (vY l t p zs k) W2 (HRd.out.below B3.out) rfl HRS.out HSM.out HT.out (zs9 k HKK.out _ _ _ _ _ _ _ a c l nm p da dc zs t W2 HCW.out (HRd.out.below B3.out) HRS.out HSM.out HT.out hpl (HD.out.below B3.out) HU8.out hdc hdl) HTP.out).mono ?_
 rintro r w3 ⟨m,rep,hP,av,cv,rfl,hG,hb3⟩;have G3:=aA hG;have HPM:=aA hP;have B4:=aA (aB B3.out hb3);obtain ⟨⟨t0,t1,t2⟩,t3,t4,t5⟩:=X2.out.below hb3;clear hG hb3 hP;go_wp2_with fail
 exact bodyPost_ret (v:=.agg #[.int .i64 0,.int .i64 rep,.slice av _ cv]) (by simp[results,Tryz.results7,go_sem,t0,t1,t2]) rfl ⟨m,rep,HPM.out,iA.of (B:=W2.heap.size) (by omega) (by omega) rfl G3.out B4.out⟩
end Go.Proofs.YtolnlfnndnpiiaaGreat
