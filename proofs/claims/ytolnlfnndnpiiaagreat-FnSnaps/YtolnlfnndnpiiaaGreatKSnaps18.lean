/-
  Texts put together: SnpI SnpJ SnpK SnqE SnqF.
-/
import Derived.Test.YtolnlfnndnpiiaaGreatKSnaps17
import Derived.Test.YtolnlfnndnpiiaaGreatKSnaps16
set_option linter.unusedVariables false
set_option maxHeartbeats 6400000
set_option maxRecDepth 100000
namespace Go.Proofs.YtolnlfnndnpiiaaGreat
open Go.RowKit Go.Maps Go.Sort
attribute [local go_sem ↓] Go.wp_at_zero Go.wp_at_succ
def iA (q rep:Int) (l:List Sn) (w:World) (r:Ending) (w':World):Prop :=
 ∃ av cv,r=.returned (.agg #[.int .i64 q,.int .i64 rep,.slice av l.length cv])∧mE w.heap.size w' av l∧Below w.heap.size w w'
theorem aD.three' (w:World) (b:Nat) (u0 u1 u2:Value):aD (fun x=>x=b) w (((w.setCell ⟨b,0,none⟩ u0).setCell ⟨b,1,none⟩ u1).setCell ⟨b,2,none⟩ u2) :=
 aD.setCell (S:=fun x=>x=b) (p:=⟨b,2,none⟩) (aD.setCell (S:=fun x=>x=b) (p:=⟨b,1,none⟩) (aD.setCell (S:=fun x=>x=b) (p:=⟨b,0,none⟩) (aD.refl _ w) (fun _=>rfl) u0) (fun _=>rfl) u1) (fun _=>rfl) u2
theorem iA.of {q rep:Int} {l:List Sn} {w w3:World} {B b n:Nat} {av:Option Addr} {cv:Nat} {u0 u1 u2:Value} (hB:b<B) (hw:w.heap.size≤b) (hn:n=l.length) (hG:mE B w3 av l) (hb:Below w.heap.size w w3) :
  iA q rep l w (.returned (.agg #[.int .i64 q,.int .i64 rep,.slice av n cv])) (((w3.setCell ⟨b,0,none⟩ u0).setCell ⟨b,1,none⟩ u1).setCell ⟨b,2,none⟩ u2):=by
 subst hn;exact ⟨av,cv,rfl,fun w' hk=>hG _ (((aD.three' w3 b u0 u1 u2).mono (fun x _ e=>by omega)).trans (hk.mono (fun x _ e=>by omega))),((hb.setCell (p:=⟨b,0,none⟩) hw _).setCell (p:=⟨b,1,none⟩) hw _).setCell (p:=⟨b,2,none⟩) hw _⟩
theorem vV (a:Option Addr) (c n:Nat) (l:List Sn) (q:Int) (w:World) (h:RdS w a l) (hn:n=l.length) (hl:l.length≤1048576) (hs:cD l) :
  Calls Tryz.prog 55 #[.slice a n c,.int .i64 q] w (iA 0 q l w):=by
 subst hn;have X0:=aA (cC.new w (.int .i64 0) (.int .i64 0) (.slice none 0 0) 28);have B0:=aA (aC w (.cells #[.int .i64 0,.int .i64 0,.slice none 0 0] 28));have HC:=aA (nT a c l.length l _ (h.below B0.out) rfl hl hs);clear h hs;go_enter Tryz.func55,Tryz.ntmps55;go_wp2_with fail
 refine HC.out.mono ?_;rintro r w1 ⟨av,cv,rfl,hG,hb1⟩;have G1:=aA hG;have B1:=aA (aB B0.out hb1);have hlt:w.heap.size<(w.alloc (.cells #[.int .i64 0,.int .i64 0,.slice none 0 0] 28)).heap.size:=X0.out.lt;obtain ⟨⟨t0,t1,t2⟩,t3,t4,t5⟩:=X0.out.below hb1;clear hG hb1;go_wp2_with fail
 exact bodyPost_ret (v:=.agg #[.int .i64 0,.int .i64 q,.slice av l.length cv]) (by simp[results,Tryz.results55,go_sem,t0,t1,t2]) rfl (iA.of hlt (Nat.le_refl _) rfl G1.out B1.out)
theorem zt8 (l:List Sn) (s:Sn):(bO l s).length=(dO l s.name).length+1:=by
 have:=(zb5 l s).length_eq;rw[List.length_append]at this;exact this.symm
theorem zo9 (w u:World) (l:List Sn) (s:Sn) (x:Option Addr) (cc:Nat) (rs:List Rs) (av:Option Addr) (cv B:Nat) (hrs:rs.map Rs.s=dO l s.name) (hrd:∀ r∈rs,RdE w r.a r.s.layer) (hx:RdE w x s.layer) (hB:Below w.heap.size w u) (hBB:w.heap.size≤B)
  (ho:u.ownsRow B 37 5 (.slice av ((dO l s.name).length+1) cv) ((dO l s.name).length+1) (aS rs++bE ⟨s,x,cc⟩)) (hl:l.length≤1048575) (hr:fO l) :
  ∃ g,av=some ⟨g,0,none⟩∧B≤g∧Calls Tryz.prog 113 #[.slice (some ⟨g,0,none⟩) ((dO l s.name).length+1) cv,.func (.func 114) #[] #[]] u fun r w'=>r=.returned (.tuple #[])∧RdS w' (some ⟨g,0,none⟩) (bO l s)∧aD (fun b=>b=g) u w':=by
 obtain ⟨g,hgv,-⟩:=iF ho (.inl (by omega))
 subst hgv;have hol:(dO l s.name).length≤l.length:=List.length_filter_le _ _;obtain ⟨ss,hperm,hmap⟩:=zxh Rs.s (zb5 l s) (rs ++ [⟨s,x,cc⟩]) (by rw[List.map_append,hrs];rfl)
 have hrise:ss.Pairwise (fun x y=>Op.bytesLess x.s.name y.s.name=true):=by
  have:=qC hr s;rw[←hmap]at this;exact List.pairwise_map.1 this
 have ho2:u.ownsRow B 37 5 (.slice (some ⟨g,0,none⟩) ((dO l s.name).length+1) cv) ((dO l s.name).length+1) (aS (rs ++ [⟨s,x,cc⟩])):=by rw[mR];simpa [aS] using ho
 have hlen:(dO l s.name).length+1=(rs ++ [(⟨s,x,cc⟩:Rs)]).length:=by rw[List.length_append,←hrs,List.length_map];rfl
 have hgl:=ho.lt g rfl;refine ⟨g,rfl,hgl.1,(zf6 B g ((dO l s.name).length+1) cv (rs ++ [⟨s,x,cc⟩]) ss u ho2 hlen (by omega) hperm hrise).mono ?_⟩
 rintro r w' ⟨rfl,hc,hk⟩;have hB':Below w.heap.size w w':=hB.trans (hk.below hB.size (fun q hq hS=>by have:q=g:=hS;omega))
 refine ⟨rfl,?_,hk⟩;rw[←hmap];intro hz;refine ⟨g,0,fun i=>(ss[i]?.map Rs.a).getD none,fun i=>(ss[i]?.map Rs.c).getD 0,rfl,Nat.lt_of_lt_of_le hgl.2 hk.size,fun i e hi=>?_⟩
 rw[List.getElem?_map]at hi;cases hr2:ss[i]? with
 | none=>rw[hr2]at hi;cases hi
 | some r =>
  rw[hr2]at hi;have he:r.s=e:=by simpa using hi
  subst he;simp only[hr2,Option.map_some,Option.getD_some,Nat.zero_add];have hm:=hperm.subset (List.mem_of_getElem? hr2);have hRr:RdE w r.a r.s.layer:=by
   rcases List.mem_append.1 hm with hm | hm
   ·exact hrd r hm
   ·simp only[List.mem_singleton]at hm;subst hm;exact hx
  exact ⟨hc i 0 r hr2 (by decide),hc i 1 r hr2 (by decide),hc i 2 r hr2 (by decide),hc i 3 r hr2 (by decide),hc i 4 r hr2 (by decide),hRr.below hB'⟩
theorem zn9 (a:Option Addr) (c n:Nat) (l:List Sn) (s:Sn) (x:Option Addr) (cc:Nat) (w:World) (h:RdS w a l) (hx:RdE w x s.layer) (hn:n=l.length) (hl:l.length≤1048575) (hr:fO l) (hbd:∀ e∈l,e.name=s.name→e.parent=s.parent) (hsm:cD (bO l s)) :
  Calls Tryz.prog 68 #[.slice a n c,.agg #[.string (str s.name),.string (str s.parent),.int .i64 s.kind,.bool s.lease,.slice x s.layer.length cc]] w (iA 0 0 (bO l s) w):=by
 subst hn;obtain ⟨i1,ki,kz0,kz1,kz2⟩:=info_parts Tryz.infoSn;have BA:=aA (aC w (.cells #[.string (str s.name),.string (str s.parent),.int .i64 s.kind,.bool s.lease,.slice x s.layer.length cc] 37));have B0:=aA (aB BA.out (aC _ (.cells #[.int .i64 0,.int .i64 0,.slice none 0 0] 28)));have F0:=aA ((dE.new w (.string (str s.name)) (.string (str s.parent)) (.int .i64 s.kind) (.bool s.lease) (.slice x s.layer.length cc) 37).below (aC _ (.cells #[.int .i64 0,.int .i64 0,.slice none 0 0] 28)));have X0:=aA (cC.new (w.alloc (.cells #[.string (str s.name),.string (str s.parent),.int .i64 s.kind,.bool s.lease,.slice x s.layer.length cc] 37)) (.int .i64 0) (.int .i64 0) (.slice none 0 0) 28)
 have HR:=aA h;have HX:=aA hx;have HRI:=aA hr;have HBD:=aA hbd;have HSM:=aA hsm;have hol:(dO l s.name).length≤l.length:=List.length_filter_le _ _;have HPL:=aA (zt8 l s);have hm1:(dO l s.name).length+1≤maxLen:=by unfold maxLen;omega
 have hm2:((dO l s.name).length+1) * 72≤140737488355328:=by omega
 clear h hx hr hbd hsm;go_enter Tryz.func68,Tryz.ntmps68;go_wp2_with fail
 simp only[World.size_alloc]at X0;have hsz0:((w.alloc (.cells #[.string (str s.name),.string (str s.parent),.int .i64 s.kind,.bool s.lease,.slice x s.layer.length cc] 37)).alloc (.cells #[.int .i64 0,.int .i64 0,.slice none 0 0] 28)).heap.size=w.heap.size+2:=by simp
 generalize (w.alloc (.cells #[.string (str s.name),.string (str s.parent),.int .i64 s.kind,.bool s.lease,.slice x s.layer.length cc] 37)).alloc (.cells #[.int .i64 0,.int .i64 0,.slice none 0 0] 28)=W0 at *;have KC:Hid (∀ w':World,Below W0.heap.size W0 w'→dE w' w.heap.size (.string (str s.name)) (.string (str s.parent)) (.int .i64 s.kind) (.bool s.lease) (.slice x s.layer.length cc)):=aA (fun w' hb=>F0.out.below hb)
 -- what follows the append
 have HEND:Hid (∀ (rs:List Rs) (u w7:World) (av av7:Option Addr) (cv cv7:Nat),rs.map Rs.s=dO l s.name→(∀ r∈rs,RdE w r.a r.s.layer)→Below W0.heap.size W0 u→u.ownsRow (w.heap.size+2) 37 5 (.slice av (dO l s.name).length cv) (dO l s.name).length (aS rs)→w7.ownsRow (w.heap.size+2) 37 5 (.slice av7 ((dO l s.name).length+1) cv7) ((dO l s.name).length+1) (aS rs++bE ⟨s,x,cc⟩)→aD (fun b=>(Value.slice av (dO l s.name).length cv).ownBlock=some b) u w7 →
   dE w7 w.heap.size (.string (str s.name)) (.string (str s.parent)) (.int .i64 s.kind) (.bool s.lease) (.slice x s.layer.length cc)∧cC w7 (w.heap.size+1) (.int .i64 0) (.int .i64 0) (.slice none 0 0)∧Below w.heap.size w w7∧w.heap.size+2≤w7.heap.size∧∃ g,av7=some ⟨g,0,none⟩∧w.heap.size+2≤g∧Calls Tryz.prog 113 #[.slice (some ⟨g,0,none⟩) ((dO l s.name).length+1) cv7,.func (.func 114) #[] #[]] w7 fun r w'=>r=.returned (.tuple #[])∧RdS w' (some ⟨g,0,none⟩) (bO l s)∧aD (fun b=>b=g) w7 w'):=aA (by
  intro rs u w7 av av7 cv cv7 h1 h2 hu ho ho7 hk;have hlow:∀ b,b<w.heap.size+2→¬ (Value.slice av (dO l s.name).length cv).ownBlock=some b:=fun b hb hS=>by have:=(ho.lt b hS).1;omega
  have hus:=hu.size;have hB7:Below w.heap.size w w7:=(aB B0.out hu).trans (hk.below (by omega) (fun q hq=>hlow q (by omega)))
  refine ⟨(F0.out.below hu).kept hk (hlow _ (by omega)),(X0.out.below hu).kept hk (hlow _ (by omega)),hB7,by have:=hk.size;omega,?_⟩
  exact zo9 w w7 l s x cc rs av7 cv7 (w.heap.size+2) h1 h2 HX.out hB7 (by omega) ho7 hl HRI.out)
 refine wp_region_held_drew (S:=fun w'=>dE w' w.heap.size (.string (str s.name)) (.string (str s.parent)) (.int .i64 s.kind) (.bool s.lease) (.slice x s.layer.length cc)) (by kernel_rfl) (KC.out _ (Below.refl _ _).drew) (fun hHeld=>?_)
 change wpAnyH _ _ _ _ _ _ (Array.replicate _ false) _ _;refine wpAnyH_take (i:=0) (oi:=⟨some 6,_,_,_,_,_⟩) (v:=.slice a l.length c) rfl (by kernel_rfl) (by kernel_rfl) (by kernel_rfl) (fun _ _ _ h=>h) (Or.inl ⟨by rfl,?_⟩) hHeld ?_
 ·rintro w ⟨q0,q1,q2,q3,q4⟩
  go_simp
 try simp only[Act.put,zsE]
 refine wpAnyH_take (i:=1) (oi:=⟨some 7,_,_,_,_,_⟩) (v:=.agg #[.string (str s.name),.string (str s.parent),.int .i64 s.kind,.bool s.lease,.slice x s.layer.length cc]) rfl (by kernel_rfl) (by kernel_rfl) (by kernel_rfl) (fun _ _ _ h=>h) (Or.inl ⟨by rfl,?_⟩) hHeld ?_
 ·rintro w ⟨q0,q1,q2,q3,q4⟩
  go_simp
 try simp only[Act.put,zsE]
 refine wpAnyH_take (i:=3) (oi:=⟨some 9,_,_,_,_,_⟩) (v:=.agg #[.string (str s.name),.string (str s.parent),.int .i64 s.kind,.bool s.lease,.slice x s.layer.length cc]) rfl (by kernel_rfl) (by kernel_rfl) (by kernel_rfl) (fun _ _ _ h=>h) (Or.inl ⟨by rfl,?_⟩) hHeld ?_
 ·rintro w ⟨q0,q1,q2,q3,q4⟩
  go_simp
 try simp only[Act.put,zsE]
 refine wpAnyH_ready (rs:=[2,4]) (by kernel_rfl) (by simp) ?_
 refine AllReadyH.cons rfl (fun K hK=>?_) (AllReadyH.cons rfl (fun K hK=>?_) AllReadyH.nil)
 ·go_simp
  refine (sT a c l.length l s x cc w _ (aB B0.out (Below.refl W0.heap.size W0).drew) HR.out rfl (by omega) HBD.out).mono ?_
  rintro r w4 ⟨av4,cv4,rfl,hL4,hb4⟩;have B4:=aA (aB ((Below.refl W0.heap.size W0).drew) hb4);have HL4:=aA hL4;clear hL4 hb4;go_wp2_with fail
  refine hK.out _ _ (KC.out _ B4.out) (fun hHeld=>?_)
  clear hK K;try simp only[Act.put,zsE]
  refine wpAnyH_ready (rs:=[4]) (by kernel_rfl) (by simp) ?_
  refine AllReadyH.cons rfl (fun K hK=>?_) AllReadyH.nil
  have F5n:=aA (dE.new w4 (.string (str s.name)) (.string (str s.parent)) (.int .i64 s.kind) (.bool s.lease) (.slice x s.layer.length cc) 37);have B5:=aA (aB B4.out (aC w4 (.cells #[.string (str s.name),.string (str s.parent),.int .i64 s.kind,.bool s.lease,.slice x s.layer.length cc] 37)));have HL:Hid (LN (w.heap.size+2) w (w4.alloc (.cells #[.string (str s.name),.string (str s.parent),.int .i64 s.kind,.bool s.lease,.slice x s.layer.length cc] 37)) (.slice av4 (dO l s.name).length cv4) (dO l s.name)):=aA ((HL4.out.below (aC w4 _)).mono (by have hd:W0.drew.heap.size=W0.heap.size:=rfl;omega))
  go_simp
  refine hK.out _ _ (KC.out _ B5.out) (fun hHeld=>?_)
  clear hK K;try simp only[Act.put,zsE]
  obtain ⟨rs,g1,g2,g3⟩:=HL.out;have G1:=aA g1;have G2:=aA g2;have G3:=aA g3;clear g1 g2 g3;refine wpAnyH_ready (rs:=[5]) (by kernel_rfl) (by simp) ?_
  refine AllReadyH.cons (o:=⟨some 11,_,_,_,_,_⟩) rfl (fun K hK=>?_) AllReadyH.nil
  refine rV (by rfl) (.tmp 8) (.tmp 10) 24 (by rfl) (w.heap.size+2) 37 i1 (.agg #[.string ⟨#[]⟩,.string ⟨#[]⟩,.int .i64 0,.bool false,.slice none 0 0]) 5 72 Tryz.underlying24 ki kz0 kz1 kz2 rfl (by decide) (.slice av4 (dO l s.name).length cv4) (dO l s.name).length (aS rs) (by rfl) G2.out ⟨w4.heap.size,0,none⟩ 1 1 (bE ⟨s,x,cc⟩) (by rfl) (by rfl) (zo4 F5n.out) (fun v hv=>dP [⟨s,x,cc⟩] v (by simpa [aS] using hv)) ((dO l s.name).length+1) rfl hm1 hm2 (by have:=B5.out.size;omega) ?_
  intro av7 cv7 w7 hown7 hk7;obtain ⟨c7,x7,b7,hs7,g,rfl,hg7,hso⟩:=HEND.out rs (w4.alloc (.cells #[.string (str s.name),.string (str s.parent),.int .i64 s.kind,.bool s.lease,.slice x s.layer.length cc] 37)) w7 av4 av7 cv4 cv7 G1.out G3.out B5.out G2.out hown7 hk7;have X7:=aA x7;have B7:=aA b7;have HSO:=aA hso;refine hK.out _ _ c7 (fun hHeld=>?_)
  clear hK K hown7 hk7 x7 b7 hso c7 HEND;simp only[Act.put,zsE];refine wpAnyH_take (i:=6) (oi:=⟨some 5,_,_,_,_,_⟩) (v:=.slice (some ⟨g,0,none⟩) ((dO l s.name).length+1) cv7) rfl (by kernel_rfl) (by kernel_rfl) (by kernel_rfl) (fun _ _ _ h=>h) (Or.inl ⟨by rfl,?_⟩) hHeld ?_
  ·rintro w ⟨q0,q1,q2,q3,q4⟩
   go_simp
  try simp only[Act.put,zsE]
  refine wpAnyH_done (by kernel_rfl) ?_ _
  go_wp2_with fail
  refine HSO.out.mono ?_;rintro r w8 ⟨rfl,hri,hk8⟩;have RI:=aA hri;have B8:=aA (B7.out.trans (hk8.below B7.out.size (fun q hq e=>by omega)))
  have X8:=aA (X7.out.kept hk8 (fun e=>by omega))
  have hs8:=hk8.size;clear hri hk8;go_wp2_with fail
  refine (nT (some ⟨g,0,none⟩) cv7 ((dO l s.name).length+1) (bO l s) w8 RI.out HPL.out.symm (by rw[HPL.out];omega) HSM.out).mono ?_
  rintro r w9 ⟨av,cv,rfl,hG,hb9⟩;have G9:=aA hG;have B9:=aA (aB B8.out hb9);obtain ⟨⟨t0,t1,t2⟩,t3,t4,t5⟩:=X8.out.below hb9;clear hG hb9;go_wp2_with fail
  exact bodyPost_ret (v:=.agg #[.int .i64 0,.int .i64 0,.slice av (bO l s).length cv]) (by simp[results,Tryz.results68,go_sem,t0,t1,t2]) rfl (iA.of (B:=w8.heap.size) (by omega) (by omega) rfl G9.out B9.out)
 ·have F4n:Hid (dE (W0.drew.alloc (.cells #[.string (str s.name),.string (str s.parent),.int .i64 s.kind,.bool s.lease,.slice x s.layer.length cc] 37)) (w.heap.size+2) (.string (str s.name)) (.string (str s.parent)) (.int .i64 s.kind) (.bool s.lease) (.slice x s.layer.length cc)):=aA (by have h9:=dE.new W0.drew (.string (str s.name)) (.string (str s.parent)) (.int .i64 s.kind) (.bool s.lease) (.slice x s.layer.length cc) 37;rw[show W0.drew.heap.size=w.heap.size+2 from hsz0]at h9;exact h9)
  have B4:=aA (aB ((Below.refl W0.heap.size W0).drew) (aC W0.drew (.cells #[.string (str s.name),.string (str s.parent),.int .i64 s.kind,.bool s.lease,.slice x s.layer.length cc] 37)));go_simp
  refine hK.out _ _ (KC.out _ B4.out) (fun hHeld=>?_)
  clear hK K;try simp only[Act.put,zsE]
  refine wpAnyH_ready (rs:=[2]) (by kernel_rfl) (by simp) ?_
  refine AllReadyH.cons rfl (fun K hK=>?_) AllReadyH.nil
  go_simp
  refine (sT a c l.length l s x cc w _ (aB B0.out B4.out) HR.out rfl (by omega) HBD.out).mono ?_
  rintro r w5 ⟨av4,cv4,rfl,hL4,hb5⟩;have B5:=aA (aB B4.out hb5);have F5n:=aA (F4n.out.below hb5);have HL:=aA (hL4.mono (show w.heap.size+2≤_ by have hd:W0.drew.heap.size=W0.heap.size:=rfl;rw[World.size_alloc];omega))
  clear hL4 hb5;go_wp2_with fail
  refine hK.out _ _ (KC.out _ B5.out) (fun hHeld=>?_)
  clear hK K;try simp only[Act.put,zsE]
  obtain ⟨rs,g1,g2,g3⟩:=HL.out;have G1:=aA g1;have G2:=aA g2;have G3:=aA g3;clear g1 g2 g3;refine wpAnyH_ready (rs:=[5]) (by kernel_rfl) (by simp) ?_
  refine AllReadyH.cons (o:=⟨some 11,_,_,_,_,_⟩) rfl (fun K hK=>?_) AllReadyH.nil
  refine rV (by rfl) (.tmp 8) (.tmp 10) 24 (by rfl) (w.heap.size+2) 37 i1 (.agg #[.string ⟨#[]⟩,.string ⟨#[]⟩,.int .i64 0,.bool false,.slice none 0 0]) 5 72 Tryz.underlying24 ki kz0 kz1 kz2 rfl (by decide) (.slice av4 (dO l s.name).length cv4) (dO l s.name).length (aS rs) (by rfl) G2.out ⟨w.heap.size+2,0,none⟩ 1 1 (bE ⟨s,x,cc⟩) (by rfl) (by rfl) (zo4 F5n.out) (fun v hv=>dP [⟨s,x,cc⟩] v (by simpa [aS] using hv)) ((dO l s.name).length+1) rfl hm1 hm2 (by have:=B5.out.size;omega) ?_
  intro av7 cv7 w7 hown7 hk7;obtain ⟨c7,x7,b7,hs7,g,rfl,hg7,hso⟩:=HEND.out rs w5 w7 av4 av7 cv4 cv7 G1.out G3.out B5.out G2.out hown7 hk7;have X7:=aA x7;have B7:=aA b7;have HSO:=aA hso;refine hK.out _ _ c7 (fun hHeld=>?_)
  clear hK K hown7 hk7 x7 b7 hso c7 HEND;simp only[Act.put,zsE];refine wpAnyH_take (i:=6) (oi:=⟨some 5,_,_,_,_,_⟩) (v:=.slice (some ⟨g,0,none⟩) ((dO l s.name).length+1) cv7) rfl (by kernel_rfl) (by kernel_rfl) (by kernel_rfl) (fun _ _ _ h=>h) (Or.inl ⟨by rfl,?_⟩) hHeld ?_
  ·rintro w ⟨q0,q1,q2,q3,q4⟩
   go_simp
  try simp only[Act.put,zsE]
  refine wpAnyH_done (by kernel_rfl) ?_ _
  go_wp2_with fail
  refine HSO.out.mono ?_;rintro r w8 ⟨rfl,hri,hk8⟩;have RI:=aA hri;have B8:=aA (B7.out.trans (hk8.below B7.out.size (fun q hq e=>by omega)))
  have X8:=aA (X7.out.kept hk8 (fun e=>by omega))
  have hs8:=hk8.size;clear hri hk8;go_wp2_with fail
  refine (nT (some ⟨g,0,none⟩) cv7 ((dO l s.name).length+1) (bO l s) w8 RI.out HPL.out.symm (by rw[HPL.out];omega) HSM.out).mono ?_
  rintro r w9 ⟨av,cv,rfl,hG,hb9⟩;have G9:=aA hG;have B9:=aA (aB B8.out hb9);obtain ⟨⟨t0,t1,t2⟩,t3,t4,t5⟩:=X8.out.below hb9;clear hG hb9;go_wp2_with fail
  exact bodyPost_ret (v:=.agg #[.int .i64 0,.int .i64 0,.slice av (bO l s).length cv]) (by simp[results,Tryz.results68,go_sem,t0,t1,t2]) rfl (iA.of (B:=w8.heap.size) (by omega) (by omega) rfl G9.out B9.out)
end Go.Proofs.YtolnlfnndnpiiaaGreat
namespace Go.Proofs.YtolnlfnndnpiiaaGreat
open Go.RowKit Go.Maps
attribute [local go_sem ↓] Go.wp_at_zero Go.wp_at_succ
theorem zi5 {l:List Sn} {s:Sn} (h:cD l) (hl:l.length≤1048575) (hs:s.name.length≤1048576∧s.parent.length≤1048576∧s.layer.length≤1048576∧aV s.layer):cD (bO l s):=by
 refine ⟨?_,fun e he=>?_⟩
 ·rw[zt8]
  have:(dO l s.name).length≤l.length:=List.length_filter_le _ _;omega
 ·rcases lW.1 he with rfl | he
  ·exact hs
  ·exact h.2 e he.1
def aft (rep:Int) (l l2:List Sn):List Sn:=if rep=0 then l2 else l
def zpc (W0:World) (fn:FuncId) (cap:Array Value) (t:Sn) (P:Sn→Int→Prop):Prop :=
 (∀ args w,(callFunc fn args).run Tryz.prog w=.ok (.enter fn args) w)∧∀ (x:Option Addr) (c:Nat) (w:World),Below W0.heap.size W0 w→RdE w x t.layer →
  Calls Tryz.prog fn (#[.agg #[.string (str t.name),.string (str t.parent),.int .i64 t.kind,.bool t.lease,.slice x t.layer.length c]]++cap) w fun r w'=>∃ m rep x2 c2,P m rep∧r=.returned (.tuple #[.agg #[.string (str m.name),.string (str m.parent),.int .i64 m.kind,.bool m.lease,.slice x2 m.layer.length c2],.int .i64 rep])∧RdE w' x2 m.layer∧Below w.heap.size w w'
theorem zZ (a:Option Addr) (c n:Nat) (l:List Sn) (nm:Bs) (fv:Value) (w:World) (h:RdS w a l) (hn:n=l.length) (hl:l.length≤1048576) (hs:cD l) (ht:atS l nm=none) :
  Calls Tryz.prog 28 #[.slice a n c,.string (str nm),fv] w (iA 0 4 l w):=by
 subst hn;have HRd:=aA h;have HSM:=aA hs;have B0:=aA (aC w (.cells #[.int .i64 0,.int .i64 0,.slice none 0 0] 28));have X0:=aA (cC.new w (.int .i64 0) (.int .i64 0) (.slice none 0 0) 28);have HT:=aA ht;clear h hs ht;go_enter Tryz.func28,Tryz.ntmps28;go_wp2_with fail
 have hsz0:(w.alloc (.cells #[.int .i64 0,.int .i64 0,.slice none 0 0] 28)).heap.size=w.heap.size+1:=by simp
 generalize w.alloc (.cells #[.int .i64 0,.int .i64 0,.slice none 0 0] 28)=W0 at *;refine (oO a c l.length l nm w W0 B0.out HRd.out rfl hl).mono ?_;rintro r w1 ⟨⟨e,x1,c1,he,rfl,hx1⟩,hb1⟩;rw[HT.out]at he;have he2:e=eQ:=he;subst he2;have B1:=aA (aB B0.out hb1);have X1:=aA ((X0.out.below hb1).below (aC w1 (.cells #[.string (str eQ.name),.string (str eQ.parent),.int .i64 eQ.kind,.bool eQ.lease,.slice x1 eQ.layer.length c1] 37)));have B2:=aA (aB B1.out (aC w1 (.cells #[.string (str eQ.name),.string (str eQ.parent),.int .i64 eQ.kind,.bool eQ.lease,.slice x1 eQ.layer.length c1] 37)))
 have hs1:=hb1.size;clear hb1 he hx1;go_wp2_with fail
 have hsz2:(w1.alloc (.cells #[.string (str eQ.name),.string (str eQ.parent),.int .i64 eQ.kind,.bool eQ.lease,.slice x1 eQ.layer.length c1] 37)).heap.size=w1.heap.size+1:=by simp
 generalize w1.alloc (.cells #[.string (str eQ.name),.string (str eQ.parent),.int .i64 eQ.kind,.bool eQ.lease,.slice x1 eQ.layer.length c1] 37)=W2 at *;refine (uO _ _ _).mono ?_;rintro r w3 ⟨rfl,hb3⟩;have B3:=aA (aB B2.out hb3);have X3:=aA (X1.out.below hb3);have hs3:=hb3.size;clear hb3;go_wp2_with fail
 refine (vV a c l.length l 4 w3 (HRd.out.below B3.out) rfl hl HSM.out).mono ?_;rintro r w4 ⟨av,cv,rfl,hG,hb4⟩;have G4:=aA hG;have B4:=aA (aB B3.out hb4);obtain ⟨⟨t0,t1,t2⟩,t3,t4,t5⟩:=X3.out.below hb4;clear hG hb4;go_wp2_with fail
 exact bodyPost_ret (v:=.agg #[.int .i64 0,.int .i64 4,.slice av l.length cv]) (by simp[results,Tryz.results28,go_sem,t0,t1,t2]) rfl (iA.of (B:=w3.heap.size) (by omega) (Nat.le_refl _) rfl G4.out B4.out)
theorem za0 (a:Option Addr) (c n:Nat) (l:List Sn) (nm:Bs) (fn:FuncId) (cap:Array Value) (t:Sn) (P:Sn→Int→Prop) (w:World) (h:RdS w a l) (hn:n=l.length) (hR:aW l) (hs:cD l) (ht:atS l nm=some t) (hT:zpc w fn cap t P)
  (hP:∀ m,P m 0→m.name=t.name∧m.parent=t.parent∧cD (bO l m)) :
  Calls Tryz.prog 28 #[.slice a n c,.string (str nm),.func (.func fn) #[] cap] w fun r w'=>∃ m rep,P m rep∧iA 0 rep (aft rep l (bO l m)) w r w':=by
 subst hn;have hl:=hR.len;have eg:=hT.1;have HTU:=aA hT;have HRd:=aA h;have HSM:=aA hs;have HRI:=aA hR.rise;have HPP:=aA hP;have HAT:=aA (show ∀ e∈l,e.name=t.name→e.parent=t.parent from fun e he hn=>by
  have h1:=kK hR.rise he;have h2:=kK hR.rise (bW ht).1;rw[hn,h2]at h1;cases h1;rfl)
 have HNM:=aA (gQ (hR.own t (bW ht).1).1);have B0:=aA (aC w (.cells #[.int .i64 0,.int .i64 0,.slice none 0 0] 28));have X0:=aA (cC.new w (.int .i64 0) (.int .i64 0) (.slice none 0 0) 28);have HT:=aA ht;clear h hs ht hT hP hR;go_enter Tryz.func28,Tryz.ntmps28;go_wp2_with fail
 have hsz0:(w.alloc (.cells #[.int .i64 0,.int .i64 0,.slice none 0 0] 28)).heap.size=w.heap.size+1:=by simp
 generalize w.alloc (.cells #[.int .i64 0,.int .i64 0,.slice none 0 0] 28)=W0 at *;refine (oO a c l.length l nm w W0 B0.out HRd.out rfl (by omega)).mono ?_
 rintro r w1 ⟨⟨e,x1,c1,he,rfl,hx1⟩,hb1⟩;rw[HT.out]at he;have he2:e=t:=he;subst he2;have HX1:=aA hx1;have B1:=aA (aB B0.out hb1);have X1:=aA ((X0.out.below hb1).below (aC w1 (.cells #[.string (str e.name),.string (str e.parent),.int .i64 e.kind,.bool e.lease,.slice x1 e.layer.length c1] 37)));have F1:=aA (dE.new w1 (.string (str e.name)) (.string (str e.parent)) (.int .i64 e.kind) (.bool e.lease) (.slice x1 e.layer.length c1) 37);have B2:=aA (aB B1.out (aC w1 (.cells #[.string (str e.name),.string (str e.parent),.int .i64 e.kind,.bool e.lease,.slice x1 e.layer.length c1] 37)))
 have hs1:=hb1.size;clear hb1 he hx1;go_wp2_with fail
 have hsz2:(w1.alloc (.cells #[.string (str e.name),.string (str e.parent),.int .i64 e.kind,.bool e.lease,.slice x1 e.layer.length c1] 37)).heap.size=w1.heap.size+1:=by simp
 generalize w1.alloc (.cells #[.string (str e.name),.string (str e.parent),.int .i64 e.kind,.bool e.lease,.slice x1 e.layer.length c1] 37)=W2 at *;refine (sG e _ _ _ HNM.out).mono ?_;rintro r w3 ⟨rfl,hb3⟩;have B3:=aA (aB B2.out hb3);have X3:=aA (X1.out.below hb3);obtain ⟨f0,f1,f2,f3,f4⟩:=F1.out.below hb3;have hs3:=hb3.size;clear hb3;go_wp2_with fail
 refine (HTU.out.2 x1 c1 w3 B3.out (HX1.out.below B3.out)).mono ?_;rintro r w4 ⟨m,rep,x2,c2,hp,rfl,hx2,hb4⟩;have HPM:=aA hp;have B4:=aA (aB B3.out (aB hb4 (aC w4 (.cells #[.string (str m.name),.string (str m.parent),.int .i64 m.kind,.bool m.lease,.slice x2 m.layer.length c2] 37))));have X4:=aA (X3.out.below (aB hb4 (aC w4 (.cells #[.string (str m.name),.string (str m.parent),.int .i64 m.kind,.bool m.lease,.slice x2 m.layer.length c2] 37))));have F4:=aA (dE.new w4 (.string (str m.name)) (.string (str m.parent)) (.int .i64 m.kind) (.bool m.lease) (.slice x2 m.layer.length c2) 37)
 have HX2:=aA (hx2.below (aC w4 (.cells #[.string (str m.name),.string (str m.parent),.int .i64 m.kind,.bool m.lease,.slice x2 m.layer.length c2] 37)));have hs4:=hb4.size;clear hp hx2 hb4 f0 f1 f2 f3 f4 eg;have hsz4:(w4.alloc (.cells #[.string (str m.name),.string (str m.parent),.int .i64 m.kind,.bool m.lease,.slice x2 m.layer.length c2] 37)).heap.size=w4.heap.size+1:=by simp
 by_cases hz:rep=0
 ·subst hz
  obtain ⟨p1,p2,p3⟩:=HPP.out m HPM.out;have HP1:=aA (show ∀ e∈l,e.name=m.name→e.parent=m.parent from fun y hy hn=>by rw[p2];exact HAT.out y hy (hn.trans p1))
  have HP3:=aA p3;clear p1 p2 p3;go_wp2_with fail
  generalize w4.alloc (.cells #[.string (str m.name),.string (str m.parent),.int .i64 m.kind,.bool m.lease,.slice x2 m.layer.length c2] 37)=W5 at *;refine (zn9 a c l.length l m x2 c2 W5 (HRd.out.below B4.out) HX2.out rfl (by omega) HRI.out HP1.out HP3.out).mono ?_
  rintro r w6 ⟨av,cv,rfl,hG,hb6⟩;have G6:=aA hG;have B6:=aA (aB B4.out hb6);obtain ⟨⟨t0,t1,t2⟩,t3,t4,t5⟩:=X4.out.below hb6;clear hG hb6;go_wp2_with fail
  exact bodyPost_ret (v:=.agg #[.int .i64 0,.int .i64 0,.slice av (bO l m).length cv]) (by simp[results,Tryz.results28,go_sem,t0,t1,t2]) rfl ⟨m,0,HPM.out,iA.of (B:=W5.heap.size) (by omega) (Nat.le_refl _) rfl G6.out B6.out⟩
 ·have hz2:(rep != 0)=true:=by simp;exact hz
  have HA:=aA (show aft rep l (bO l m)=l by unfold aft;rw[if_neg hz])
  clear hz;go_wp2_with fail
  generalize w4.alloc (.cells #[.string (str m.name),.string (str m.parent),.int .i64 m.kind,.bool m.lease,.slice x2 m.layer.length c2] 37)=W5 at *;refine (vV a c l.length l rep W5 (HRd.out.below B4.out) rfl (by omega) HSM.out).mono ?_
  rintro r w6 ⟨av,cv,rfl,hG,hb6⟩;have G6:=aA hG;have B6:=aA (aB B4.out hb6);obtain ⟨⟨t0,t1,t2⟩,t3,t4,t5⟩:=X4.out.below hb6;clear hG hb6;go_wp2_with fail
  exact bodyPost_ret (v:=.agg #[.int .i64 0,.int .i64 rep,.slice av l.length cv]) (by simp[results,Tryz.results28,go_sem,t0,t1,t2]) rfl ⟨m,rep,HPM.out,by rw[HA.out];exact iA.of (B:=W5.heap.size) (by omega) (Nat.le_refl _) rfl G6.out B6.out⟩
def bK (q rep:Int) (l:List Sn) (w:World) (r:Ending) (w':World):Prop :=
 ∃ av cv,r=.returned (.agg #[.int .i64 q,.int .i64 rep,.slice av l.length cv])∧GS w.heap.size w' (.slice av l.length cv) l∧Below w.heap.size w w'
theorem bK.of {q rep:Int} {l:List Sn} {w w3:World} {B b n:Nat} {av:Option Addr} {cv:Nat} {u0 u1 u2:Value} (hB:b<B) (hw:w.heap.size≤b) (hn:n=l.length) (hG:GS B w3 (.slice av n cv) l) (hb:Below w.heap.size w w3) :
  bK q rep l w (.returned (.agg #[.int .i64 q,.int .i64 rep,.slice av n cv])) (((w3.setCell ⟨b,0,none⟩ u0).setCell ⟨b,1,none⟩ u1).setCell ⟨b,2,none⟩ u2):=by
 subst hn;exact ⟨av,cv,rfl,(hG.kept (aD.three' w3 b u0 u1 u2) (fun x hx e=>by omega)).mono (by omega),((hb.setCell (p:=⟨b,0,none⟩) hw _).setCell (p:=⟨b,1,none⟩) hw _).setCell (p:=⟨b,2,none⟩) hw _⟩
theorem aW.good {l:List Sn} (h:aW l):snM l=0:=by
 rw[zc1 (fun s hs=>by rw[tW.2 (eX.1 (h.own s hs).2.2),(h.own s hs).2.2])]
 exact kH.2 h
theorem GS.at {B:Nat} {w:World} {a:Option Addr} {n c:Nat} {l:List Sn} {k:Nat} {s:Sn} (h:GS B w (.slice a n c) l) (hs:l[k]?=some s) :
  ∃ g,a=some ⟨g,0,none⟩∧B≤g∧g<w.heap.size∧(∀ q,w.frozen? ⟨g,q,none⟩=false)∧∃ r:Rs,r.s=s∧∀ q,q<5→w.cell? ⟨g,k * 5+q,none⟩=(bE r)[q]?:=by
 obtain ⟨rs,h1,h2,h3⟩:=h;have hk:k<l.length:=(List.getElem?_eq_some_iff.1 hs).1;have hl:rs.length=l.length:=by rw[←h1,List.length_map]
 rcases h2.2 with ⟨_,h0⟩ | ⟨g,cap,cur,h',hb',hh,-⟩
 ·omega
 ·simp only[Value.slice.injEq]at h'
  obtain ⟨rfl,rfl,rfl⟩:=h';obtain ⟨r,hr⟩:∃ r,rs[k]?=some r:=⟨_,List.getElem?_eq_getElem (by omega)⟩
  refine ⟨g,rfl,hb',(h2.lt g rfl).2,fun q=>h2.frozenAt q,r,?_,fun q hq=>(h2.cellAt (k * 5+q) (by omega)).trans (mA rs k q r hr hq)⟩
  have:(rs.map Rs.s)[k]?=some r.s:=by rw[List.getElem?_map,hr];rfl
  rw[h1,hs]at this;exact (Option.some.inj this).symm
theorem xO:∀ (rs:List Rs) (k q:Nat) (r r':Rs) (u:Value),rs[k]?=some r→q<5→(bE r).set q u=bE r'→(aS rs).set (k * 5+q) u=aS (rs.set k r')
 | [],k,q,r,r',u,h,_,_=>by simp at h
 | y :: rs,0,q,r,r',u,h,hq,he=>by
  simp only[List.getElem?_cons_zero,Option.some.injEq]at h;subst h;simp only[aS,List.flatMap_cons,Nat.zero_mul,Nat.zero_add,List.set_cons_zero];rw[List.set_append_left _ _ (by simp[bE];omega),he]
 | y :: rs,k+1,q,r,r',u,h,hq,he=>by
  have:=xO rs k q r r' u (by simpa using h) hq he
  have e:(k+1) * 5+q=(bE y).length+(k * 5+q):=by simp[bE];omega
  simp only[aS,List.flatMap_cons,List.set_cons_succ]at this ⊢;rw[e,List.set_append_right _ _ (by omega),Nat.add_sub_cancel_left,this]
theorem GS.put {B:Nat} {w:World} {g n c k q:Nat} {l:List Sn} {s s':Sn} {u:Value} (h:GS B w (.slice (some ⟨g,0,none⟩) n c) l) (hs:l[k]?=some s) (hq:q<5) (hu:∀ a c,(bE ⟨s,a,c⟩).set q u=bE ⟨s',a,c⟩) (hy:s'.layer=s.layer):GS B (w.setCell ⟨g,k * 5+q,none⟩ u) (.slice (some ⟨g,0,none⟩) n c) (l.set k s'):=by
 obtain ⟨rs,h1,h2,h3⟩:=h;have hk:k<l.length:=(List.getElem?_eq_some_iff.1 hs).1;have hl:rs.length=l.length:=by rw[←h1,List.length_map]
 obtain ⟨r,hr⟩:∃ r,rs[k]?=some r:=⟨_,List.getElem?_eq_getElem (by omega)⟩
 have hrs:r.s=s:=by
  have:(rs.map Rs.s)[k]?=some r.s:=by rw[List.getElem?_map,hr];rfl
  rw[h1,hs]at this;exact (Option.some.inj this).symm
 obtain ⟨m,c',e⟩:=bH h2;simp only[Value.slice.injEq]at e;obtain ⟨-,rfl,-⟩:=e;have s1:=(h2.stored (k * 5+q) u).1;rw[xO rs k q r ⟨s',r.a,r.c⟩ u hr hq (by have:=hu r.a r.c;rw[←hrs]at this;exact this)]at s1
 have hkp:aD (fun b=>(Value.slice (some ⟨g,0,none⟩) l.length c).ownBlock=some b) w (w.setCell ⟨g,k * 5+q,none⟩ u):=aD.setCell (S:=fun b=>(Value.slice (some ⟨g,0,none⟩) l.length c).ownBlock=some b) (p:=⟨g,k * 5+q,none⟩) (aD.refl _ _) (fun _=>rfl) _
 refine ⟨rs.set k ⟨s',r.a,r.c⟩,by rw[List.map_set,h1],by rw[List.length_set];exact s1,fun r0 hr0=>?_⟩
 rcases List.mem_or_eq_of_mem_set hr0 with hr1 | rfl
 ·exact (h3 r0 hr1).apart h2 (by decide) (by decide) hkp
 ·have h9:=h3 r (List.mem_of_getElem? hr)
  rw[hrs]at h9;show GW B _ (.slice r.a s'.layer.length r.c) s'.layer
  rw[hy];exact h9.apart h2 (by decide) (by decide) hkp
theorem kE {l:List Sn} (h:fO l) {k:Nat} {s s':Sn} (hs:l[k]?=some s) (hn:s'.name=s.name):bO l s'=l.set k s':=by
 have hk:k<l.length:=(List.getElem?_eq_some_iff.1 hs).1;have hdec:l=l.take k++s :: l.drop (k+1):=by
  rw[←eG hs,List.take_append_drop]
 have hset:l.set k s'=l.take k++s' :: l.drop (k+1):=List.set_eq_take_append_cons_drop.trans (by rw[if_pos hk])
 have hrl:∀ x∈l.take k,Op.bytesLess x.name s.name=true:=fun x hx=>by
  have h9:=h;rw[hdec]at h9;exact (List.pairwise_append.1 h9).2.2 x hx s (by simp)
 have hrr:∀ x∈l.drop (k+1),Op.bytesLess s.name x.name=true:=fun x hx=>by
  have h9:=h;rw[hdec]at h9;exact (List.pairwise_cons.1 (List.pairwise_append.1 h9).2.1).1 x hx
 unfold bO;rw[hset,hn];have e1:l.filter (fun x=>Op.bytesLess x.name s.name)=l.take k:=by
  conv=>lhs;rw[hdec]
  rw[List.filter_append,List.filter_cons];have a1:(l.take k).filter (fun x=>Op.bytesLess x.name s.name)=l.take k:=List.filter_eq_self.2 hrl
  have a2:(l.drop (k+1)).filter (fun x=>Op.bytesLess x.name s.name)=[]:=List.filter_eq_nil_iff.2 fun x hx=>by rw[iB (hrr x hx)];decide
  rw[a1,a2,gC];simp
 have e2:l.filter (fun x=>Op.bytesLess s.name x.name)=l.drop (k+1):=by
  conv=>lhs;rw[hdec]
  rw[List.filter_append,List.filter_cons];have a1:(l.take k).filter (fun x=>Op.bytesLess s.name x.name)=[]:=List.filter_eq_nil_iff.2 fun x hx=>by rw[iB (hrl x hx)];decide
  have a2:(l.drop (k+1)).filter (fun x=>Op.bytesLess s.name x.name)=l.drop (k+1):=List.filter_eq_self.2 hrr
  rw[a1,a2,gC];simp
 rw[e1,e2]
theorem cO (a:Option Addr) (c n:Nat) (l:List Sn) (q:Int) (w:World) (h:RdS w a l) (hn:n=l.length) (hl:l.length≤1048576) (hs:cD l) :
  Calls Tryz.prog 34 #[.slice a n c,.int .i64 q] w (bK 0 q l w):=by
 subst hn;have X0:=aA (cC.new w (.int .i64 0) (.int .i64 0) (.slice none 0 0) 28);have B0:=aA (aC w (.cells #[.int .i64 0,.int .i64 0,.slice none 0 0] 28));have HC:=aA (eD a c l.length l _ (h.below B0.out) rfl hl hs);clear h hs;go_enter Tryz.func34,Tryz.ntmps34;go_wp2_with fail
 refine HC.out.mono ?_;rintro r w1 ⟨av,cv,rfl,hG,hb1⟩;have G1:=aA hG;have B1:=aA (aB B0.out hb1);have hlt:w.heap.size<(w.alloc (.cells #[.int .i64 0,.int .i64 0,.slice none 0 0] 28)).heap.size:=X0.out.lt;obtain ⟨⟨t0,t1,t2⟩,t3,t4,t5⟩:=X0.out.below hb1;clear hG hb1;go_wp2_with fail
 exact bodyPost_ret (v:=.agg #[.int .i64 0,.int .i64 q,.slice av l.length cv]) (by simp[results,Tryz.results34,go_sem,t0,t1,t2]) rfl (bK.of hlt (Nat.le_refl _) rfl G1.out B1.out)
theorem yZ (a:Option Addr) (c n:Nat) (l:List Sn) (nm:Bs) (w:World) (h:RdS w a l) (hn:n=l.length) (hR:aW l) (hs:cD l) :
  Calls Tryz.prog 140 #[.slice a n c,.string (str nm)] w fun r w'=>(atS l nm=none∧bK 0 4 l w r w')∨∃ t,atS l nm=some t∧((t.kind=2∧bK 0 10 l w r w')∨(t.kind≠2∧bK 0 0 (bO l ⟨t.name,t.parent,2,t.lease,t.layer⟩) w r w')):=by
 subst hn;have hl:=hR.len;have X0:=aA (cC.new w (.int .i64 0) (.int .i64 0) (.slice none 0 0) 28);have B0:=aA (aC w (.cells #[.int .i64 0,.int .i64 0,.slice none 0 0] 28));have HC:=aA (iO a c l.length l _ (h.below B0.out) rfl (by omega) hs)
 rw[hR.good]at HC;have HRd:=aA h;have HRI:=aA hR.rise;have HSM:=aA hs;clear h hs hR;go_enter Tryz.func140,Tryz.ntmps140;go_wp2_with fail
 have hsz0:(w.alloc (.cells #[.int .i64 0,.int .i64 0,.slice none 0 0] 28)).heap.size=w.heap.size+1:=by simp
 generalize w.alloc (.cells #[.int .i64 0,.int .i64 0,.slice none 0 0] 28)=W0 at *;refine HC.out.mono ?_;rintro r w1 ⟨rfl,hb1⟩;have B1:=aA (aB B0.out hb1);have X1:=aA (X0.out.below hb1);have hs1:=hb1.size;clear hb1;go_wp2_with fail
 refine (iN a c l.length l nm w1 (HRd.out.below B1.out) rfl (by omega)).mono ?_
 rintro r w2 ⟨rfl,hw2⟩;subst hw2;cases hp:plS l nm with
 | none =>
  have HN:=aA (kD hp);clear hp;simp only[dD];go_wp2_with fail
  refine (cO a c l.length l 4 w2 (HRd.out.below B1.out) rfl (by omega) HSM.out).mono ?_
  rintro r w9 ⟨av,cv,rfl,hG,hb9⟩;have G9:=aA hG;have B9:=aA (aB B1.out hb9);obtain ⟨⟨t0,t1,t2⟩,t3,t4,t5⟩:=X1.out.below hb9;clear hG hb9;go_wp2_with fail
  exact bodyPost_ret (v:=.agg #[.int .i64 0,.int .i64 4,.slice av l.length cv]) (by simp[results,Tryz.results140,go_sem,t0,t1,t2]) rfl (.inl ⟨HN.out,bK.of (B:=w2.heap.size) (by omega) (Nat.le_refl _) rfl G9.out B9.out⟩)
 | some j =>
  obtain ⟨s,hq,hat⟩:=oK hp;have hjl:=(List.getElem?_eq_some_iff.1 hq).1;obtain ⟨b2,off2,e,x2,cc2,hbb,hb2,he,d0,d1,d2,d3,d4,hr2⟩:=(HRd.out.below B1.out).at hjl;subst hbb;have heq:e=s:=by rw[hq]at he;exact (Option.some.inj he).symm
  subst heq;have HAT:=aA hat;have HQ:=aA hq;have hj0:¬ (j:Int)<0:=by omega
  have hj1:(j:Int)<(l.length:Int):=by omega
  clear hp hq hat he hr2;simp only[dD];by_cases hk:e.kind=2
  ·have hkb:(e.kind==2)=true:=by simp[hk]
   have HK:=aA hk;clear hk;go_wp2_with fail
   refine (cO _ c l.length l 10 w2 (HRd.out.below B1.out) rfl (by omega) HSM.out).mono ?_
   rintro r w9 ⟨av,cv,rfl,hG,hb9⟩;have G9:=aA hG;have B9:=aA (aB B1.out hb9);obtain ⟨⟨t0,t1,t2⟩,t3,t4,t5⟩:=X1.out.below hb9;clear hG hb9;go_wp2_with fail
   exact bodyPost_ret (v:=.agg #[.int .i64 0,.int .i64 10,.slice av l.length cv]) (by simp[results,Tryz.results140,go_sem,t0,t1,t2]) rfl (.inr ⟨e,HAT.out,.inl ⟨HK.out,bK.of (B:=w2.heap.size) (by omega) (Nat.le_refl _) rfl G9.out B9.out⟩⟩)
  ·have hkb:(e.kind==2)=false:=by simp[hk]
   have HK:=aA hk;clear hk;go_wp2_with fail
   refine (eD _ c l.length l w2 (HRd.out.below B1.out) rfl (by omega) HSM.out).mono ?_
   rintro r w3 ⟨av,cv,rfl,hG,hb3⟩;have G3:=aA hG;have B3:=aA (aB B1.out hb3);have X3:=aA (X1.out.below hb3);have hs3:=hb3.size;obtain ⟨g,hgv,hgB,hgl,hfz,r,hrs,hcl⟩:=hG.at HQ.out;subst hgv;have hc2:=hcl 2 (by decide)
   have hz2:w3.cell? ⟨g,j * 5+2,none⟩=some (.int .i64 r.s.kind):=hc2;have hf2:=hfz (j * 5+2);clear hG hb3 hcl hc2 hfz d0 d1 d2 d3 d4;have GP:=aA (G3.out.put (q:=2) (s':=⟨e.name,e.parent,2,e.lease,e.layer⟩) (u:=.int .i64 2) HQ.out (by decide) (fun _ _=>rfl) rfl)
   rw[←kE HRI.out HQ.out (s':=⟨e.name,e.parent,2,e.lease,e.layer⟩) rfl]at GP;have HLN:=aA (show (bO l ⟨e.name,e.parent,2,e.lease,e.layer⟩).length=l.length by rw[kE HRI.out HQ.out (s':=⟨e.name,e.parent,2,e.lease,e.layer⟩) rfl,List.length_set])
   have KS:=aA (aD.setCell (S:=fun q=>q=g) (p:=⟨g,j * 5+2,none⟩) (aD.refl _ w3) (fun _=>rfl) (.int .i64 2))
   have BP:=aA (B3.out.trans (KS.out.below B3.out.size (fun q hq e=>by omega)))
   obtain ⟨⟨t0,t1,t2⟩,t3,t4,t5⟩:=X3.out.kept KS.out (by omega)
   have hsP:=KS.out.size;go_wp2_with fail
   exact bodyPost_ret (v:=.agg #[.int .i64 0,.int .i64 0,.slice (some ⟨g,0,none⟩) l.length cv]) (by simp[results,Tryz.results140,go_sem,t0,t1,t2]) rfl (.inr ⟨e,HAT.out,.inr ⟨HK.out,bK.of (B:=w2.heap.size) (by omega) (Nat.le_refl _) HLN.out.symm GP.out BP.out⟩⟩)
theorem ze1 (a:Option Addr) (c n:Nat) (l:List Sn) (nm:Bs) (b:Bool) (w:World) (h:RdS w a l) (hn:n=l.length) (hR:aW l) (hs:cD l) :
  Calls Tryz.prog 141 #[.slice a n c,.string (str nm),.bool b] w fun r w'=>(atS l nm=none∧bK 0 4 l w r w')∨∃ t,atS l nm=some t∧bK 0 0 (bO l ⟨t.name,t.parent,t.kind,b,t.layer⟩) w r w':=by
 subst hn;have hl:=hR.len;have X0:=aA (cC.new w (.int .i64 0) (.int .i64 0) (.slice none 0 0) 28);have B0:=aA (aC w (.cells #[.int .i64 0,.int .i64 0,.slice none 0 0] 28));have HC:=aA (iO a c l.length l _ (h.below B0.out) rfl (by omega) hs)
 rw[hR.good]at HC;have HRd:=aA h;have HRI:=aA hR.rise;have HSM:=aA hs;clear h hs hR;go_enter Tryz.func141,Tryz.ntmps141;go_wp2_with fail
 have hsz0:(w.alloc (.cells #[.int .i64 0,.int .i64 0,.slice none 0 0] 28)).heap.size=w.heap.size+1:=by simp
 generalize w.alloc (.cells #[.int .i64 0,.int .i64 0,.slice none 0 0] 28)=W0 at *;refine HC.out.mono ?_;rintro r w1 ⟨rfl,hb1⟩;have B1:=aA (aB B0.out hb1);have X1:=aA (X0.out.below hb1);have hs1:=hb1.size;clear hb1;go_wp2_with fail
 refine (iN a c l.length l nm w1 (HRd.out.below B1.out) rfl (by omega)).mono ?_
 rintro r w2 ⟨rfl,hw2⟩;subst hw2;cases hp:plS l nm with
 | none =>
  have HN:=aA (kD hp);clear hp;simp only[dD];go_wp2_with fail
  refine (cO a c l.length l 4 w2 (HRd.out.below B1.out) rfl (by omega) HSM.out).mono ?_
  rintro r w9 ⟨av,cv,rfl,hG,hb9⟩;have G9:=aA hG;have B9:=aA (aB B1.out hb9);obtain ⟨⟨t0,t1,t2⟩,t3,t4,t5⟩:=X1.out.below hb9;clear hG hb9;go_wp2_with fail
  exact bodyPost_ret (v:=.agg #[.int .i64 0,.int .i64 4,.slice av l.length cv]) (by simp[results,Tryz.results141,go_sem,t0,t1,t2]) rfl (.inl ⟨HN.out,bK.of (B:=w2.heap.size) (by omega) (Nat.le_refl _) rfl G9.out B9.out⟩)
 | some j =>
  obtain ⟨s,hq,hat⟩:=oK hp;have hjl:=(List.getElem?_eq_some_iff.1 hq).1;obtain ⟨b2,off2,e,x2,cc2,hbb,hb2,he,d0,d1,d2,d3,d4,hr2⟩:=(HRd.out.below B1.out).at hjl;subst hbb;have heq:e=s:=by rw[hq]at he;exact (Option.some.inj he).symm
  subst heq;have HAT:=aA hat;have HQ:=aA hq;have hj0:¬ (j:Int)<0:=by omega
  have hj1:(j:Int)<(l.length:Int):=by omega
  clear hp hq hat he hr2;simp only[dD];go_wp2_with fail
  refine (eD _ c l.length l w2 (HRd.out.below B1.out) rfl (by omega) HSM.out).mono ?_
  rintro r w3 ⟨av,cv,rfl,hG,hb3⟩;have G3:=aA hG;have B3:=aA (aB B1.out hb3);have X3:=aA (X1.out.below hb3);have hs3:=hb3.size;obtain ⟨g,hgv,hgB,hgl,hfz,r,hrs,hcl⟩:=hG.at HQ.out;subst hgv;have hc2:=hcl 3 (by decide)
  have hz2:w3.cell? ⟨g,j * 5+3,none⟩=some (.bool r.s.lease):=hc2;have hf2:=hfz (j * 5+3);clear hG hb3 hcl hc2 hfz d0 d1 d2 d3 d4;have GP:=aA (G3.out.put (q:=3) (s':=⟨e.name,e.parent,e.kind,b,e.layer⟩) (u:=.bool b) HQ.out (by decide) (fun _ _=>rfl) rfl)
  rw[←kE HRI.out HQ.out (s':=⟨e.name,e.parent,e.kind,b,e.layer⟩) rfl]at GP;have HLN:=aA (show (bO l ⟨e.name,e.parent,e.kind,b,e.layer⟩).length=l.length by rw[kE HRI.out HQ.out (s':=⟨e.name,e.parent,e.kind,b,e.layer⟩) rfl,List.length_set])
  have KS:=aA (aD.setCell (S:=fun q=>q=g) (p:=⟨g,j * 5+3,none⟩) (aD.refl _ w3) (fun _=>rfl) (.bool b))
  have BP:=aA (B3.out.trans (KS.out.below B3.out.size (fun q hq e=>by omega)))
  obtain ⟨⟨t0,t1,t2⟩,t3,t4,t5⟩:=X3.out.kept KS.out (by omega)
  have hsP:=KS.out.size;go_wp2_with fail
  exact bodyPost_ret (v:=.agg #[.int .i64 0,.int .i64 0,.slice (some ⟨g,0,none⟩) l.length cv]) (by simp[results,Tryz.results141,go_sem,t0,t1,t2]) rfl (.inr ⟨e,HAT.out,bK.of (B:=w2.heap.size) (by omega) (Nat.le_refl _) HLN.out.symm GP.out BP.out⟩)
end Go.Proofs.YtolnlfnndnpiiaaGreat
