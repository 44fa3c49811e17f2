/-
  Texts put together: SeeQ SeeR TreM TreR EntH TreN SeeS SeeT EntY EntT.
-/
import Derived.Test.YtgaeikgoknoamaaGreatKKeeps9
import Derived.Test.YtgaeikgoknoamaaGreatKKeeps6
import Derived.Test.YtgaeikgoknoamaaGreatKKeeps3
import Derived.Shelf.Abstract
import Derived.Test.YtgaeikgoknoamaaGreatKKeeps2
import Derived.Test.YtgaeikgoknoamaaGreatKKeeps1
import Derived.Test.YtgaeikgoknoamaaGreatKKeeps4
import Derived.Test.YtgaeikgoknoamaaGreatKKeeps5
import Derived.Test.YtgaeikgoknoamaaGreatKKeeps8
set_option linter.unusedVariables false
set_option maxHeartbeats 4000000
set_option maxRecDepth 100000
namespace Go.Proofs.YtgaeikgoknoamaaGreat
open Go.RowKit Go.Maps Go.Shelf
theorem ze4 (F:Fence) (n:Nat) (h11:F.fn 209) (hro:F.round=none) (hn:2≤n) (hFg:F.fn 166) (Bm b N:Nat) (S:Nat→Bs→Option En) (w0 w:World) (hBm:Bm<w.heap.size) (hm:w.cell? ⟨Bm,0,none⟩=some (.map (some b))) (hS:dZ w0 w b N S) (hN:N≤1000) :
  CallsIn F n Tryz.prog 209 #[.slice none 0 0,.func (.func 166) #[] #[.pointer (some ⟨Bm,0,none⟩)]] w fun e w'=>∃ (v:Value) (ss:List ((Nat × Bs) × Rw)),e=.returned v∧ss.length≤N∧nB w0 S (fun _=>false) ss∧w'.ownsRow w.heap.size 91 4 v (ss.map Prod.snd).length (kT (ss.map Prod.snd))∧(v=.slice none 0 0↔ss.map Prod.snd=[])∧Below w.heap.size w w':=by
 have h1:1≤n:=by omega
 have hne:117≠91:=by decide
 have eg:∀ args w,(callFunc 166 args).run Tryz.prog w=.ok (.enter 166 args) w:=enters_of Tryz.func166 (by kernel_rfl) rfl
 obtain ⟨cs,hcs⟩:∃ cs,cs=za1 Tryz.f209.body:=⟨_,rfl⟩;refine callsIn_of_wp_marks Tryz.func209 rfl h11 ?_ hro;simp only[Tryz.ntmps209,List.size_toArray,List.length_cons,List.length_nil,Nat.reduceAdd,Nat.reduceSub,Array.replicate_succ,Array.replicate_zero,List.push_toArray,List.append_toArray,List.nil_append,List.cons_append];gi_wp2
 refine wpIn_rangeFunc ?_;intro fn hfn;rw[hro];have hcs2:=hcs;simp only[za1,Tryz.f209]at hcs2;have hc1:=congrArg Prod.fst hcs2;have hc2':=congrArg Prod.snd hcs2;simp only at hc1 hc2';rw[←hc1,←hc2'];clear hcs2 hc1 hc2';obtain ⟨W0,hW0⟩:∃ W0,w.alloc (.cells #[.slice none 0 0] 117)=W0:=⟨_,rfl⟩;have hs0:W0.heap.size=w.heap.size+1:=by rw[←hW0];simp
 have hv0:W0.heap[w.heap.size]?=some (.cells #[.slice none 0 0] 117 (0,0)):=by rw[←hW0];exact World.alloc_heap_new w _
 have hb0:Below w.heap.size w W0:=by rw[←hW0];exact (Below.refl _ w).alloc (Nat.le_refl _) _
 rw[hW0];obtain ⟨sv,hsv⟩:∃ sv,(Value.func (.func 166) #[] #[.pointer (some ⟨Bm,0,none⟩)])=sv:=⟨_,rfl⟩;obtain ⟨W1,hW1⟩:∃ W1,(W0.alloc (.deferred (some []))).alloc (.loop (lA cs fn sv w.heap.size W0.heap.size .ready none))=W1:=⟨_,rfl⟩;have hold:∀ k,k<W0.heap.size→W1.heap[k]?=W0.heap[k]?:=fun k hk=>by
  rw[←hW1];exact (Below.heap_alloc _ _ k (by simp;omega)).trans (Below.heap_alloc _ _ k hk)
 have hb1:Below w.heap.size w W1:=by rw[←hW1];exact (hb0.alloc hb0.size _).alloc (by have:=hb0.size;simp;omega) _
 have hs1:W1.heap.size=W0.heap.size+2:=by rw[←hW1];simp
 have hM:zW cs w fn sv w.heap.size (W0.heap.size+1) W0.heap.size [] W1 :=
  ⟨⟨_,(hold w.heap.size (by omega)).trans hv0,⟨rfl,.inl ⟨rfl,rfl⟩⟩,by simp⟩,
   by rw[←hW1];have:=World.alloc_heap_new (W0.alloc (.deferred (some []))) (.loop (lA cs fn sv w.heap.size W0.heap.size .ready none));rwa [World.size_alloc]at this,
   by rw[←hW1];exact (Below.heap_alloc _ _ _ (by simp)).trans (World.alloc_heap_new W0 _),hb1⟩
 refine ⟨W0.heap.size+1,[{ target:=.collected W0.heap.size,args:=#[] }],W1,{ target:=.fn (.func 166) #[.pointer (some ⟨Bm,0,none⟩)],args:=#[.func (.yield (W0.heap.size+1)) #[] #[]] },W1,166,
  #[.func (.yield (W0.heap.size+1)) #[] #[]] ++ #[.pointer (some ⟨Bm,0,none⟩)],W1,?_,?_,?_,?_,fun _=>h1,?_⟩
 ·rw[←hW1,←hsv];exact run_enterLoop_outer _ _ _ _ _
 ·simp[resolve,go_sem]
 ·intro f' hf';simp[Target.leads]at hf';subst hf';exact hFg
 ·simp[invoke,go_sem,eg]
 ·refine (zjd F (n - 1) hFg hro (by omega) (W0.heap.size+1) Bm b N S w0 (zW cs w fn sv w.heap.size (W0.heap.size+1) W0.heap.size)
   (fun pre r W hJ hl _ _=>zng cs hcs F (n - 1 - 1) w fn hfn _ w.heap.size (W0.heap.size+1) W0.heap.size (by omega) (by omega) (by omega) (Nat.le_refl _) (by omega) pre r W hJ (by omega)) W1 (zY cs _ _ _ _ _ _ _ hb1.size) ((hb1.cell (p:=⟨Bm,0,none⟩) hBm).trans hm) (hS.below hb1) hM).mono ?_
  rintro e W2 ⟨⟨v0,rfl⟩,ss,hln,hCm,h2⟩;obtain ⟨v,hv,hrow,hnil⟩:=h2.box;have hend:=run_endLoop (P:=Tryz.prog) h2.L (by simp[lA])
  obtain ⟨W3,hW3⟩:∃ W3,W2.putObj (W0.heap.size+1) (.loop { lA cs fn sv w.heap.size W0.heap.size .ready none with state:=.exhausted })=W3:=⟨_,rfl⟩
  rw[hW3]at hend;have hg3:W2.grownBy W3 (some (W0.heap.size+1)):=by rw[←hW3];exact grownBy_putObj_a _ _ _
  have hv3:W3.heap[w.heap.size]?=some (.cells #[v] 117 (0,0)):=by rw[←hW3];exact (World.putObj_heap_other (by omega)).trans hv
  have hK3:W3.heap[W0.heap.size]?=some (.deferred (some [])):=by rw[←hW3];exact (World.putObj_heap_other (by omega)).trans h2.K
  have hrow3:=hrow.kept hg3 (ownsRow_ne_a hrow h2.L (fun cur e=>by first | cases e | exact hne (Obj.cells.inj e).2.1))
  have hb3:Below w.heap.size w W3:=h2.below.grown hg3 h2.below.size (fun k e=>by cases e;omega)
  obtain ⟨hc3,hf3⟩:=cell_of_box_a hv3;clear hW3;refine ⟨none,W3,hend,?_⟩;gi_wp2
  rw[←hs0];refine ⟨by simp,.inl ⟨_,_,rfl,run_takeDeferred hK3,?_⟩⟩
  exact ⟨_,results_tmp rfl _ _ _,v,ss,rfl,hln,hCm,hrow3.kept (grownBy_putObj_a _ _ _) (ownsRow_ne_a hrow3 hK3 (fun cur e=>by first | cases e | exact hne (Obj.cells.inj e).2.1)),hnil,hb3.grown (grownBy_putObj_a _ _ _) hb3.size (fun k e=>by cases e;omega)⟩
end Go.Proofs.YtgaeikgoknoamaaGreat
namespace Go.Proofs.YtgaeikgoknoamaaGreat
open Go.RowKit Go.Maps Go.Sort Go.Shelf
attribute [local go_sem ↓] Go.wp_at_zero Go.wp_at_succ
theorem zn8 (f:Value) (w:World):Calls Tryz.prog 237 #[.slice none 0 0,.int .i64 0,.int .i64 0,f] w fun r w'=>r=.returned (.tuple #[])∧w'=w:=by
 go_enter Tryz.func237,Tryz.ntmps237;go_wp2_with fail
 go_loopw [8] (fun i wr=>i=.int .i64 1∧wr=w) (fun i _=>0)
 case atStart=>exact ⟨by go_num,rfl⟩
 case round =>
  obtain ⟨rfl,rfl⟩:=hrel;go_wp2_with fail
  first | go_end0 | skip
  first | exact ⟨rfl,rfl⟩ | exact ⟨rfl,_,by simp[results,Tryz.results210,go_sem],rfl,rfl⟩
theorem zh9 (f:Value) (w:World):Calls Tryz.prog 210 #[.slice none 0 0,.int .i64 0,.int .i64 0,.int .i64 0,f] w fun r w'=>r=.returned (.tuple #[])∧w'=w:=by
 go_enter Tryz.func210,Tryz.ntmps210;go_wp2_with fail
 go_loopw [1,2] (fun i j wr=>i=.int .i64 0∧j=.int .i64 0∧wr=w) (fun i j _=>0)
 case atStart=>exact ⟨rfl,rfl,rfl⟩
 case round =>
  obtain ⟨rfl,rfl,rfl⟩:=hrel;go_wp2_with fail
  refine (zn8 f _).mono ?_;rintro r w1 ⟨rfl,rfl⟩;go_wp2_with fail
  first | go_end0 | skip
  first | exact ⟨rfl,rfl⟩ | exact ⟨rfl,_,by simp[results,Tryz.results210,go_sem],rfl,rfl⟩
theorem zo7 (f:Value) (w:World):Calls Tryz.prog 165 #[.slice none 0 0,f] w fun r w'=>r=.returned (.tuple #[])∧w'=w:=by
 have HL:Hid (Calls Tryz.prog 201 #[.int .u64 0] w fun e w'=>e=.returned (.int .i64 0)∧w'=w):=aA (by
  have h3:=Any.bits_Len Tryz.lenT 0 w (by omega) (by omega)
  exact h3)
 have wr:IntKind.u64.wrap 0=0:=by simp[IntKind.wrap,IntKind.bits,IntKind.signed]
 go_enter Tryz.func165,Tryz.ntmps165;go_wp2_with fail
 refine HL.out.mono ?_;rintro e w1 ⟨rfl,rfl⟩;go_wp2_with fail
 refine (zh9 f _).mono ?_;rintro r w1 ⟨rfl,rfl⟩;go_wp2_with fail
 first | go_end0 | skip
 exact ⟨rfl,rfl⟩
theorem zzk (r:Rw):∀ ss:List Rw,ss.Pairwise (fun x y=>Op.bytesLess x.e.path y.e.path=true)→(∀ x∈ss,x.e.path≠r.e.path)→∃ s2:List Rw,s2.Perm (r :: ss)∧s2.Pairwise (fun x y=>Op.bytesLess x.e.path y.e.path=true)
 | [],_,_=>⟨[r],List.Perm.refl _,by simp⟩
 | x :: t,h,hn=>by
  obtain ⟨h1,h2⟩:=List.pairwise_cons.1 h;by_cases hr:Op.bytesLess r.e.path x.e.path=true
  ·refine ⟨r :: x :: t,List.Perm.refl _,List.pairwise_cons.2 ⟨fun y hy=>?_,h⟩⟩
   rcases List.mem_cons.1 hy with rfl | hy
   ·exact hr
   ·exact iG _ _ _ hr (h1 y hy)
  ·obtain ⟨s2,hp,hs⟩:=zzk r t h2 (fun y hy=>hn y (List.mem_cons_of_mem _ hy))
   refine ⟨x :: s2,((hp.cons x).trans (List.Perm.swap _ _ _)),List.pairwise_cons.2 ⟨fun y hy=>?_,hs⟩⟩
   rcases List.mem_cons.1 (hp.mem_iff.1 hy) with rfl | hy
   ·exact iS _ _ (by simpa using hr) (hn x List.mem_cons_self).symm
   ·exact h1 y hy
theorem zbj:∀ rs:List Rw,rs.Pairwise (fun x y=>x.e.path≠y.e.path)→∃ ss:List Rw,ss.Perm rs∧ss.Pairwise (fun x y=>Op.bytesLess x.e.path y.e.path=true)
 | [],_=>⟨[],List.Perm.refl _,List.Pairwise.nil⟩
 | r :: t,h=>by
  obtain ⟨h1,h2⟩:=List.pairwise_cons.1 h;obtain ⟨ss,hp,hs⟩:=zbj t h2;obtain ⟨s2,hp2,hs2⟩:=zzk r ss hs (fun x hx=>(h1 x (hp.mem_iff.1 hx)).symm)
  exact ⟨s2,hp2.trans (hp.cons r),hs2⟩
def zwa (S:Nat→Bs→Option En):Prop:=∀ i j p q e f,S i p=some e→S j q=some f→e.path=f.path→(i,p)=(j,q)
theorem nB.apart {w0:World} {S:Nat→Bs→Option En} {left:Lit→Bool} {ss:List ((Nat × Bs) × Rw)} (h:nB w0 S left ss) (ho:zwa S):(ss.map Prod.snd).Pairwise (fun x y=>x.e.path≠y.e.path):=by
 rw[List.pairwise_map];have h1:=h.one;rw[List.Nodup,List.pairwise_map]at h1;refine h1.imp_of_mem (fun {x y} hx hy hne he=>?_)
 exact hne (ho _ _ _ _ _ _ (h.was x hx).2.2.1 (h.was y hy).2.2.1 he)
theorem nB.mem {w0:World} {S:Nat→Bs→Option En} {ss:List ((Nat × Bs) × Rw)} (h:nB w0 S (fun _=>false) ss) (e:En):e∈(ss.map Prod.snd).map Rw.e↔∃ i p,i≤100∧p.length≤1048576∧S i p=some e:=by
 constructor
 ·intro he
  obtain ⟨r,hr,rfl⟩:=List.mem_map.1 he;obtain ⟨x,hx,rfl⟩:=List.mem_map.1 hr;obtain ⟨a1,a2,a3,-⟩:=h.was x hx;exact ⟨_,_,a1,a2,a3⟩
 ·rintro ⟨i,p,hi,hp,hS⟩
  obtain ⟨x,hx,hxe⟩:=List.mem_map.1 (h.all i p e hi hp hS rfl);obtain ⟨a1,a2,a3,-⟩:=h.was x hx;rw[hxe]at a3;have:x.2.e=e:=by rw[hS]at a3;exact (Option.some.inj a3).symm
  exact List.mem_map.2 ⟨x.2,List.mem_map.2 ⟨x,hx,rfl⟩,this⟩
theorem za5 (Bm b N:Nat) (S:Nat→Bs→Option En) (w0 w:World) (hBm:Bm<w.heap.size) (hm:w.cell? ⟨Bm,0,none⟩=some (.map (some b))) (hS:dZ w0 w b N S) (hN:N≤1000) :
  Calls Tryz.prog 164 #[.func (.func 166) #[] #[.pointer (some ⟨Bm,0,none⟩)]] w fun e w'=>∃ (v:Value) (ss:List ((Nat × Bs) × Rw)),e=.returned v∧ss.length≤N∧nB w0 S (fun _=>false) ss∧w'.ownsRow w.heap.size 91 4 v (ss.map Prod.snd).length (kT (ss.map Prod.snd))∧Below w.heap.size w w':=by
 have HA:=aA (callsIn_wide.1 (ze4 Fence.wide 5 trivial rfl (by omega) trivial Bm b N S w0 w hBm hm hS hN))
 clear hS hm;go_enter Tryz.func164,Tryz.ntmps164;go_wp2_with fail
 refine HA.out.mono ?_;rintro e w1 ⟨v,ss,rfl,hln,hC,hrow,-,hb⟩;have HC:=aA hC;have HRw:=aA hrow;have HB:=aA hb;clear hC hrow hb;go_wp2_with fail
 go_ret
 exact ⟨v,ss,rfl,hln,HC.out,HRw.out,HB.out⟩
theorem zwc {w:World} {g:Nat} {ss:List Rw} (hg:ss≠[]→g<w.heap.size) (hc:∀ i q r,ss[i]?=some r→q<4→w.cell? ⟨g,i * 4+q,none⟩=(eW r)[q]?) (hr:∀ r∈ss,aO .i64 w r.a r.e.chunks):RdI w (some ⟨g,0,none⟩) (ss.map Rw.e):=by
 intro hz;refine ⟨g,0,fun i=>((ss[i]?).map Rw.a).getD none,fun i=>((ss[i]?).map Rw.c).getD 0,rfl,hg (fun e=>hz (by rw[e];rfl)),fun i e he=>?_⟩
 rw[List.getElem?_map]at he;obtain ⟨r,hri,rfl⟩:=Option.map_eq_some_iff.1 he;simp only[hri,Option.map_some,Option.getD_some,Nat.zero_add];exact ⟨hc i 0 r hri (by omega),hc i 1 r hri (by omega),hc i 2 r hri (by omega),hc i 3 r hri (by omega),hr r (List.mem_of_getElem? hri)⟩
theorem zp9 (Bm b N:Nat) (S:Nat→Bs→Option En) (w0 w:World) (hBm:Bm<w.heap.size) (hm:w.cell? ⟨Bm,0,none⟩=some (.map (some b))) (hS:dZ w0 w b N S) (hN:N≤1000) (ho:zwa S) (hw0:Below w0.heap.size w0 w) :
  Calls Tryz.prog 119 #[.func (.func 166) #[] #[.pointer (some ⟨Bm,0,none⟩)],.func (.func 121) #[] #[]] w fun r w'=>∃ av cv rs,r=.returned (.slice av rs.length cv)∧eL rs∧(∀ e,e∈rs↔∃ i p,i≤100∧p.length≤1048576∧S i p=some e)∧RdI w' av rs∧Below w.heap.size w w':=by
 have HCo:=aA (za5 Bm b N S w0 w hBm hm hS hN);clear hS hm;go_enter Tryz.func119,Tryz.ntmps119;go_wp2_with fail
 refine HCo.out.mono ?_;rintro e w1 ⟨v,cs,rfl,hln,hC,hrow,hb1⟩;have HM:=aA hC.mem;obtain ⟨ss,hperm,hsort⟩:=zbj _ (hC.apart ho);have HRd:=aA (show ∀ r∈ss,aO .i64 w0 r.a r.e.chunks from fun r hr=>by
  obtain ⟨x,hx,rfl⟩:=List.mem_map.1 (hperm.mem_iff.1 hr);exact (hC.was x hx).2.2.2.1)
 have HB1:=aA hb1;have HB0:=aA (aB hw0 hb1);have HP:=aA hperm;have HSo:=aA hsort;have hlen:(cs.map Prod.snd).length≤1000:=by rw[List.length_map];omega
 have hsw:=hw0.size;have hsw1:=hb1.size;clear hC hperm hsort hb1 hw0 hln;generalize cs.map Prod.snd=rs at *;rcases hrow.2 with ⟨rfl,h0⟩ | ⟨g,cap,cur,rfl,hgw,hgb,hx⟩
 ·have hrs:rs=[]:=List.length_eq_zero_iff.1 h0
  subst hrs;go_wp2_with fail
  refine (zo7 _ _).mono ?_;rintro r w2 ⟨rfl,rfl⟩;go_wp2_with fail
  go_ret
  exact ⟨none,0,[],rfl,List.Pairwise.nil,fun e=>by rw[←HM.out e];simp,fun hz=>absurd rfl hz,HB1.out⟩
 ·have HSS:=aA (zq4 w.heap.size g rs.length cap rs ss w1 hrow rfl (by omega) HP.out HSo.out)
  have hgl:g<w1.heap.size:=(Array.getElem?_eq_some_iff.1 hgb).1;have HL:=aA (show rs.length=(ss.map Rw.e).length by rw[List.length_map];exact HP.out.length_eq.symm)
  clear hrow hgb hx;go_wp2_with fail
  refine HSS.out.mono ?_;rintro r w2 ⟨rfl,hcells,hk⟩;have B2:=aA (tM HB1.out hk (by omega) (by omega))
  have B02:=aA (tM HB0.out hk (by omega) (by omega))
  have hsz2:=hk.size;have RI:=aA (zwc (w:=w2) (g:=g) (ss:=ss) (fun _=>by omega) hcells (fun r hr=>(HRd.out r hr).below B02.out))
  clear hcells hk HSS;go_wp2_with fail
  go_ret
  refine ⟨some ⟨g,0,none⟩,cap,ss.map Rw.e,by rw[HL.out];rfl,?_,fun e=>?_,RI.out,B2.out⟩
  ·unfold eL
   rw[List.pairwise_map];exact HSo.out
  ·rw[←HM.out e]
   exact (HP.out.map Rw.e).mem_iff
theorem zbd (b N:Nat) (S:Nat→Bs→Option En) (w0 w:World) (hS:dZ w0 w b N S) (hN:N≤1000) (ho:zwa S) (hw0:Below w0.heap.size w0 w) :
  Calls Tryz.prog 69 #[.map (some b)] w fun r w'=>∃ av cv rs,r=.returned (.slice av rs.length cv)∧eL rs∧(∀ e,e∈rs↔∃ i p,i≤100∧p.length≤1048576∧S i p=some e)∧RdI w' av rs∧Below w.heap.size w w':=by
 have hV:Calls Tryz.prog 120 #[.map (some b)] w fun r w'=>r=.returned (.func (.func 166) #[] #[.pointer (some ⟨w.heap.size,0,none⟩)])∧w'=w.alloc (.cells #[.map (some b)] 120):=by
  go_enter Tryz.func120,Tryz.ntmps120;go_wp2_with fail
  go_ret
  exact ⟨rfl,rfl⟩
 have HV:=aA hV;have B0:=aA (aC w (.cells #[.map (some b)] 120));have HSo:=aA (zp9 w.heap.size b N S w0 (w.alloc (.cells #[.map (some b)] 120)) (by simp) (by simp) (hS.below B0.out) hN ho (aB hw0 B0.out))
 clear hV hS hw0;go_enter Tryz.func69,Tryz.ntmps69;go_wp2_with fail
 refine HV.out.mono ?_;rintro r w1 ⟨rfl,rfl⟩;go_wp2_with fail
 refine HSo.out.mono ?_;rintro r w2 ⟨av,cv,rs,rfl,h1,h2,h3,h4⟩;have H1:=aA h1;have H2:=aA h2;have H3:=aA h3;have H4:=aA (aB B0.out h4);clear h1 h2 h3 h4;go_wp2_with fail
 go_ret
 exact ⟨av,cv,rs,rfl,H1.out,H2.out,H3.out,H4.out⟩
end Go.Proofs.YtgaeikgoknoamaaGreat
namespace Go.Proofs.YtgaeikgoknoamaaGreat
open Go.RowKit Go.Maps
attribute [local go_sem ↓] Go.wp_at_zero Go.wp_at_succ
theorem zfa {es:List En} {q:Bs} {k:Nat} {e:En} (ha:atE es q=some k) (he:es[k]?=some e):aK es q=some e:=by rw[nY,ha];exact he
end Go.Proofs.YtgaeikgoknoamaaGreat
namespace Go.Proofs.YtgaeikgoknoamaaGreat
open Go.RowKit Go.Maps
def fB (w:World) (b:Nat) (u0 u1 u2:Value):Prop:=(w.cell? ⟨b,0,none⟩=some u0∧w.cell? ⟨b,1,none⟩=some u1∧w.cell? ⟨b,2,none⟩=some u2)∧w.frozen? ⟨b,0,none⟩=false∧w.frozen? ⟨b,1,none⟩=false∧w.frozen? ⟨b,2,none⟩=false
theorem fB.new (w:World) (u0 u1 u2:Value) (t:TypeId):fB (w.alloc (.cells #[u0,u1,u2] t)) w.heap.size u0 u1 u2:=⟨⟨by simp,by simp,by simp⟩,by simp,by simp,by simp⟩
theorem fB.lt {w:World} {b:Nat} {u0 u1 u2:Value} (h:fB w b u0 u1 u2):b<w.heap.size:=World.block_lt_of_cell? w ⟨b,0,none⟩ h.1.1
theorem fB.kept {S:Nat→Prop} {w w':World} {b:Nat} {u0 u1 u2:Value} (h:fB w b u0 u1 u2) (hk:aD S w w') (hn:¬ S b):fB w' b u0 u1 u2 :=
 ⟨⟨(hk.cell (p:=⟨b,0,none⟩) h.lt hn).trans h.1.1,(hk.cell (p:=⟨b,1,none⟩) h.lt hn).trans h.1.2.1,(hk.cell (p:=⟨b,2,none⟩) h.lt hn).trans h.1.2.2⟩,(hk.frozen (p:=⟨b,0,none⟩) h.lt hn).trans h.2.1,(hk.frozen (p:=⟨b,1,none⟩) h.lt hn).trans h.2.2.1,(hk.frozen (p:=⟨b,2,none⟩) h.lt hn).trans h.2.2.2⟩
theorem fB.below {w w':World} {b:Nat} {u0 u1 u2:Value} (h:fB w b u0 u1 u2) (hk:Below w.heap.size w w'):fB w' b u0 u1 u2:=h.kept (S:=fun _=>False) (aD.of_below hk) id
theorem aD.three (w:World) (b:Nat) (u0 u1 u2:Value):aD (fun x=>x=b) w (((w.setCell ⟨b,0,none⟩ u0).setCell ⟨b,1,none⟩ u1).setCell ⟨b,2,none⟩ u2) :=
 aD.setCell (S:=fun x=>x=b) (p:=⟨b,2,none⟩) (aD.two w b 0 1 u0 u1) (fun _=>rfl) u2
def yV (q:Int) (ns:List Bs) (w:World) (r:Ending) (w':World):Prop :=
 ∃ av cv,r=.returned (.agg #[.int .i64 q,.slice av ns.length cv])∧cJ w.heap.size w' (.slice av ns.length cv) ns∧Below w.heap.size w w'
theorem yV.of {q:Int} {ns:List Bs} {w w3:World} {B b n:Nat} {av:Option Addr} {cv:Nat} {u v:Value} (hB:b<B) (hw:w.heap.size≤b) (hn:n=ns.length) (hG:cJ B w3 (.slice av n cv) ns) (hb:Below w.heap.size w w3) :
  yV q ns w (.returned (.agg #[.int .i64 q,.slice av n cv])) ((w3.setCell ⟨b,0,none⟩ u).setCell ⟨b,1,none⟩ v):=by
 subst hn;exact ⟨av,cv,rfl,(hG.kept (aD.two w3 b 0 1 u v) (fun x h1 h2=>by have:=(hG.lt x h1).1;omega)).mono (by omega),(hb.setCell hw _).setCell hw _⟩
theorem yV.bad {q:Int} {w w3:World} {b:Nat} {u v:Value} (hw:w.heap.size≤b) (hb:Below w.heap.size w w3) :
  yV q [] w (.returned (.agg #[.int .i64 q,.slice none 0 0])) ((w3.setCell ⟨b,0,none⟩ u).setCell ⟨b,1,none⟩ v) :=
 ⟨none,0,rfl,cJ.nil _ _,(hb.setCell hw _).setCell hw _⟩
theorem zq5 {ms:List Int} {z:Int} (h:∀ j,j<ms.length→ms.getD j 0≠z):ms.contains z=false:=by
 simp only[List.contains_eq_mem,decide_eq_false_iff_not];intro hm;obtain ⟨j,hj,e⟩:=List.mem_iff_getElem.1 hm;exact h j hj (by simp[List.getD_eq_getElem?_getD,hj,e])
theorem zha {ms:List Int} {z:Int} {j:Nat} (hj:j<ms.length) (h:ms.getD j 0=z):ms.contains z=true:=by
 simp only[List.contains_eq_mem,decide_eq_true_eq];have:ms.getD j 0=ms[j]:=by simp[List.getD_eq_getElem?_getD,hj]
 rw[←h,this];exact List.getElem_mem hj
theorem tN (a:Option Addr) (c:Nat) (ms:List Int) (z:Int) (w:World) (h:aO .i64 w a ms) (hl:ms.length≤1048576) :
  Calls Tryz.prog 95 #[.slice a ms.length c,.int .i64 z] w fun e w'=>e=.returned (.bool (ms.contains z))∧w'=w:=by
 have HA:=aA h;clear h;generalize hr:ms.contains z=r;have HR:=aA hr;clear hr;go_enter Tryz.func95,Tryz.ntmps95;go_wp2
 go_loop [5] (fun i=>∃ k:Nat,k≤ms.length∧i=.int .i64 k∧∀ j,j<k→ms.getD j 0≠z) (fun i=>ms.length - (intOf i).toNat)
 case atStart=>exact ⟨0,Nat.zero_le _,rfl,fun j hj=>absurd hj (by omega)⟩
 case round =>
  obtain ⟨k,hk,rfl,hF⟩:=hrel;have HF:=aA hF;clear hF;by_cases hlt:k<ms.length
  ·obtain ⟨b,off,rfl,hb1,hc⟩:=HA.out (by intro e;simp[e]at hlt)
   have hc1:=hc k hlt;generalize hy:ms.getD k 0=y at hc1;have HY:=aA hy;clear hy hc;by_cases e:y=z
   ·have e':(y==z)=true:=by simpa using e
    have HE:=aA e;clear e;go_wp2
    go_ret
    exact ⟨dD (by rw[←HR.out];exact (zha hlt (HY.out.trans HE.out)).symm),rfl⟩
   ·have e':(y==z)=false:=by simpa using e
    go_wp2
    go_round
    case rel=>exact ⟨k+1,by omega,by go_num,fun j hj=>by
     by_cases ej:j=k
     ·subst ej;rw[HY.out];exact e
     ·exact HF.out j (by omega)⟩
    case measure=>simp[intOf];omega
  ·go_wp2
   go_ret
   exact ⟨dD (by rw[←HR.out];exact (zq5 (fun j hj=>HF.out j (by omega))).symm),rfl⟩
def dR (acc:List Int) (z:Int):List Int:=if acc.contains z then acc else acc ++ [z]
def cZ (zs:List Int):List Int:=zs.foldl dR []
def dE (es:List En):List Int:=es.flatMap En.chunks
theorem zd1 (zs:List Int) (z:Int):cZ (zs ++ [z])=dR (cZ zs) z:=by simp[cZ]
theorem zK (zs:List Int):(cZ zs).length≤zs.length:=by
 suffices ∀ (zs acc:List Int),(zs.foldl dR acc).length≤acc.length+zs.length by simpa [cZ] using this zs []
 intro zs
 induction zs with
 | nil=>intro acc;simp
 | cons z r ih =>
  intro acc;have h1:=ih (dR acc z);have h2:(dR acc z).length≤acc.length+1:=by unfold dR;split <;> simp
  simp only[List.foldl_cons,List.length_cons];omega
def kJ (es:List En) (j:Nat) (e:En) (k:Nat):List Int:=dE (es.take j)++e.chunks.take k
theorem zb4 {es:List En} {j k:Nat} {e:En} {z:Int} (h:e.chunks[k]?=some z):kJ es j e (k+1)=kJ es j e k ++ [z]:=by
 unfold kJ;rw[cT h,List.append_assoc]
theorem zs7 {es:List En} {j k:Nat} {e:En} (he:es[j]?=some e) (hk:e.chunks.length≤k):kJ es j e k=dE (es.take (j+1)):=by
 unfold kJ;rw[List.take_of_length_le hk,cT he];simp[dE]
theorem zc4 (es:List En) (j:Nat) (e:En):kJ es j e 0=dE (es.take j):=by simp[kJ]
theorem yX {es:List En} (h:∀ e∈es,e.chunks.length≤1024):(dE es).length≤es.length * 1024:=by
 induction es with
 | nil=>simp[dE]
 | cons e r ih =>
  have h1:=ih (fun x hx=>h x (List.mem_cons_of_mem _ hx))
  have h2:=h e (List.mem_cons_self ..);simp only[dE,List.flatMap_cons,List.length_append,List.length_cons]at h1 ⊢;omega
theorem zb6 (a:Option Addr) (c n:Nat) (es:List En) (w:World) (h:RdE w a es) (hn:n=es.length) (hl:es.length≤512) (hs:∀ e∈es,e.chunks.length≤1024) :
  Calls Tryz.prog 94 #[.slice a n c] w fun r w'=>∃ v,r=.returned v∧w'.ownsRow w.heap.size 2 1 v (cZ (dE es)).length ((cZ (dE es)).map (Value.int .i64))∧Below w.heap.size w w':=by
 subst hn;obtain ⟨i0,hi0,hz0,hz1,hz2⟩:=info_parts Tryz.infoI64;have HA:=aA h;have HS:=aA hs;clear h hs;go_enter Tryz.func94,Tryz.ntmps94;go_wp2_with fail
 go_loopw [3,4] (fun v i wr=>∃ j:Nat,j≤es.length∧i=.int .i64 j∧Hid (wr.ownsRow w.heap.size 2 1 v (cZ (dE (es.take j))).length ((cZ (dE (es.take j))).map (Value.int .i64)))∧Hid (Below w.heap.size w wr)) (fun _ i _=>es.length - (intOf i).toNat)
 case atStart=>exact ⟨0,Nat.zero_le _,rfl,aA (World.ownsRow_made w #[] 0 (Nat.le_refl _) (Nat.zero_le _) rfl),aA (aC _ _)⟩
 case round =>
  obtain ⟨j,hj,rfl,HO,HW⟩:=hrel;by_cases hlt:j<es.length
  ·obtain ⟨b,off,e,x,cc,rfl,hb,he,c0,c1,c2,c3,hr⟩:=HA.out.at hlt
   have HX:=aA he;have HR:=aA hr;have hsm:=HS.out e (List.mem_of_getElem? he);have HC3:=aA c3;clear he hr c0 c1 c2 c3;rw[←zc4 es j e]at HO;go_wp2_with fail
   have hct:(dE (es.take j)).length≤512 * 1024:=by
    have h1:=yX (es:=es.take j) (fun y hy=>HS.out y (List.mem_of_mem_take hy))
    have h2:=gN hj;omega
   go_loopw [3,5] (fun v i w2=>∃ k:Nat,k≤e.chunks.length∧i=.int .i64 k∧Hid (w2.ownsRow w.heap.size 2 1 v (cZ (kJ es j e k)).length ((cZ (kJ es j e k)).map (Value.int .i64)))∧Hid (Below w.heap.size w w2)) (fun _ i _=>e.chunks.length - (intOf i).toNat)
   case atStart=>exact ⟨0,Nat.zero_le _,rfl,HO,HW⟩
   case round =>
    obtain ⟨k,hk,rfl,HO2,HW2⟩:=hrel;have c3:=(HW2.out.cell (p:=⟨b,off+j * 4+3,none⟩) hb).trans HC3.out;by_cases hkl:k<e.chunks.length
    ·obtain ⟨p1,r1,rfl,hp1,hy1⟩:=(HR.out.below HW2.out) (by intro e;simp[e]at hkl)
     have y1:=hy1 k hkl;have z1:e.chunks[k]?=some (e.chunks.getD k 0):=by rw[List.getD_eq_getElem?_getD,List.getElem?_eq_getElem hkl];rfl
     generalize e.chunks.getD k 0=z at y1 z1;have HU:=aA ((congrArg cZ (zb4 (es:=es) (j:=j) z1)).trans (zd1 _ z));have hcl:=zK (kJ es j e k);have hcu:(kJ es j e k).length≤512 * 1024+1024:=by unfold kJ;rw[List.length_append,List.length_take];omega
     clear hy1 z1;generalize cZ (kJ es j e k)=ms at *;obtain ⟨av,cv,rfl⟩:=aQ HO2.out;have RM:=aA (cM HO2.out rfl);have HAm:=aA (tN av cv ms z _ RM.out (by omega))
     have hm1:ms.length+1≤maxLen:=by unfold maxLen;omega
     have hm2:(ms.length+1) * 8≤140737488355328:=by omega
     have hsz:=HW2.out.size;cases hcn:ms.contains z
     ·have HN:=aA (show dR ms z=ms ++ [z] from by unfold dR;rw[hcn];rfl)
      rw[hcn]at HAm;clear hcn;go_wp2_with (first | (go_at_call 95;refine HAm.out.mono ?_;rintro r w1 ⟨rfl,rfl⟩) | (at_builtin;refine bS rfl (.tmp 34) (.tmp 43) 48 rfl w.heap.size 2 i0 (.int .i64 0) 1 8 Tryz.underlying48 hi0 hz0 hz1 hz2 rfl (by decide) _ _ _ rfl HO2.out rfl rfl (by intro u hu;simp at hu;subst hu;rfl) hm1 hm2 hsz ?_;intro v' w3 hown2 hkept;have O2:=aA hown2;have K2:=aA hkept;clear hown2 hkept))
      go_roundw
      case rel=>exact ⟨k+1,by omega,by go_num,aA (by rw[HU.out,HN.out];simpa using O2.out),aA (HW2.out.trans (K2.out.below hsz (fun q hq hS=>by have:=(HO2.out.lt _ hS).1;omega)))⟩
      case measure=>simp[intOf];omega
     ·have HN:=aA (show dR ms z=ms from by unfold dR;rw[hcn];rfl)
      rw[hcn]at HAm;clear hcn;go_wp2_with (go_at_call 95;refine HAm.out.mono ?_;rintro r w1 ⟨rfl,rfl⟩)
      go_roundw
      case rel=>exact ⟨k+1,by omega,by go_num,aA (by rw[HU.out,HN.out];exact HO2.out),HW2⟩
      case measure=>simp[intOf];omega
    ·have HU:=aA (zs7 (k:=k) HX.out (by omega))
     go_wp2_with fail
     go_roundw
     case rel=>exact ⟨j+1,by omega,by go_num,aA (by rw[←HU.out];exact HO2.out),HW2⟩
     case measure=>simp[intOf];omega
  ·have hE:es.take j=es:=List.take_of_length_le (by omega)
   rw[hE]at HO;clear hE;go_wp2_with fail
   go_ret
   exact ⟨_,rfl,HO.out,HW.out⟩
theorem fX {e:En} (h:aI e=0):e.chunks.length≤3:=by
 have hp:=bQ h;cases h1:gR e
 ·rw[gG hp h1]at h;omega
 ·cases h2:kW e
  ·rw[uR hp h1 h2]at h;omega
  ·cases h3:lQ e
   ·rw[uQ hp h1 h2 h3]at h;omega
   ·have h2':0≤e.size∧e.size≤24:=by simpa [kW] using h2
    have h3':(e.chunks.length:Int)=(e.size+7) / 8:=by simpa [lQ] using h3
    omega
def zzl (q:Int) (zs:List Int) (w:World) (r:Ending) (w':World):Prop :=
 ∃ av cv,r=.returned (.agg #[.int .i64 q,.slice av zs.length cv])∧w'.ownsRow w.heap.size 2 1 (.slice av zs.length cv) zs.length (zs.map (Value.int .i64))∧Below w.heap.size w w'
end Go.Proofs.YtgaeikgoknoamaaGreat
namespace Go.Proofs.YtgaeikgoknoamaaGreat
open Go.RowKit Go.Maps
attribute [local go_sem ↓] Go.wp_at_zero Go.wp_at_succ
def cP (p:Bs):Bs:=tQ (bF p.tail)
def fZ (es:List En) (q:Bs):List Bs:=(cO es q).map fun e=>cP e.path
theorem qB {S:Nat→Bs→Option En} {i:Nat} {p:Bs} {e:En}:xF S i p=some e↔dN S p 4=some i∧S i p=some e:=by
 unfold xF nL;by_cases h:dN S p 4=some i <;> simp[h]
theorem zqh {ls:List (List En)}:zwa (xF (cY ls)):=by
 intro i j p q e f h1 h2 hpe;obtain ⟨s1,e1⟩:=qB.1 h1;obtain ⟨s2,e2⟩:=qB.1 h2;obtain ⟨_,_,_,p1⟩:=iV e1;obtain ⟨_,_,_,p2⟩:=iV e2;have hpq:p=q:=by rw[←p1,←p2,hpe]
 subst hpq;rw[s1]at s2;rw[Option.some.inj s2]
theorem zj6 {ls:List (List En)} (hsm:fV ls) (e:En):(∃ i p,i≤100∧p.length≤1048576∧xF (cY ls) i p=some e)↔∃ k,gD ls e.path=some k∧cY ls k e.path=some e:=by
 constructor
 ·rintro ⟨i,p,-,-,h⟩
  obtain ⟨s1,e1⟩:=qB.1 h;obtain ⟨_,_,_,p1⟩:=iV e1;rw[p1];exact ⟨i,s1,e1⟩
 ·rintro ⟨k,s1,e1⟩
  obtain ⟨es,hes,he,-⟩:=iV e1;have hk:=(jY (show dN (cY ls) e.path 4=some k from s1)).1
  exact ⟨k,e.path,by omega,((hsm es hes).2 e he).1,qB.2 ⟨s1,e1⟩⟩
theorem zk1 {ls:List (List En)} (h:∀ es∈ls,aV es):∀ n,n≤ls.length→(aY (ls.take n)).length≤12 * n
 | 0,_=>by simp[aY]
 | n+1,hn=>by
  have ih:=zk1 h n (by omega)
  have hL:ls[n]?=some (ls[n]'(by omega)):=List.getElem?_eq_getElem (by omega)
  have hm:=(h _ (List.mem_of_getElem? hL)).len;generalize ls[n]'(by omega)=L at *
  have ht:ls.take (n+1)=ls.take n ++ [L]:=by rw[List.take_add_one,hL];rfl
  rw[ht,mS];have:=zg3 L (aY (ls.take n));omega
def oE (ls:List (List En)):List Bs:=if bY ls=0 then (aY ls).map En.path else []
theorem xQ (a:Option Addr) (c n:Nat) (ls:List (List En)) (w:World) (h:RdL w a ls) (hn:n=ls.length) (hl:ls.length≤1048576) (hs:fV ls) :
  Calls Tryz.prog 23 #[.slice a n c] w (yV (bY ls) (oE ls) w):=by
 subst hn;obtain ⟨i1,ki,kz0,kz1,kz2⟩:=info_parts rK;have X0:=aA (Box.new w (.int .i64 0) (.slice none 0 0) 58);have B0:=aA (aC w (.cells #[.int .i64 0,.slice none 0 0] 58));have HR:=aA h;have HSL:=aA hs;have HLF:=aA (kR a c ls.length ls _ (h.below B0.out) rfl hl hs);clear h hs;by_cases hz:bY ls=0
 ·obtain ⟨h4,hRs⟩:=fJ.1 hz
  rw[hz]at HLF ⊢;have HRr:=aA hRs;have HRs:=aA (wJ hRs HSL.out);have HCC:=aA (show oE ls=(aY ls).map En.path from by rw[oE,if_pos hz])
  clear hz hRs;go_enter Tryz.func23,Tryz.ntmps23;go_wp2_with fail
  refine HLF.out.mono ?_;rintro r w1 ⟨rfl,hb1⟩;have B1:=aA (aB B0.out hb1);have X1:=aA (X0.out.below hb1);have hlt1:w.heap.size<w1.heap.size:=X1.out.1.lt;clear hb1 X0 B0 HLF;go_wp2_with fail
  refine (yT a c ls.length ls w1 (HR.out.below B1.out) rfl h4 HRs.out).mono ?_;rintro r w2 ⟨b,N,rfl,hbb,hN,hM,hb2⟩;have HM:=aA hM;have BB2:=aA hb2;clear hM hb2;go_wp2_with fail
  refine (zri b N (cY ls) w1 w2 HM.out).mono ?_;rintro r w3 ⟨b3,rfl,hb3b,hM3,hb3⟩;have HM3:=aA hM3;have BB3:=aA (aB BB2.out hb3);clear hM3 hb3 HM BB2;go_wp2_with fail
  refine (zbd b3 N (xF (cY ls)) w1 w3 HM3.out (by omega) zqh BB3.out).mono ?_
  rintro r w4 ⟨av,cv,rs,rfl,hri,hmem,hRI,hb4⟩;have RK:=aA hRI;have BB4:=aA (aB BB3.out hb4);have HPL:=aA (show oE ls=rs.map En.path from by
   rw[HCC.out];exact (zod (zmg HRr.out h4 hri (fun e=>(hmem e).trans (zj6 HSL.out e)))).symm)
  have HKM:=aA (show ∀ e∈rs,e.path.length≤1048576 from fun e he=>by
   obtain ⟨k,s1,e1⟩:=(zj6 HSL.out e).1 ((hmem e).1 he);obtain ⟨es,hes,hee,-⟩:=iV e1;exact ((HSL.out es hes).2 e hee).1)
  have hkl:rs.length≤48:=by
   have h1:=zk1 HRr.out ls.length (Nat.le_refl _);rw[List.take_length]at h1;have h2:=congrArg List.length (HCC.out.symm.trans HPL.out);rw[List.length_map,List.length_map]at h2;omega
  have hs4:=BB4.out.size;clear hri hmem hRI hb4 HM3 BB3 HCC;go_wp2_with fail
  go_loopw [4,18] (fun v i wr=>∃ k:Nat,k≤rs.length∧i=.int .i64 k∧Hid (cJ w4.heap.size wr v ((rs.take k).map En.path))∧Hid (Below w4.heap.size w4 wr)) (fun _ i _=>rs.length - (intOf i).toNat)
  case atStart=>exact ⟨0,Nat.zero_le _,rfl,aA (cJ.nil _ _),aA (Below.refl _ _)⟩
  case round =>
   obtain ⟨k,hk,rfl,HO,HW⟩:=hrel;have hsz:=HW.out.size;obtain ⟨lv,lc,hv⟩:=HO.out.shape;have hln:((rs.take k).map En.path).length=k:=by rw[List.length_map,List.length_take];omega
   rw[hln]at hv;subst hv;by_cases hlt:k<rs.length
   ·obtain ⟨bb,off,e,x,cc,rfl,hbk,he,c0,c1,c2,c3,hr⟩:=(RK.out.below HW.out).at hlt
    have hpl:=HKM.out e (List.mem_of_getElem? he);have HX:=aA he;clear he hr;have BA:=aA (aC wr (.cells #[.int .i64 e.size,.slice x e.chunks.length cc,.string (str e.path),.int .i64 e.kind] 91));go_wp2_with fail
    refine (vG (str e.path) _ (by rw[aP];omega)).mono ?_
    rintro r w5 ⟨rfl,hb5⟩;have HW5:=aA (aB HW.out (aB BA.out hb5));have O5:Hid (w5.ownsRow w4.heap.size 9 1 (.slice lv k lc) k (((rs.take k).map En.path).map vS)):=by have:=HO.out.below (aB BA.out hb5);unfold cJ at this;rw[hln]at this;exact this
    have hsz5:=HW5.out.size;have HLn:=aA hln;have hm1:k+1≤maxLen:=by unfold maxLen;omega
    have hm2:(k+1) * 16≤140737488355328:=by omega
    clear hb5 hln HO HW BA c0 c1 c2 c3;go_wp2_with (at_builtin;refine bS rfl (.tmp 22) (.tmp 26) 25 rfl w4.heap.size 9 i1 (.string ⟨#[]⟩) 1 16 Tryz.underlying25 ki kz0 kz1 kz2 rfl (by decide) _ _ _ rfl O5.out rfl rfl (by intro u hu;simp at hu;subst hu;rfl) hm1 hm2 hsz5 ?_;intro v' w6 hown6 hkept;have O6:=aA (show cJ w4.heap.size w6 v' (((rs.take k).map En.path) ++ [e.path]) from cJ.snoc (by rw[HLn.out];exact hown6) rfl);have K6:=aA hkept;clear hown6 hkept)
    go_roundw
    case rel =>
     refine ⟨k+1,by omega,by go_num,aA ?_,aA ?_⟩
     ·rw[cT HX.out,List.map_append];exact O6.out
     ·exact aD.below_own HW5.out hsz5 O5.out K6.out
    case measure=>simp[intOf];omega
   ·have hke:k=rs.length:=by omega
    have HO2:Hid (cJ w4.heap.size wr (.slice lv k lc) (oE ls)):=by have:=HO.out;rw[List.take_of_length_le (by omega)]at this;rw[HPL.out];exact aA this
    have HLn:=aA (show k=(oE ls).length from by rw[HPL.out,List.length_map];exact hke)
    have BB5:=aA (aB BB4.out HW.out);obtain ⟨⟨t0,t1⟩,t2,t3⟩:=X1.out.below BB5.out;have B5:=aA (aB B1.out BB5.out);clear hke hln;go_wp2_with fail
    exact bodyPost_ret (v:=.agg #[.int .i64 0,.slice lv k lc]) (by simp[results,Tryz.results23,go_sem,t0,t1]) rfl (yV.of (by omega) (Nat.le_refl _) HLn.out HO2.out B5.out)
 ·have HCC:=aA (show oE ls=[] from by rw[oE,if_neg hz])
  generalize bY ls=F at *;have hz2:(F != 0)=true:=by simp;exact hz
  clear hz;go_enter Tryz.func23,Tryz.ntmps23;go_wp2_with fail
  refine HLF.out.mono ?_;rintro r w1 ⟨rfl,hb1⟩;have B1:=aA (aB B0.out hb1);obtain ⟨⟨t0,t1⟩,t2,t3⟩:=X0.out.below hb1;clear hb1;go_wp2_with fail
  exact bodyPost_ret (v:=.agg #[.int .i64 F,.slice none 0 0]) (by simp[results,Tryz.results23,go_sem,t0,t1]) rfl (by rw[HCC.out];exact yV.bad (Nat.le_refl _) B1.out)
theorem zek {es:List (List En)} {p:Bs} (h:kS es p=0):dP es p=0:=by
 unfold kS at h;by_cases h0:dP es p=0
 ·exact h0
 ·rw[if_neg h0]at h;exact h
theorem zd3 {es:List (List En)} {p:Bs} (h:kS es p=0):∃ e,aK (aY es) p=some e∧kI es p=[e]:=by
 obtain ⟨h1,h2⟩:=zrh (zek h);rw[h1]at h;cases hf:aK (aY es) p with
 | none=>rw[hf]at h;simp at h
 | some e=>exact ⟨e,rfl,by rw[h2,hf];rfl⟩
end Go.Proofs.YtgaeikgoknoamaaGreat
namespace Go.Proofs.YtgaeikgoknoamaaGreat
open Go.RowKit Go.Maps
theorem zv3:∀ (rs:List Rw) (j:Nat) (r:Rw) (e':En),rs[j]?=some r→e'.chunks.length=r.e.chunks.length →
  (((aZ rs).set (j * 4) (.string (str e'.path))).set (j * 4+1) (.int .i64 e'.kind)).set (j * 4+2) (.int .i64 e'.size)=aZ (rs.set j ⟨e',r.a,r.c⟩)
 | [],j,r,e',h,_=>by simp at h
 | x :: rs,0,r,e',h,hl=>by
  simp only[List.getElem?_cons_zero,Option.some.injEq]at h;subst h;simp[aZ,cA,hl]
 | x :: rs,j+1,r,e',h,hl=>by
  have ih:=zv3 rs j r e' (by simpa using h) hl
  have e1:aZ (x :: rs)=cA x++aZ rs:=rfl;have e2:aZ ((x :: rs).set (j+1) ⟨e',r.a,r.c⟩)=cA x++aZ (rs.set j ⟨e',r.a,r.c⟩):=rfl;have hx:(cA x).length=4:=rfl;rw[e1,e2,←ih,List.set_append_right _ _ (by omega),List.set_append_right _ _ (by omega),List.set_append_right _ _ (by omega),hx]
  rw[show (j+1) * 4 - 4=j * 4 by omega,show (j+1) * 4+1 - 4=j * 4+1 by omega,show (j+1) * 4+2 - 4=j * 4+2 by omega]
theorem GE.open {B T:Nat} {w:World} {a:Option Addr} {n c:Nat} {es:List En} {j:Nat} {e:En} (h:GE B T w (.slice a n c) es) (he:es[j]?=some e) :
  ∃ (G:Nat) (x:Option Addr) (y:Nat),a=some ⟨G,0,none⟩∧B≤G∧G<T∧w.cell? ⟨G,j * 4,none⟩=some (.string (str e.path))∧w.cell? ⟨G,j * 4+1,none⟩=some (.int .i64 e.kind)∧w.cell? ⟨G,j * 4+2,none⟩=some (.int .i64 e.size)∧w.cell? ⟨G,j * 4+3,none⟩=some (.slice x e.chunks.length y) ∧
   (∀ i,w.frozen? ⟨G,i,none⟩=false)∧Own .i64 w x e.chunks∧(∀ b,zbb x b→B≤b∧b<T∧b≠G) ∧
   ∀ (e':En) (w2:World),e'.chunks.length=e.chunks.length→Own .i64 w2 x e'.chunks→aD (zbb x) (((w.setCell ⟨G,j * 4,none⟩ (.string (str e'.path))).setCell ⟨G,j * 4+1,none⟩ (.int .i64 e'.kind)).setCell ⟨G,j * 4+2,none⟩ (.int .i64 e'.size)) w2 →
    zg2 (((w.setCell ⟨G,j * 4,none⟩ (.string (str e'.path))).setCell ⟨G,j * 4+1,none⟩ (.int .i64 e'.kind)).setCell ⟨G,j * 4+2,none⟩ (.int .i64 e'.size)) w2 →
    GE B T w2 (.slice a n c) (es.set j e'):=by
 obtain ⟨rs,hrs,h1,h2,h3,h4,h5⟩:=h;have hj:=(List.getElem?_eq_some_iff.1 he).1;have hl:rs.length=es.length:=by rw[←hrs,List.length_map]
 obtain ⟨r,hr⟩:∃ r,rs[j]?=some r:=⟨rs[j]'(by omega),List.getElem?_eq_getElem (by omega)⟩
 have hre:r.e=e:=by
  have:(rs.map Rw.e)[j]?=some r.e:=by rw[List.getElem?_map,hr];rfl
  rw[hrs,he]at this;exact (Option.some.inj this).symm
 rcases h1.2 with ⟨_,h0⟩ | ⟨G,cap,cur,h',hb,hh,hnc,hcm,hcs,htake⟩
 ·omega
 ·simp only[Value.slice.injEq]at h'
  obtain ⟨rfl,rfl,rfl⟩:=h';have hc:=fun q hq=>(h1.cellAt (j * 4+q) (by omega)).trans (jM rs j q r hr hq)
  have hm:=List.mem_of_getElem? hr;have hne:∀ b,zbb r.a b→b≠G:=fun b hb e=>aX h1 (h2 r hm) (by decide) (by subst e;rfl) (mU hb)
  refine ⟨G,r.a,r.c,rfl,hb,h5 G rfl,?_,?_,?_,?_,fun i=>h1.frozenAt i,?_,fun b hb=>⟨((h2 r hm).lt b (mU hb)).1,h4 r hm b hb,hne b hb⟩,?_⟩
  ·have:=hc 0 (by decide);rw[←hre];first | (simp[cA];done) | (simpa [cA] using this)
  ·have:=hc 1 (by decide);rw[←hre];first | (simp[cA];done) | (simpa [cA] using this)
  ·have:=hc 2 (by decide);rw[←hre];first | (simp[cA];done) | (simpa [cA] using this)
  ·have:=hc 3 (by decide);rw[←hre];first | (simp[cA];done) | (simpa [cA] using this)
  ·rw[←hre];exact mC (h2 r hm) rfl
  ·intro e' w2 hlen ho hk hs
   have hlen':e'.chunks.length=r.e.chunks.length:=by rw[hre];exact hlen
   have s1:=(((h1.stored (j * 4) (.string (str e'.path))).1.stored (j * 4+1) (.int .i64 e'.kind)).1.stored (j * 4+2) (.int .i64 e'.size)).1;rw[zv3 rs j r e' hr hlen']at s1;have hmapa:(rs.set j ⟨e',r.a,r.c⟩).map Rw.a=rs.map Rw.a:=by
    rw[List.map_set];apply List.ext_getElem?
    intro i;by_cases hi:i=j
    ·subst hi;rw[List.getElem?_set_self (by simp;omega),List.getElem?_map,hr];rfl
    ·rw[List.getElem?_set_ne (fun e=>hi e.symm)]
   have hk1:aD (fun b=>b=G) w (((w.setCell ⟨G,j * 4,none⟩ (.string (str e'.path))).setCell ⟨G,j * 4+1,none⟩ (.int .i64 e'.kind)).setCell ⟨G,j * 4+2,none⟩ (.int .i64 e'.size)) :=
    aD.setCell (S:=fun b=>b=G) (p:=⟨G,j * 4+2,none⟩) (aD.two _ _ _ _ _ _) (fun _=>rfl) _
   refine ⟨rs.set j ⟨e',r.a,r.c⟩,by rw[List.map_set,hrs],?_,?_,?_,?_,h5⟩
   ·rw[List.length_set]
    exact aH s1 hk (fun b hb hS=>hne b hS (by simpa [Value.ownBlock,eq_comm] using hb))
   ·intro r0 hr0
    obtain ⟨i,hi⟩:=List.mem_iff_getElem?.1 hr0;by_cases e:i=j
    ·subst e
     rw[List.getElem?_set_self (by omega)]at hi
     simp only[Option.some.injEq]at hi;subst hi;have r1:(((w.setCell ⟨G,i * 4,none⟩ (.string (str e'.path))).setCell ⟨G,i * 4+1,none⟩ (.int .i64 e'.kind)).setCell ⟨G,i * 4+2,none⟩ (.int .i64 e'.size)).ownsRow B 2 1 (.slice r.a r.e.chunks.length r.c) r.e.chunks.length (r.e.chunks.map (Value.int .i64)) :=
      aH (h2 r hm) hk1 (fun b hb e=>aX h1 (h2 r hm) (by decide) (by subst e;rfl) hb)
     show w2.ownsRow B 2 1 (.slice r.a e'.chunks.length r.c) e'.chunks.length (e'.chunks.map (Value.int .i64))
     rw[hlen'];rcases (h2 r hm).2 with ⟨h',h0⟩ | ⟨g,cap',cur',h',_⟩
     ·simp only[Value.slice.injEq]at h'
      have e1:e'.chunks=[]:=List.eq_nil_of_length_eq_zero (by omega)
      rw[h'.1,h'.2.2,h0,e1];exact World.ownsRow_nil _ _ _ _
     ·simp only[Value.slice.injEq,true_and]at h'
      obtain ⟨hA,hC⟩:=h';rw[hA]at r1 ho ⊢;refine zyh r1 hs (by simp[hlen']) (fun t ht=>?_)
      obtain ⟨b,off,e1,hb,hc⟩:=ho (by intro e;rw[e]at hlen';simp at hlen';omega)
      simp only[Option.some.injEq,Addr.mk.injEq,and_true]at e1;obtain ⟨rfl,rfl⟩:=e1;have:=(hc t (by omega)).1
      rw[Nat.zero_add]at this;rw[this];have ht2:t<e'.chunks.length:=by omega
      simp[List.getD_eq_getElem?_getD,ht2]
    ·rw[List.getElem?_set_ne (fun x=>e x.symm)]at hi
     have hm0:=List.mem_of_getElem? hi;have r1:=aH (h2 r0 hm0) hk1 (fun b hb e=>aX h1 (h2 r0 hm0) (by decide) (by subst e;rfl) hb)
     refine aH r1 hk (fun b hb hS=>?_)
     have hi':=(List.getElem?_eq_some_iff.1 hi);have hj':=(List.getElem?_eq_some_iff.1 hr);have hb0:=zo3 hb;rcases Nat.lt_or_gt_of_ne e with hlt | hlt
     ·have:=List.pairwise_iff_getElem.1 h3 i j hi'.1 hj'.1 hlt b (by rw[hi'.2];exact hb0)
      rw[hj'.2]at this;exact this hS
     ·have:=List.pairwise_iff_getElem.1 h3 j i hj'.1 hi'.1 hlt b (by rw[hj'.2];exact hS)
      rw[hi'.2]at this;exact this hb0
   ·have:(rs.map Rw.a).Pairwise (fun x y=>∀ g,x.map Addr.block=some g→y.map Addr.block≠some g):=List.pairwise_map.2 h3
    rw[←hmapa]at this;exact List.pairwise_map.1 this
   ·intro r0 hr0 g hg
    have:r0.a∈(rs.set j ⟨e',r.a,r.c⟩).map Rw.a:=List.mem_map_of_mem hr0;rw[hmapa]at this;obtain ⟨r2,hr2,e2⟩:=List.mem_map.1 this;exact h4 r2 hr2 g (by rw[e2];exact hg)
end Go.Proofs.YtgaeikgoknoamaaGreat
namespace Go.Proofs.YtgaeikgoknoamaaGreat
open Go.ChangeShapes Go.WideShapes Go.ChangeAt Go.RowKit
def zEn:En:=⟨[],0,0,[]⟩
theorem rU:∀ (rs:List Rw) (j:Nat) (r:Rw),j<rs.length →
  ((((aZ rs).set (j * 4) (.string (str r.e.path))).set (j * 4+1) (.int .i64 r.e.kind)).set (j * 4+2) (.int .i64 r.e.size)).set (j * 4+3) (.slice r.a r.e.chunks.length r.c)=aZ (rs.set j r)
 | [],j,r,h=>by simp at h
 | x :: rs,0,r,h=>by simp[aZ,cA]
 | x :: rs,j+1,r,h=>by
  have ih:=rU rs j r (by simpa using h)
  have e1:aZ (x :: rs)=cA x++aZ rs:=rfl;have e2:aZ ((x :: rs).set (j+1) r)=cA x++aZ (rs.set j r):=rfl;have hx:(cA x).length=4:=rfl;rw[e1,e2,←ih,List.set_append_right _ _ (by omega),List.set_append_right _ _ (by omega),List.set_append_right _ _ (by omega),List.set_append_right _ _ (by omega),hx]
  rw[show (j+1) * 4 - 4=j * 4 by omega,show (j+1) * 4+1 - 4=j * 4+1 by omega,show (j+1) * 4+2 - 4=j * 4+2 by omega,show (j+1) * 4+3 - 4=j * 4+3 by omega]
theorem zig (n:Nat):(madeCells (Value.agg #[.string ⟨#[]⟩,.int .i64 0,.int .i64 0,.slice none 0 0]).cells (n * 4)).toList=aZ (List.replicate n ⟨zEn,none,0⟩):=by
 have hl:=eJ (List.replicate n ⟨zEn,none,0⟩);rw[List.length_replicate]at hl;apply List.ext_getElem?
 intro p;by_cases hp:p<n * 4
 ·have e:p=p / 4 * 4+p % 4:=by omega
  have h1:p / 4<n:=by omega
  have h2:p % 4<4:=by omega
  rw[e,jM _ (p / 4) (p % 4) ⟨zEn,none,0⟩ (by simp[h1]) h2,←e]
  have hm:p % 4=0∨p % 4=1∨p % 4=2∨p % 4=3:=by omega
  rcases hm with hm | hm | hm | hm <;> simp[madeCells,hp,hm,cA,zEn,Value.cells,str]
 ·rw[List.getElem?_eq_none (by simp[madeCells];omega),List.getElem?_eq_none (by omega)]
theorem GE.zeros {B n T:Nat} {w:World} {v:Value} (h:w.ownsRow B 87 4 v n (madeCells (Value.agg #[.string ⟨#[]⟩,.int .i64 0,.int .i64 0,.slice none 0 0]).cells (n * 4)).toList) (hT:∀ b,v.ownBlock=some b→b<T):GE B T w v (List.replicate n zEn):=by
 refine ⟨List.replicate n ⟨zEn,none,0⟩,by simp,by rw[List.length_replicate,←zig];exact h,fun r hr=>?_,?_,fun r hr g hg=>?_,hT⟩
 ·rw[(List.mem_replicate.1 hr).2];exact World.ownsRow_nil _ _ _ _
 ·rw[List.pairwise_iff_getElem]
  intro i i' hi hi' hlt g hg;simp at hg
 ·rw[(List.mem_replicate.1 hr).2]at hg
  simp at hg
end Go.Proofs.YtgaeikgoknoamaaGreat
