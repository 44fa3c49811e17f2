/-
  Texts put together: PathP IteA EntL LayQ.
-/
import Derived.Test.YtolnlfnndnpiiaaGreatKSnaps2
import Derived.Scope
set_option linter.unusedVariables false
set_option maxHeartbeats 2000000
set_option maxRecDepth 100000
namespace Go.Proofs.YtolnlfnndnpiiaaGreat
open Go.RowKit Go.Shelf
attribute [local go_sem] Oper.semAt_some
theorem sU {n:Nat} {P:Program} {c:Code} {Q:Exit→Act→World→Prop} {a:Act} {w:World} (h:c.wpIn Fence.wide n P (Exit.noGoto Q) a w):(Code.scope c).wpIn Fence.wide n P Q a w :=
 wpIn_wide.2 (wp_scope_straight (wpIn_wide.1 h))
theorem zgd {l:Bs} (h:∀ r,l≠47 :: r):aF l=5:=by
 cases l with
 | nil=>rfl
 | cons c r =>
  have hc:c≠47:=fun e=>h r (by rw[e])
  simp[aF,hc]
theorem zk9 (l:Bs):(∃ r,l=47 :: r)∨∀ r,l≠47 :: r:=by
 by_cases h:∃ r,l=47 :: r
 ·exact .inl h
 ·exact .inr fun r e=>h ⟨r,e⟩
def cd (ps:List Bs):Int:=if ps.all (fun n=>decide (n.length≤4))&&decide (ps.length≤3) then 0 else 2
theorem ztf (ps:List Bs) (x:Bs) (h:4<x.length∨3<ps.length+1):cd (ps ++ [x])=2:=by
 have:((ps ++ [x]).all (fun n=>decide (n.length≤4))&&decide ((ps ++ [x]).length≤3))=false:=by
  rw[Bool.and_eq_false_iff];rcases h with h | h
  ·left;simp;intro _;omega
  ·right;simp;omega
 simp only[cd,this];rfl
theorem zam (ps:List Bs) (x:Bs) (h:¬ 4<x.length) (h2:¬ 3<ps.length+1):cd (ps ++ [x])=cd ps:=by
 have e1:decide (x.length≤4)=true:=by simp;omega
 have e2:decide ((ps ++ [x]).length≤3)=true:=by simp;omega
 have e3:decide (ps.length≤3)=true:=by simp;omega
 simp only[cd,List.all_append,List.all_cons,List.all_nil,e1,e2,e3,Bool.and_true]
theorem zjj {ns:List Bs} (h:ns.all eH=true):fI ns=cd ns:=by simp only[fI,h,if_true,cd]
theorem zq1 {ns ps:List Bs} (h:ps <+: ns) (hp:ps.all eH=false):fI ns=5:=by
 obtain ⟨q,rfl⟩:=h;simp[fI,hp]
theorem zq0 (s:ByteArray) (w:World) (h:∀ r,s.data.toList≠47 :: r) :
  Calls Tryz.prog 144 #[.string s] w fun e w'=>e=.returned (.int .i64 5)∧Below w.heap.size w w':=by
 refine (callsIn_wide (n:=4)).1 ?_;refine callsIn_of_wp_marks Tryz.func144 rfl trivial ?_ rfl;simp only[Tryz.ntmps144,List.size_toArray,List.length_cons,List.length_nil,Nat.reduceAdd,Nat.reduceSub,Array.replicate_succ,Array.replicate_zero,List.push_toArray,List.append_toArray,List.nil_append,List.cons_append];gi_wp2_with fail
 refine sU ?_;gi_wp2_with fail
 refine ⟨trivial,?_⟩;refine (callsIn_wide.2 (zz6 s _ h)).mono ?_;rintro e w' ⟨⟨x,rfl⟩,rfl⟩;gi_wp2_with fail
 exact ⟨_,results_tmp rfl _ _ _,rfl,Below.refl _ _⟩
theorem yU (s:ByteArray) (r:Bs) (w:World) (h:s.data.toList=47 :: r) (hs:s.size≤2097152) :
  Calls Tryz.prog 144 #[.string s] w fun e w'=>e=.returned (.int .i64 (fI (aX r)))∧Below w.heap.size w w':=by
 refine (callsIn_wide (n:=4)).1 ?_;refine callsIn_of_wp_marks Tryz.func144 rfl trivial ?_ rfl;simp only[Tryz.ntmps144,List.size_toArray,List.length_cons,List.length_nil,Nat.reduceAdd,Nat.reduceSub,Array.replicate_succ,Array.replicate_zero,List.push_toArray,List.append_toArray,List.nil_append,List.cons_append];gi_wp2_with fail
 refine sU ?_;gi_wp2_with fail
 refine ⟨trivial,?_⟩;refine (callsIn_wide.2 (zt5 s r _ h)).mono ?_;rintro e w' ⟨rfl,rfl⟩;gi_wp2_with fail
 refine wpIn_label ?_;gi_wp2_with fail
 refine ⟨trivial,?_⟩;refine (callsIn_wide.2 (tI _ _)).mono ?_;rintro e w1 ⟨rfl,rfl⟩;gi_wp2_with fail
 have hrl:r.length≤2097152:=by have:=congrArg List.length h;rw[←Lib.size_eq]at this;simp at this;omega
 have hcl:=lD r;have bC:=Boxed.new w' 2 (.int .i64 0);have bN:=Boxed.new (w'.alloc (.cells #[.int .i64 0] 2)) 3 (.int .i64 0);have bT:=Boxed.new ((w'.alloc (.cells #[.int .i64 0] 2)).alloc (.cells #[.int .i64 0] 3)) 9 (.string (str r));simp only[World.size_alloc]at bN bT;have hB0:Below w'.heap.size w' (((w'.alloc (.cells #[.int .i64 0] 2)).alloc (.cells #[.int .i64 0] 3)).alloc (.cells #[.string (str r)] 9)):=(((Below.refl _ w').alloc (Nat.le_refl _) _).alloc (by simp) _).alloc (by simp;omega) _
 refine wpIn_rangeFunc_ownF rfl (by decide) (gf:=228) (lb:=#[.pointer (some ⟨w'.heap.size+1+1,0,none⟩)]) rfl trivial (enters_of Tryz.func228 (by kernel_rfl) rfl)
  (rQ _ (w'.heap.size+1+1) w'.heap.size r hrl _ (by simp) bT.cell) belowK_t (belowK_b (by simp;omega)) (Below.refl _ _) (fun _=>rfl)
  (fun (pre:List Pc) W=>(Boxed W w'.heap.size 2 (.int .i64 (cd (pcs pre)))∧Boxed W (w'.heap.size+1) 3 (.int .i64 pre.length)∧(pcs pre).all eH=true)∧Below w'.heap.size w' W)
  (fun c (pre:List Pc) W=>(c=.exit 0∧(pcs pre).all eH=false∧Boxed W w'.heap.size 2 (.int .i64 5))∧Below w'.heap.size w' W)
  (OwnFrom.and (OwnFrom.and (Own.from (boxed_own _ _ (fun pre=>.int .i64 (cd (pcs pre)))) _) (OwnFrom.and (Own.from (boxed_own _ _ (fun (pre:List Pc)=>.int .i64 pre.length)) _) (ownFrom_pure _ _))) (ownFrom_below (Nat.le_refl _) (by simp;omega)))
  (fun c=>OwnFrom.and (OwnFrom.and (ownFrom_pure _ _) (OwnFrom.and (ownFrom_pure _ _) (Own.from (boxed_own _ _ (fun _=>.int .i64 5)) _))) (ownFrom_below (Nat.le_refl _) (by simp;omega)))
  ⟨⟨(bC.alloc _).alloc _,bN.alloc _,rfl⟩,hB0⟩
  (fun x=>{ tmps:=#[.string s,undef,.int .i64 0,.string (str r),.bool true,.pointer (some ⟨w'.heap.size,0,none⟩),.pointer (some ⟨w'.heap.size+1,0,none⟩),.string (str x.1),.tuple #[.string (str r),.bool true],.string s,.tuple #[.string (str r),.bool true],.string (str r),.bool true,.bool true,.bool false,.string (str r),.func (.func 228) #[] #[.pointer (some ⟨w'.heap.size+1+1,0,none⟩)],.string (str x.1),undef,undef,undef,undef,undef,undef,undef,undef,undef,undef,undef,undef,undef,undef,undef],defers:=[] }) ?assign ?body ?done ?stop
 case assign =>
  intro l x W K hK;gi_wp2_with fail
  exact hK
 case body =>
  rintro l pre ⟨x,hx⟩ W ⟨⟨hc,hn,hp⟩,hB⟩ hlt;have hc0:=hc.cell;have hf0:=hc.frozen;have hn0:=hn.cell;have hnf:=hn.frozen;have hpl:(pre.length:Int)≤4194304:=by omega
  have HP:=aA hp;have HB:=aA hB;have HC:=aA (hc.other (B':=w'.heap.size+1) (by omega) (.int .i64 (pre.length+1)))
  have HN:=aA (hn.set (.int .i64 (pre.length+1)));clear hp hB hc hn;have hn1:=HN.out.cell;have hc1:=HC.out.cell;have hf1:=HC.out.frozen;gi_wp2_with fail
  refine ⟨trivial,?_⟩;refine (CallsIn.inRound l (callsIn_wide.2 (vP _ _ (by rw[aK];omega)))).mono ?_
  rintro e w2 ⟨rfl,rfl⟩;rw[aT];cases hpx:eH x
  ·have HX:=aA hpx
   clear hpx;gi_wp2_with fail
   exact ⟨(KeepsOthers.setCell _ _ _).trans (KeepsOthers.setCell _ _ _),⟨rfl,by rw[iE];simp[HX.out],HC.out.set _⟩,(HB.out.setCell (p:=⟨w'.heap.size+1,0,none⟩) (by simp) _).setCell (p:=⟨w'.heap.size,0,none⟩) (Nat.le_refl _) _⟩
  ·have HX:=aA hpx
   clear hpx;have HPn:=aA (show (pcs (pre ++ [⟨x,hx⟩])).all eH=true by rw[iE];simp[HP.out,HX.out])
   by_cases h4:4<x.length
   ·have h4':(4:Int)<((str x).size:Int):=by rw[aK];omega
    have HE:=aA (ztf (pcs pre) x (.inl h4));gi_wp2_with fail
    exact ⟨(KeepsOthers.setCell _ _ _).trans (KeepsOthers.setCell _ _ _),((Below.refl w'.heap.size W).setCell (p:=⟨w'.heap.size+1,0,none⟩) (by simp) _).setCell (p:=⟨w'.heap.size,0,none⟩) (Nat.le_refl _) _,⟨by rw[iE,HE.out];exact HC.out.set _,by simpa using HN.out.other (by omega) _,HPn.out⟩,(HB.out.setCell (p:=⟨w'.heap.size+1,0,none⟩) (by simp) _).setCell (p:=⟨w'.heap.size,0,none⟩) (Nat.le_refl _) _⟩
   ·have h4':¬ (4:Int)<((str x).size:Int):=by rw[aK];omega
    by_cases h3:3<pre.length+1
    ·have h3':(3:Int)<(pre.length:Int)+1:=by omega
     have HE:=aA (ztf (pcs pre) x (.inr (by rw[qV];exact h3)))
     gi_wp2_with fail
     exact ⟨(KeepsOthers.setCell _ _ _).trans (KeepsOthers.setCell _ _ _),((Below.refl w'.heap.size W).setCell (p:=⟨w'.heap.size+1,0,none⟩) (by simp) _).setCell (p:=⟨w'.heap.size,0,none⟩) (Nat.le_refl _) _,⟨by rw[iE,HE.out];exact HC.out.set _,by simpa using HN.out.other (by omega) _,HPn.out⟩,(HB.out.setCell (p:=⟨w'.heap.size+1,0,none⟩) (by simp) _).setCell (p:=⟨w'.heap.size,0,none⟩) (Nat.le_refl _) _⟩
    ·have h3':¬ (3:Int)<(pre.length:Int)+1:=by omega
     have HE:=aA (zam (pcs pre) x h4 (by rw[qV];exact h3))
     gi_wp2_with fail
     exact ⟨KeepsOthers.setCell _ _ _,(Below.refl w'.heap.size W).setCell (p:=⟨w'.heap.size+1,0,none⟩) (by simp) _,⟨by rw[iE,HE.out];exact HC.out,by simpa using HN.out,HPn.out⟩,HB.out.setCell (p:=⟨w'.heap.size+1,0,none⟩) (by simp) _⟩
 case done =>
  rintro D ys W hD hys ⟨⟨hc,hn,hp⟩,hB⟩ hK;have hc0:=hc.cell;have HE:=aA (show fI (aX r)=cd (pcs ys) by rw[←hys];exact zjj hp)
  clear hp hys;gi_wp2_with fail
  refine ⟨by simp,.inl ⟨_,_,rfl,run_takeDeferred hK,?_⟩⟩
  exact ⟨_,results_tmp rfl _ _ _,by rw[HE.out];rfl,hB.trans (belowK_b (w:=w') (Nat.le_refl _) W D _ _ (by simp at hD;omega) hK rfl rfl)⟩
 case stop =>
  rintro D c pre W hD hpre ⟨⟨rfl,hp,hc⟩,hB⟩ hK;have hc0:=hc.cell;have HE:=aA (zq1 hpre hp);clear hp hpre;gi_wp2_with fail
  refine ⟨by simp,.inl ⟨_,_,rfl,run_takeDeferred hK,?_⟩⟩
  exact ⟨_,results_tmp rfl _ _ _,by rw[HE.out];rfl,hB.trans (belowK_b (w:=w') (Nat.le_refl _) W D _ _ (by simp at hD;omega) hK rfl rfl)⟩
theorem fS (s:ByteArray) (w:World) (hs:s.size≤2097152) :
  Calls Tryz.prog 144 #[.string s] w fun e w'=>e=.returned (.int .i64 (aF s.data.toList))∧Below w.heap.size w w':=by
 rcases zk9 s.data.toList with ⟨r,h⟩ | h
 ·have e:aF s.data.toList=fI (aX r):=by rw[h];simp[aF]
  rw[e];exact yU s r w h hs
 ·rw[zgd h]
  exact zq0 s w h
theorem zw2 {β:Type} (b:Nat) (u v:Value):Go.Own (fun (_:β) W=>Box W b u v):=fun s A B row hs hg hr =>
 ⟨⟨cell_kept hs.1.1 hg hr,cell_kept hs.1.2 hg hr⟩,(frozen_kept hs.1.1 hg hr).trans hs.2.1,(frozen_kept hs.1.2 hg hr).trans hs.2.2⟩
theorem Two.set {W:World} {b:Nat} {u v:Value} (h:Two W b u v) (u' v':Value):Two ((W.setCell ⟨b,0,none⟩ u').setCell ⟨b,1,none⟩ v') b u' v':=by
 have h1:(W.setCell ⟨b,0,none⟩ u').cell? ⟨b,0,none⟩=some u':=dG h.1;have h2:(W.setCell ⟨b,0,none⟩ u').cell? ⟨b,1,none⟩=some v:=(aM (by simp)).trans h.2
 exact ⟨(aM (by simp)).trans h1,dG h2⟩
theorem zc3 {W:World} {b D:Nat} {u v:Value} (h:Two W b u v) (hK:W.heap[D]?=some (.deferred (some []))) (u' v':Value) :
  ((W.setCell ⟨b,0,none⟩ u').setCell ⟨b,1,none⟩ v').heap[D]?=some (.deferred (some [])) ∧
  (((W.setCell ⟨b,0,none⟩ u').setCell ⟨b,1,none⟩ v').putObj D (.deferred none)).cell? ⟨b,0,none⟩=some u' ∧
  (((W.setCell ⟨b,0,none⟩ u').setCell ⟨b,1,none⟩ v').putObj D (.deferred none)).cell? ⟨b,1,none⟩=some v':=by
 have hK2:=((KeepsOthers.setCell W ⟨b,0,none⟩ u').trans (KeepsOthers.setCell _ ⟨b,1,none⟩ v')).same D _ hK rfl;have h2:=h.set u' v';exact ⟨hK2,cell_kept h2.1 (grownBy_putObj' _ D (.deferred none)) (fun r e=>by cases e;exact ⟨_,hK2,rfl⟩),cell_kept h2.2 (grownBy_putObj' _ D (.deferred none)) (fun r e=>by cases e;exact ⟨_,hK2,rfl⟩)⟩
theorem zhe (ps:List Bs) (x:Bs):kY (ps ++ [x])=x:=by simp[kY]
theorem ze3 (s:ByteArray) (w:World) (hs:s.size≤2097152) :
  Calls Tryz.prog 200 #[.string s] w fun e w'=>e=.returned (.agg #[.int .i64 (aF s.data.toList),.string (str (pJ s.data.toList))])∧Below w.heap.size w w':=by
 refine (callsIn_wide (n:=4)).1 ?_;refine callsIn_of_wp_marks Tryz.func200 rfl trivial ?_ rfl;simp only[Tryz.ntmps200,List.size_toArray,List.length_cons,List.length_nil,Nat.reduceAdd,Nat.reduceSub,Array.replicate_succ,Array.replicate_zero,List.push_toArray,List.append_toArray,List.nil_append,List.cons_append];gi_wp2_with fail
 refine ⟨trivial,?_⟩;refine (callsIn_wide.2 (fS s _ hs)).mono ?_;rintro e w1 ⟨rfl,hb1⟩;have X0:=aA ((Box.new w (.int .i64 0) (.string ⟨#[]⟩) 188).below hb1);have n1:w.heap.size<w1.heap.size:=by have:=hb1.size;simp at this;omega
 have HB:=aA (aB (aC w _) hb1);clear hb1;by_cases hf:aF s.data.toList=0
 ·have h1:=nW hf
  have HE:=aA (zkh hf);have HF:=aA hf;have h1':(1:Int)≤(s.size:Int):=by omega
  have HT:=aA (qF s);have hel:=nV s 1 s.size;rw[hf];clear hf;gi_wp2_with fail
  refine ⟨trivial,?_⟩;refine (callsIn_wide.2 (tI _ _)).mono ?_;rintro e w2 ⟨rfl,rfl⟩;gi_wp2_with fail
  have HXE:=aA (show s.extract 1 s.size=str s.data.toList.tail by rw[←HT.out,zj9])
  have hrl:s.data.toList.tail.length≤2097152:=by rw[List.length_tail,←Lib.size_eq];omega
  have hce:=pS s.data.toList.tail;have bL:=Boxed.new w1 9 (.string ⟨#[]⟩);have bT:=Boxed.new (w1.alloc (.cells #[.string ⟨#[]⟩] 9)) 9 (.string (s.extract 1 s.size));simp only[World.size_alloc]at bT;have hB0:Below w.heap.size w ((w1.alloc (.cells #[.string ⟨#[]⟩] 9)).alloc (.cells #[.string (s.extract 1 s.size)] 9)):=(HB.out.alloc (by omega) _).alloc (by simp;omega) _
  have hX0:=(X0.out.below (aC w1 (.cells #[.string ⟨#[]⟩] 9))).below (aC _ (.cells #[.string (s.extract 1 s.size)] 9));refine wpIn_rangeFunc_ownF rfl (by decide) (gf:=228) (lb:=#[.pointer (some ⟨w1.heap.size+1,0,none⟩)]) rfl trivial (enters_of Tryz.func228 (by kernel_rfl) rfl)
   (rQ _ (w1.heap.size+1) w.heap.size s.data.toList.tail hrl _ (by simp) (by rw[←HXE.out];exact bT.cell)) belowK_t (belowK_b (by simp;omega)) (Below.refl _ _) (fun _=>rfl)
   (fun (pre:List Pc) W=>(Boxed W w1.heap.size 9 (.string (str (kY (pcs pre))))∧Box W w.heap.size (.int .i64 0) (.string ⟨#[]⟩))∧Below w.heap.size w W)
   (fun c (pre:List Pc) W=>False)
   (OwnFrom.and (OwnFrom.and (Own.from (boxed_own _ _ (fun pre=>.string (str (kY (pcs pre))))) _) (Own.from (zw2 _ _ _) _)) (ownFrom_below (Nat.le_refl _) (by simp;omega)))
   (fun c=>ownFrom_pure _ _)
   ⟨⟨bL.alloc _,hX0⟩,hB0⟩
   (fun x=>{ tmps:=#[.string s,undef,.pointer (some ⟨w.heap.size,0,none⟩),.int .i64 0,.pointer (some ⟨w1.heap.size,0,none⟩),.string (str x.1),.string s,.int .i64 0,.int .i64 0,.bool false,undef,undef,.string s,.string (s.extract 1 s.size),.func (.func 228) #[] #[.pointer (some ⟨w1.heap.size+1,0,none⟩)],.string (str x.1),undef,undef,undef,undef],defers:=[] }) ?assign ?body ?done ?stop
  case assign =>
   intro l x W K hK;gi_wp2_with fail
   exact hK
  case body =>
   rintro l pre ⟨x,hx⟩ W ⟨⟨hl,hX⟩,hB⟩ hlt;have hl0:=hl.cell;have hl1:=hl.frozen;have HX:=aA hX;have HB':=aA hB;have HL:=aA hl;clear hX hB hl;gi_wp2_with fail
   exact ⟨KeepsOthers.setCell _ _ _,(Below.refl w.heap.size W).setCell (p:=⟨w1.heap.size,0,none⟩) (by simp;omega) _,⟨by rw[iE,zhe];exact HL.out.set _,HX.out.kept (aD.setCell (S:=fun b=>b=w1.heap.size) (p:=⟨w1.heap.size,0,none⟩) (aD.refl _ W) (fun _=>rfl) _) (by omega)⟩,HB'.out.setCell (p:=⟨w1.heap.size,0,none⟩) (by simp;omega) _⟩
  case done =>
   rintro D ys W hD hys ⟨⟨hl,hX⟩,hB⟩ hK;rw[hys]at hl;have hl0:=hl.cell;have hll:(kY (aX s.data.toList.tail)).length≤2097152:=by
    have:=hce (kY (aX s.data.toList.tail)) (List.mem_of_getElem? (qO (oX _)));omega
   rw[←HE.out]at hl0 hll;have HX:=aA hX;have HB':=aA hB;have HK:=aA hK;clear hX hB hl hK hys;gi_wp2_with fail
   refine ⟨trivial,?_⟩;refine (callsIn_wide.2 (pR _ _ (by rw[aK];omega))).mono ?_
   rintro e w3 ⟨rfl,hb3⟩;have HX3:=aA (HX.out.below hb3);have HK3:=aA ((hb3.block D (Array.getElem?_eq_some_iff.1 HK.out).1).trans HK.out);have HB3:=aA (aB HB'.out hb3);clear hb3;obtain ⟨⟨q0,q1⟩,q2,q3⟩:=HX3.out;gi_wp2_with fail
   obtain ⟨k1,k2,k3⟩:=zc3 HX3.out.1 HK3.out (.int .i64 0) (.string (str (pJ s.data.toList)));refine ⟨by simp,.inl ⟨_,_,rfl,run_takeDeferred k1,?_⟩⟩
   refine ⟨.agg #[.int .i64 0,.string (str (pJ s.data.toList))],by simp[results,Tryz.results200,go_sem,k2,k3],by rw[HF.out],?_⟩
   exact ((HB3.out.setCell (p:=⟨w.heap.size,0,none⟩) (Nat.le_refl _) _).setCell (p:=⟨w.heap.size,1,none⟩) (Nat.le_refl _) _).trans (belowK_b (w:=w) (Nat.le_refl _) _ D _ _ (by simp at hD;omega) k1 rfl rfl)
  case stop =>
   rintro D c pre W hD hpre hc hK;exact hc.elim
 ·have HE:=aA (zyj hf)
  obtain ⟨⟨q0,q1⟩,q2,q3⟩:=X0.out;obtain ⟨c,hc⟩:∃ c,c=aF s.data.toList:=⟨_,rfl⟩;rw[←hc]at hf ⊢;have HC:=aA hc;clear hc;have hf2:(c != 0)=true:=by simpa using hf
  gi_wp2_with fail
  have h2:=X0.out.1.set (.int .i64 c) (.string ⟨#[]⟩);refine ⟨.agg #[.int .i64 c,.string ⟨#[]⟩],by simp[results,Tryz.results200,go_sem,h2.1,h2.2],by rw[HE.out,←HC.out];rfl,(HB.out.setCell (p:=⟨w.heap.size,0,none⟩) (Nat.le_refl _) _).setCell (p:=⟨w.heap.size,1,none⟩) (Nat.le_refl _) _⟩
end Go.Proofs.YtolnlfnndnpiiaaGreat
namespace Go.Proofs.YtolnlfnndnpiiaaGreat
open Go.RowKit
theorem zQ (n:Int) (w:World):Calls Tryz.prog 221 #[.int .i64 n] w fun e w'=>e=.returned (.bool (gW n))∧w'=w:=by
 by_cases h0:0≤n
 ·by_cases h1:n≤4294967295
  ·have e:gW n=true:=decide_eq_true ⟨h0,h1⟩
   rw[e];go_enter Tryz.func221,Tryz.ntmps221;go_wp2
   go_ret
   exact ⟨rfl,rfl⟩
  ·have e:gW n=false:=decide_eq_false (fun h=>h1 h.2)
   rw[e];go_enter Tryz.func221,Tryz.ntmps221;go_wp2
   go_ret
   exact ⟨rfl,rfl⟩
 ·have e:gW n=false:=decide_eq_false (fun h=>h0 h.1)
  rw[e];go_enter Tryz.func221,Tryz.ntmps221;go_wp2
  go_ret
  exact ⟨rfl,rfl⟩
theorem fY (p:ByteArray) (k z:Int) (a:Option Addr) (n c:Nat) (w:World) :
  Calls Tryz.prog 47 #[.agg #[.string p,.int .i64 k,.int .i64 z,.slice a n c]] w fun r w'=>r=.returned (.agg #[.int .i64 z,.slice a n c,.string p,.int .i64 k])∧Below w.heap.size w w':=by
 go_enter Tryz.func47,Tryz.ntmps47;go_wp2
 refine bodyPost_ret (v:=.agg #[.int .i64 z,.slice a n c,.string p,.int .i64 k]) (by simp[results,Tryz.results47,go_sem]) rfl ⟨rfl,?_⟩
 exact aB (aC _ _) (aC _ _)
theorem zzd (p:ByteArray) (k z:Int) (a:Option Addr) (n c:Nat) (w:World) :
  Calls Tryz.prog 174 #[.agg #[.int .i64 z,.slice a n c,.string p,.int .i64 k]] w fun r w'=>r=.returned (.bool (decide (1≤k∧k≤4)))∧Below w.heap.size w w':=by
 by_cases h0:1≤k
 ·by_cases h1:k≤4
  ·have e:decide (1≤k∧k≤4)=true:=decide_eq_true ⟨h0,h1⟩
   rw[e];go_enter Tryz.func174,Tryz.ntmps174;go_wp2
   go_ret
   exact ⟨rfl,aC _ _⟩
  ·have e:decide (1≤k∧k≤4)=false:=decide_eq_false (fun h=>h1 h.2)
   rw[e];go_enter Tryz.func174,Tryz.ntmps174;go_wp2
   go_ret
   exact ⟨rfl,aC _ _⟩
 ·have e:decide (1≤k∧k≤4)=false:=decide_eq_false (fun h=>h0 h.1)
  rw[e];go_enter Tryz.func174,Tryz.ntmps174;go_wp2
  go_ret
  exact ⟨rfl,aC _ _⟩
theorem lV (p:ByteArray) (k z:Int) (a:Option Addr) (n c:Nat) (w:World) :
  Calls Tryz.prog 178 #[.agg #[.int .i64 z,.slice a n c,.string p,.int .i64 k]] w fun r w'=>r=.returned (.bool (bZ k))∧Below w.heap.size w w':=by
 by_cases h0:k=2
 ·have e:bZ k=true:=decide_eq_true (.inl h0)
  have hb:(k==2)=true:=by simp[h0]
  rw[e];clear e h0;go_enter Tryz.func178,Tryz.ntmps178;go_wp2
  go_ret
  exact ⟨rfl,aC _ _⟩
 ·have hb:(k==2)=false:=by simp[h0]
  by_cases h1:k=4
  ·have e:bZ k=true:=decide_eq_true (.inr h1)
   have hb1:(k==4)=true:=by simp[h1]
   rw[e];clear e h0 h1;go_enter Tryz.func178,Tryz.ntmps178;go_wp2
   go_ret
   exact ⟨rfl,aC _ _⟩
  ·have e:bZ k=false:=decide_eq_false (fun h=>h.elim h0 h1)
   have hb1:(k==4)=false:=by simp[h1]
   rw[e];clear e h0 h1;go_enter Tryz.func178,Tryz.ntmps178;go_wp2
   go_ret
   exact ⟨rfl,aC _ _⟩
theorem zj7 (z:Int) (a:Option Addr) (n c:Nat) (w:World) :
  Calls Tryz.prog 175 #[.agg #[.int .i64 z,.slice a n c]] w fun r w'=>r=.returned (.bool (decide (z≠0∨n≠0)))∧Below w.heap.size w w':=by
 by_cases h0:z=0
 ·have hb:(z != 0)=false:=by simp[h0]
  by_cases h1:n=0
  ·have e:decide (z≠0∨n≠0)=false:=decide_eq_false (fun h=>h.elim (fun h=>h h0) (fun h=>h h1))
   have hb1:((n:Int) != 0)=false:=by simp[h1]
   rw[e];clear e h0 h1;go_enter Tryz.func175,Tryz.ntmps175;go_wp2
   go_ret
   exact ⟨rfl,aC _ _⟩
  ·have e:decide (z≠0∨n≠0)=true:=decide_eq_true (.inr h1)
   have hb1:((n:Int) != 0)=true:=by simp;omega
   rw[e];clear e h0 h1;go_enter Tryz.func175,Tryz.ntmps175;go_wp2
   go_ret
   exact ⟨rfl,aC _ _⟩
 ·have e:decide (z≠0∨n≠0)=true:=decide_eq_true (.inl h0)
  have hb:(z != 0)=true:=by simp[h0]
  rw[e];clear e h0;go_enter Tryz.func175,Tryz.ntmps175;go_wp2
  go_ret
  exact ⟨rfl,aC _ _⟩
def lQ (z:Int) (zs:List Int):Int:=if 0≤z∧z≤24 then (if (zs.length:Int)=(z+7) / 8 then (if zs.all gW then 0 else 3) else 1) else 3
theorem tR {e:En} (h:aF e.path=0) (h1:iJ e=true):aH e=lQ e.size e.chunks:=by
 simp[aH,h,h1,lQ,lM,mF]
theorem tQ (z:Int) (x:Option Addr) (c:Nat) (zs:List Int) (w:World) (h:aP .i64 w x zs) (hc:zs.length≤1048576) :
  Calls Tryz.prog 176 #[.agg #[.int .i64 z,.slice x zs.length c]] w fun r w'=>r=.returned (.int .i64 (lQ z zs))∧Below w.heap.size w w':=by
 have HR:=aA h;clear h;by_cases h0:0≤z
 ·have h0':¬ z<0:=by omega
  by_cases h1:z≤24
  ·have h1':¬ 24<z:=by omega
   have ed:(z+7) / 8=(z+8 - 1) / 8:=by congr 1;omega
   by_cases hm:(zs.length:Int)=(z+7) / 8
   ·have HE:=aA (show lQ z zs=if zs.all gW then 0 else 3 from by simp[lQ,h0,h1,hm])
    have hmn:((zs.length:Int) != (z+8 - 1) / 8)=false:=by rw[←ed];simp;exact hm
    clear hm ed;have HR1:=aA (HR.out.below (aC w (.cells #[.int .i64 z,.slice x zs.length c] 86)));go_enter Tryz.func176,Tryz.ntmps176;go_wp2_with fail
    have HB:=aA (aC w (.cells #[.int .i64 z,.slice x zs.length c] 86));generalize w.alloc (.cells #[.int .i64 z,.slice x zs.length c] 86)=W at *;go_loop [25] (fun i=>∃ k:Nat,k≤zs.length∧i=.int .i64 k∧Hid ((zs.take k).all gW=true)) (fun i=>zs.length - (intOf i).toNat)
    case atStart=>exact ⟨0,Nat.zero_le _,rfl,aA (by simp)⟩
    case round =>
     obtain ⟨k,hk,rfl,HA⟩:=hrel;by_cases hlt:k<zs.length
     ·obtain ⟨b,off,rfl,hb1,hcc⟩:=HR1.out (by intro e;simp[e]at hlt)
      have hc1:=hcc k hlt;have hzk:zs[k]?=some (zs.getD k 0):=by rw[List.getD_eq_getElem?_getD,List.getElem?_eq_getElem hlt];rfl
      generalize zs.getD k 0=y at hc1 hzk;have HZ:=aA hzk;clear hcc hzk;cases hd:gW y
      ·have HX:=aA (show zs.all gW=false from by rw[List.all_eq_false];exact ⟨y,List.mem_of_getElem? HZ.out,by simp[hd]⟩)
       have HD:=aA hd;clear hd;go_wp2_with fail
       refine (zQ _ _).mono ?_;rintro r w'' ⟨rfl,rfl⟩;rw[HD.out];go_wp2_with fail
       go_ret
       exact ⟨aO (by rw[HE.out,HX.out];rfl),HB.out⟩
      ·have HX:=aA (show (zs.take (k+1)).all gW=true from by rw[bY HZ.out];simp[HA.out,hd])
       have HD:=aA hd;clear hd;go_wp2_with fail
       refine (zQ _ _).mono ?_;rintro r w'' ⟨rfl,rfl⟩;rw[HD.out];go_wp2_with fail
       go_round
       case rel=>exact ⟨k+1,by omega,by go_num,HX⟩
       case measure=>simp[intOf];omega
     ·have HX:=aA (show zs.all gW=true from by have:=HA.out;rwa [List.take_of_length_le (by omega)]at this)
      go_wp2_with fail
      go_ret
      exact ⟨aO (by rw[HE.out,HX.out];rfl),HB.out⟩
   ·have HE:=aA (show lQ z zs=1 from by simp[lQ,h0,h1,hm])
    have hmn:((zs.length:Int) != (z+8 - 1) / 8)=true:=by rw[←ed];simp;exact hm
    clear hm ed;go_enter Tryz.func176,Tryz.ntmps176;go_wp2_with fail
    go_ret
    exact ⟨aO HE.out.symm,aC _ _⟩
  ·have h1':24<z:=by omega
   have HE:=aA (show lQ z zs=3 from by simp[lQ,h1])
   clear h1;go_enter Tryz.func176,Tryz.ntmps176;go_wp2_with fail
   go_ret
   exact ⟨aO HE.out.symm,aC _ _⟩
 ·have h0':z<0:=by omega
  have HE:=aA (show lQ z zs=3 from by simp[lQ,h0])
  clear h0;go_enter Tryz.func176,Tryz.ntmps176;go_wp2_with fail
  go_ret
  exact ⟨aO HE.out.symm,aC _ _⟩
theorem pY (e:En) (x:Option Addr) (c n:Nat) (w:World) (h:aP .i64 w x e.chunks) (hn:n=e.chunks.length) (hp:e.path.length≤1048576) (hc:e.chunks.length≤1048576) :
  Calls Tryz.prog 124 #[.agg #[.string (str e.path),.int .i64 e.kind,.int .i64 e.size,.slice x n c]] w fun r w'=>r=.returned (.int .i64 (aH e))∧Below w.heap.size w w':=by
 subst hn;have HR:=aA h;clear h;have HN:=aA (aC w (.cells #[.string (str e.path),.int .i64 e.kind,.int .i64 e.size,.slice x e.chunks.length c] 50));have HB:=aA (cI.new w (.string (str e.path)) (.int .i64 e.kind) (.int .i64 e.size) (.slice x e.chunks.length c) 50);by_cases hf:aF e.path=0
 ·go_enter Tryz.func124,Tryz.ntmps124
  go_wp2_with fail
  refine (fS _ _ (by rw[aK];omega)).mono ?_
  rintro r w1 ⟨rfl,hb1⟩;rw[aT,hf];have HB1:=aA (aB HN.out hb1);have hB:=HB.out.below hb1;clear HB HN hb1;obtain ⟨c0,c1,c2,c3⟩:=hB;generalize w.heap.size=bk at c0 c1 c2 c3 ⊢;go_wp2_with fail
  refine (fY _ _ _ _ _ _ _).mono ?_;rintro r w2 ⟨rfl,hb2⟩;have HB2:=aA (aB HB1.out hb2);clear HB1 hb2 c0 c1 c2 c3;go_wp2_with fail
  have F2:=aA (cI.new w2 (.int .i64 e.size) (.slice x e.chunks.length c) (.string (str e.path)) (.int .i64 e.kind) 88);have HB3:=aA (aB HB2.out (aC w2 (.cells #[.int .i64 e.size,.slice x e.chunks.length c,.string (str e.path),.int .i64 e.kind] 88)));generalize w2.alloc (.cells #[.int .i64 e.size,.slice x e.chunks.length c,.string (str e.path),.int .i64 e.kind] 88)=W3 at *;generalize w2.heap.size=b2 at *;refine (zzd _ _ _ _ _ _ _).mono ?_;rintro r w4 ⟨rfl,hb4⟩;have F4:=F2.out.below hb4;have HB4:=aA (aB HB3.out hb4);clear hb4 HB3 HB2 F2;obtain ⟨f0,f1,f2,f3⟩:=F4
  by_cases hk:1≤e.kind∧e.kind≤4
  ·rw[decide_eq_true hk]
   by_cases hk1:e.kind=1
   ·have HE:=aA (tR hf (decide_eq_true ⟨hk,Or.inl hk1⟩))
    have hkn:(e.kind != 1)=false:=by simp[hk1]
    clear hk hk1 hf;have HR4:=aA (HR.out.below HB4.out);go_wp2_with fail
    refine (tQ _ _ _ _ _ HR4.out hc).mono ?_;rintro r w5 ⟨rfl,hb5⟩;have HB5:=aA (aB HB4.out hb5);clear hb5;go_wp2_with fail
    go_ret
    exact ⟨aO HE.out.symm,HB5.out⟩
   ·have hkn:(e.kind != 1)=true:=by simp[hk1]
    have HK1:=aA hk1;have HK:=aA hk;clear hk1 hk;go_wp2_with fail
    refine (zj7 _ _ _ _ _).mono ?_;rintro r w5 ⟨rfl,hb5⟩;have HB5:=aA (aB HB4.out hb5);have g0:=(hb5.cell (p:=⟨b2,0,none⟩) (World.block_lt_of_cell? _ _ f0)).trans f0;have g1:=(hb5.cell (p:=⟨b2,1,none⟩) (World.block_lt_of_cell? _ _ f1)).trans f1;clear hb5 f0 f1 f2 f3;by_cases hz:e.size≠0∨e.chunks.length≠0
    ·rw[decide_eq_true hz]
     have HE:=aA (gU hf (decide_eq_false (fun h=>h.2.elim HK1.out (fun h=>hz.elim (fun q=>q h.1) (fun q=>q h.2)))))
     clear hz hf;go_wp2_with fail
     go_ret
     exact ⟨aO HE.out.symm,HB5.out⟩
    ·rw[decide_eq_false hz]
     have HE:=aA (tR hf (decide_eq_true ⟨HK.out,Or.inr (by omega)⟩))
     clear hz hf;have HR5:=aA (HR.out.below HB5.out);go_wp2_with fail
     refine (tQ _ _ _ _ _ HR5.out hc).mono ?_;rintro r w6 ⟨rfl,hb6⟩;have HB6:=aA (aB HB5.out hb6);clear hb6;go_wp2_with fail
     go_ret
     exact ⟨aO HE.out.symm,HB6.out⟩
  ·rw[decide_eq_false hk]
   have HE:=aA (gU hf (decide_eq_false (fun h=>hk h.1)))
   clear hk hf;go_wp2_with fail
   go_ret
   exact ⟨aO HE.out.symm,HB4.out⟩
 ·rw[qI hf]
  go_enter Tryz.func124,Tryz.ntmps124;go_wp2_with fail
  refine (fS _ _ (by rw[aK];omega)).mono ?_
  rintro r w1 ⟨rfl,hb1⟩;rw[aT];have HB1:=aA (aB HN.out hb1);clear hb1 HN HB HR;go_wp2_with fail
  go_ret
  exact ⟨rfl,HB1.out⟩
def atE (es:List En) (p:Bs):Option Nat:=es.findIdx? fun e=>decide (e.path=p)
theorem aN (a:Bs):(str a).toList=a:=by rw[ByteArray.toList_eq,aT]
theorem gS {a b:Bs} (h:a=b):((str a).toList==(str b).toList)=true:=by rw[h];simp
theorem jA {a b:Bs} (h:a≠b):((str a).toList==(str b).toList)=false:=by rw[aN,aN,beq_eq_false_iff_ne];exact h
theorem rB (a b:Bs):((str a).toList==(str b).toList)=decide (a=b):=by
 by_cases h:a=b
 ·rw[gS h,decide_eq_true h]
 ·rw[jA h,decide_eq_false h]
def dD (o:Option Nat):Int:=match o with | some i=>(i:Int) | none=>-1
theorem eG {α:Type} {es:List α} {k:Nat} {e:α} (h:es[k]?=some e):es.drop k=e :: es.drop (k+1):=by
 obtain ⟨hk,he⟩:=List.getElem?_eq_some_iff.1 h;rw[List.drop_eq_getElem_cons hk,he]
theorem zxl {es:List En} {p:Bs} {k:Nat} {e:En} (h:es[k]?=some e) (hi:atE es p=(atE (es.drop k) p).map (· + k)) (hp:e.path=p):atE es p=some k:=by
 rw[hi,eG h];simp[atE,List.findIdx?_cons,hp]
theorem zfj {es:List En} {p:Bs} {k:Nat} {e:En} (h:es[k]?=some e) (hi:atE es p=(atE (es.drop k) p).map (· + k)) (hp:e.path≠p):atE es p=(atE (es.drop (k+1)) p).map (· + (k+1)):=by
 rw[hi,eG h];simp only[atE,List.findIdx?_cons,hp,decide_false,Bool.false_eq_true,if_false,Option.map_map]
 congr 1
 funext x
 simp only[Function.comp];omega
theorem zwl {es:List En} {p:Bs} {k:Nat} (hk:es.length≤k) (hi:atE es p=(atE (es.drop k) p).map (· + k)):atE es p=none:=by
 rw[hi,List.drop_eq_nil_of_le hk];rfl
theorem oV (es:List En) (p:Bs):aG es p=(atE es p).bind (fun i=>es[i]?):=by
 unfold aG atE
 induction es with
 | nil=>rfl
 | cons e r ih =>
  by_cases h:e.path=p
  ·simp[List.findIdx?_cons,h]
  ·simp only[List.findIdx?_cons,List.find?_cons,h,decide_false,Bool.false_eq_true,if_false,ih]
   cases List.findIdx? (fun e=>decide (e.path=p)) r <;> simp
theorem pQ {es:List En} {p:Bs} {k:Nat} (h:atE es p=some k):k<es.length:=by
 unfold atE at h;exact (List.findIdx?_eq_some_iff_getElem.1 h).1
theorem iZ (a:Option Addr) (c n:Nat) (es:List En) (p:Bs) (w:World) (h:RdE w a es) (hn:n=es.length) (hl:es.length≤1048576) :
  Calls Tryz.prog 163 #[.slice a n c,.string (str p)] w fun r w'=>r=.returned (.int .i64 (dD (atE es p)))∧w'=w:=by
 subst hn;have HR:=aA h;clear h;go_enter Tryz.func163,Tryz.ntmps163;go_wp2_with fail
 go_loop [5] (fun i=>∃ k:Nat,k≤es.length∧i=.int .i64 k∧Hid (atE es p=(atE (es.drop k) p).map (· + k))) (fun i=>es.length - (intOf i).toNat)
 case atStart=>exact ⟨0,Nat.zero_le _,rfl,aA (by simp)⟩
 case round =>
  obtain ⟨k,hk,rfl,HA⟩:=hrel;by_cases hlt:k<es.length
  ·obtain ⟨b,off,e,x,cc,rfl,hb,he,c0,c1,c2,c3,hr⟩:=HR.out.at hlt
   have HX:=aA he;clear he hr;by_cases hp:e.path=p
   ·have HE:=aA (zxl HX.out HA.out hp)
    have hs:=gS hp;clear hp;go_wp2_with fail
    go_ret
    exact ⟨aO (by rw[HE.out];rfl),rfl⟩
   ·have HE:=aA (zfj HX.out HA.out hp)
    have hs:=jA hp;clear hp;go_wp2_with fail
    go_round
    case rel=>exact ⟨k+1,by omega,by go_num,HE⟩
    case measure=>simp[intOf];omega
  ·have HE:=aA (zwl (by omega) HA.out)
   go_wp2_with fail
   go_ret
   exact ⟨aO (by rw[HE.out];rfl),rfl⟩
theorem dI (b o:Nat) (k:Int) (w:World) (h:w.cell? ⟨b,o+1,none⟩=some (.int .i64 k)) :
  Calls Tryz.prog 164 #[.pointer (some ⟨b,o,none⟩)] w fun r w'=>r=.returned (.bool (bZ k))∧w'=w:=by
 by_cases h2:k=2
 ·have hk:bZ k=true:=by simp[bZ,h2]
  rw[hk];subst h2;go_enter Tryz.func164,Tryz.ntmps164;go_wp2_with fail
  go_ret
  exact ⟨rfl,rfl⟩
 ·have hk:bZ k=(k==4):=by simp[bZ,h2];rfl
  have hf:(k==2)=false:=by simp;exact h2
  rw[hk];go_enter Tryz.func164,Tryz.ntmps164;go_wp2_with fail
  go_ret
  exact ⟨rfl,rfl⟩
theorem zyg {es:List En} {p:Bs} (h:aE p=[]):eU es p=true:=by simp[eU,h]
theorem zvd {es:List En} {p:Bs} (h:aE p≠[]) (ha:atE es (aE p)=none):eU es p=false:=by simp[eU,h,oV,ha]
theorem zwd {es:List En} {p:Bs} {k:Nat} {e:En} (h:aE p≠[]) (ha:atE es (aE p)=some k) (he:es[k]?=some e):eU es p=bZ e.kind:=by simp[eU,h,oV,ha,he]
theorem sS (a:Bs):(str a).toList.isEmpty=decide (a=[]):=by rw[aN];cases a <;> rfl
theorem uT (a:Option Addr) (c n:Nat) (es:List En) (p:Bs) (w:World) (h:RdE w a es) (hn:n=es.length) (hl:es.length≤1048576) (h1:1≤p.length) (hp:p.length≤1048576) :
  Calls Tryz.prog 118 #[.slice a n c,.string (str p)] w fun r w'=>r=.returned (.bool (eU es p))∧Below w.heap.size w w':=by
 subst hn;have HR:=aA h;clear h;have HP:=aA (show (bR (aX (str p).data.toList.tail)).getLastD []=aE p from by rw[aT];rfl)
 by_cases hq:aE p=[]
 ·have HE:=aA (zyg (es:=es) hq)
  have hs:=(sS (aE p)).trans (decide_eq_true hq);clear hq;go_enter Tryz.func118,Tryz.ntmps118;go_wp2_with fail
  refine (jI _ _ (by rw[aK];omega) (by rw[aK];omega)).mono ?_
  rintro r w1 ⟨rfl,hb⟩;rw[HP.out];have HB:=aA hb;clear hb;go_wp2_with fail
  go_ret
  exact ⟨by rw[HE.out];rfl,HB.out⟩
 ·have hs:=(sS (aE p)).trans (decide_eq_false hq)
  cases ha:atE es (aE p) with
  | none =>
   have HE:=aA (zvd hq ha);have HA:=aA ha;clear hq ha;go_enter Tryz.func118,Tryz.ntmps118;go_wp2_with fail
   refine (jI _ _ (by rw[aK];omega) (by rw[aK];omega)).mono ?_
   rintro r w1 ⟨rfl,hb⟩;rw[HP.out];have HB:=aA hb;have HR1:=aA (HR.out.below hb);clear hb;go_wp2_with fail
   refine (iZ _ _ _ es _ _ HR1.out rfl hl).mono ?_;rintro r w2 ⟨rfl,rfl⟩;rw[HA.out];simp only[dD];go_wp2_with fail
   go_ret
   exact ⟨by rw[HE.out];rfl,HB.out⟩
  | some k =>
   have hk:=pQ ha;obtain ⟨e,he⟩:∃ e,es[k]?=some e:=⟨es[k],List.getElem?_eq_getElem hk⟩;have HE:=aA (zwd hq ha he);have HA:=aA ha;have HX:=aA he;clear hq ha he;go_enter Tryz.func118,Tryz.ntmps118;go_wp2_with fail
   refine (jI _ _ (by rw[aK];omega) (by rw[aK];omega)).mono ?_
   rintro r w1 ⟨rfl,hb⟩;rw[HP.out];have HB:=aA hb;have HR1:=aA (HR.out.below hb);clear hb;go_wp2_with fail
   refine (iZ _ _ _ es _ _ HR1.out rfl hl).mono ?_;rintro r w2 ⟨rfl,rfl⟩;rw[HA.out];simp only[dD];obtain ⟨b,off,e',x,cc,rfl,hbl,he',c0,c1,c2,c3,hr⟩:=HR1.out.at hk;have:e'=e:=Option.some.inj (he'.symm.trans HX.out);subst this;clear he' hr;go_wp2_with fail
   refine (dI _ _ _ _ c1).mono ?_;rintro r w3 ⟨rfl,rfl⟩;go_wp2_with fail
   go_ret
   exact ⟨by rw[HE.out];rfl,HB.out⟩
theorem bM {e:En} (h:aH e=0):aF e.path=0:=by
 by_cases hf:aF e.path=0
 ·exact hf
 ·rw[qI hf]at h;exact absurd h hf
theorem zp1:aF []≠0:=by decide
theorem vB {p:Bs} (h:aF p=0):1≤p.length:=by
 cases p with
 | nil=>exact absurd h zp1
 | cons c r=>simp
theorem vQ {es:List En} (h:12<es.length):cJ es=2:=by simp[cJ,h]
theorem zy7 {es:List En} (h:¬ 12<es.length):cJ es=iT es (cH es 0) (es.drop 0):=by simp[cJ,h,cH]
theorem zcb {es:List En} {k:Nat} {e:En} {F:Int} (hF:F=iT es (cH es k) (es.drop k)) (he:es[k]?=some e) (h:aH e≠0):F=aH e:=by
 have hb:kL es (cH es k) e=aH e:=by simp[kL,h]
 rw[hF,oE he,hb,if_neg h]
theorem zeb {es:List En} {k:Nat} {e:En} {F:Int} (hF:F=iT es (cH es k) (es.drop k)) (he:es[k]?=some e) (h:aH e=0) (hl:iP (cH es k) e=true):F=1:=by
 have hb:kL es (cH es k) e=1:=by simp[kL,h,hl]
 rw[hF,oE he,hb];rfl
theorem xC {es:List En} {k:Nat} {e:En} {F:Int} (hF:F=iT es (cH es k) (es.drop k)) (he:es[k]?=some e) (h:aH e=0) (hl:iP (cH es k) e=false) (hh:eU es e.path=false):F=9:=by
 have hb:kL es (cH es k) e=9:=by simp[kL,h,hl,hh]
 rw[hF,oE he,hb];rfl
theorem xD {es:List En} {k:Nat} {e:En} {F:Int} (hF:F=iT es (cH es k) (es.drop k)) (he:es[k]?=some e) (h:aH e=0) (hl:iP (cH es k) e=false) (hh:eU es e.path=true):F=iT es (cH es (k+1)) (es.drop (k+1)):=by
 have hb:kL es (cH es k) e=0:=by simp[kL,h,hl,hh]
 rw[hF,oE he,hb];rfl
theorem zdb {es:List En} {k:Nat} {F:Int} (hF:F=iT es (cH es k) (es.drop k)) (hk:es.length≤k):F=0:=by
 rw[hF,List.drop_eq_nil_of_le hk];cases cH es k <;> rfl
theorem mP (a:Option Addr) (c n:Nat) (es:List En) (w:World) (h:RdE w a es) (hn:n=es.length) (hl:es.length≤1048576) (hs:aV es) :
  Calls Tryz.prog 70 #[.slice a n c] w fun r w'=>r=.returned (.int .i64 (cJ es))∧Below w.heap.size w w':=by
 subst hn;by_cases hm:12<es.length
 ·have HE:=aA (vQ hm)
  have hm2:(12:Int)<(es.length:Int):=by omega
  go_enter Tryz.func70,Tryz.ntmps70;go_wp2_with fail
  go_ret
  exact ⟨aO HE.out.symm,Below.refl _ _⟩
 ·have HE:=aA (zy7 hm)
  have hm2:¬ (12:Int)<(es.length:Int):=by omega
  generalize cJ es=F at HE ⊢;have HR:=aA h;have HS:=aA hs;clear h hs;go_enter Tryz.func70,Tryz.ntmps70;go_wp2_with fail
  go_loopw [3] (fun i wr=>∃ k:Nat,k≤es.length∧i=.int .i64 k∧Hid (F=iT es (cH es k) (es.drop k))∧Hid (Below w.heap.size w wr)) (fun i _=>es.length - (intOf i).toNat)
  case atStart=>exact ⟨0,Nat.zero_le _,rfl,HE,aA (Below.refl _ _)⟩
  case round =>
   obtain ⟨k,hk,rfl,HF,HW⟩:=hrel;have HR1:=aA (HR.out.below HW.out);by_cases hlt:k<es.length
   ·obtain ⟨b,off,e,x,cc,rfl,hb,he,c0,c1,c2,c3,hr⟩:=HR1.out.at hlt
    have HX:=aA he;have HRc:=aA hr;have hsm:=HS.out e (List.mem_of_getElem? he);clear he hr;by_cases hz:aH e=0
    ·have hpos:=vB (bM hz)
     have HZ:=aA hz;clear hz;go_wp2_with fail
     refine (mC e _ _ _ _ HRc.out rfl hsm.1 hsm.2).mono ?_;rintro r w1 ⟨rfl,hb1⟩;rw[HZ.out];have HW1:=aA (aB HW.out hb1);have HR2:=aA (HR1.out.below hb1);clear hb1 c0 c1 c2 c3 HW HRc;obtain ⟨b',off',e',x',cc',hbb,hb',he',c0,c1,c2,c3,hr'⟩:=HR2.out.at hlt;simp only[Option.some.injEq,Addr.mk.injEq,and_true]at hbb;obtain ⟨rfl,rfl⟩:=hbb;have:e'=e:=Option.some.inj (he'.symm.trans HX.out);subst this;clear he' hr' c1 c2 c3 HR1;cases k with
     | zero =>
      have HL:=aA (show iP (cH es 0) e'=false from rfl)
      simp only[Nat.zero_mul,Nat.add_zero]at c0;go_wp2_with fail
      go_quiet (fail)
      go_wp2_with fail
      have HW2:=aA (below_drewN HW1.out nq);have HR3:=aA (HR2.out.below (below_drewN (Below.refl w1.heap.size w1) nq));clear HW1 HR2;have hw3:∀ o,(w1.drewN nq).cell? ⟨b,o,none⟩=w1.cell? ⟨b,o,none⟩:=fun _=>rfl
      generalize w1.drewN nq=W at *;have HH:=aA (uT _ c es.length es e'.path W HR3.out rfl (by omega) hpos hsm.1)
      cases hh:eU es e'.path
      ·have HO:=aA (xC HF.out HX.out HZ.out HL.out hh)
       refine HH.out.mono ?_;rintro r w4 ⟨rfl,hb4⟩;rw[hh];clear hh;have HW3:=aA (aB HW2.out hb4);clear hb4;go_wp2_with fail
       go_ret
       exact ⟨aO HO.out.symm,HW3.out⟩
      ·have HO:=aA (xD HF.out HX.out HZ.out HL.out hh)
       refine HH.out.mono ?_;rintro r w4 ⟨rfl,hb4⟩;rw[hh];clear hh;have HW3:=aA (aB HW2.out hb4);clear hb4;go_wp2_with fail
       go_roundw
       case rel=>exact ⟨1,by omega,by go_num,HO,HW3⟩
       case measure=>simp[intOf];omega
     | succ j =>
      have hg:(0:Int)<((j+1:Nat):Int):=by omega
      obtain ⟨b2,off2,e2,x2,cc2,hbb,hb2,he2,d0,d1,d2,d3,hr2⟩:=HR2.out.at (show j<es.length by omega)
      simp only[Option.some.injEq,Addr.mk.injEq,and_true]at hbb;obtain ⟨rfl,rfl⟩:=hbb;have HL:=aA (show iP (cH es (j+1)) e'=(Op.bytesLess e'.path e2.path||(e'.path==e2.path)) from by simp[cH,iP,he2])
      clear he2 d1 d2 d3 hr2;cases hlow:(Op.bytesLess (str e'.path).toList (str e2.path).toList||((str e'.path).toList==(str e2.path).toList))
      ·have HL2:=aA (show iP (cH es (j+1)) e'=false from by rw[HL.out];rw[aN,aN]at hlow;exact hlow)
       go_wp2_with fail
       go_quiet (fail)
       go_wp2_with fail
       have HW2:=aA (below_drewN HW1.out nq);have HR3:=aA (HR2.out.below (below_drewN (Below.refl w1.heap.size w1) nq));clear HW1 HR2;have hw3:∀ o,(w1.drewN nq).cell? ⟨b,o,none⟩=w1.cell? ⟨b,o,none⟩:=fun _=>rfl
       generalize w1.drewN nq=W at *;have HH:=aA (uT _ c es.length es e'.path W HR3.out rfl (by omega) hpos hsm.1)
       cases hh:eU es e'.path
       ·have HO:=aA (xC HF.out HX.out HZ.out HL2.out hh)
        refine HH.out.mono ?_;rintro r w4 ⟨rfl,hb4⟩;rw[hh];clear hh;have HW3:=aA (aB HW2.out hb4);clear hb4;go_wp2_with fail
        go_ret
        exact ⟨aO HO.out.symm,HW3.out⟩
       ·have HO:=aA (xD HF.out HX.out HZ.out HL2.out hh)
        refine HH.out.mono ?_;rintro r w4 ⟨rfl,hb4⟩;rw[hh];clear hh;have HW3:=aA (aB HW2.out hb4);clear hb4;go_wp2_with fail
        go_roundw
        case rel=>exact ⟨j+1+1,by omega,by go_num,HO,HW3⟩
        case measure=>simp[intOf];omega
      ·have HL2:=aA (show iP (cH es (j+1)) e'=true from by rw[HL.out];rw[aN,aN]at hlow;exact hlow)
       have HO:=aA (zeb HF.out HX.out HZ.out HL2.out);go_wp2_with fail
       go_quiet (fail)
       go_wp2_with fail
       go_ret
       exact ⟨aO HO.out.symm,below_drewN HW1.out _⟩
    ·have HZ:=aA (zcb HF.out HX.out hz)
     have hz2:(aH e != 0)=true:=by simp;exact hz
     clear hz;go_wp2_with fail
     refine (mC e _ _ _ _ HRc.out rfl hsm.1 hsm.2).mono ?_;rintro r w1 ⟨rfl,hb1⟩;have HW1:=aA (aB HW.out hb1);clear hb1;go_wp2_with fail
     go_ret
     exact ⟨aO HZ.out.symm,HW1.out⟩
   ·have HZ:=aA (zdb HF.out (by omega))
    go_wp2_with fail
    go_ret
    exact ⟨aO HZ.out.symm,HW.out⟩
end Go.Proofs.YtolnlfnndnpiiaaGreat
namespace Go.Proofs.YtolnlfnndnpiiaaGreat
def dL (es:List En) (q:Bs):Bool:=es.any fun x=>decide (x.path=q)&&bZ x.kind
def cR (es:List En) (p:Bs):Bool:=if aE p=[] then true else dL es (aE p)
def dT (home:Bs→Bool) (prev:Option En) (e:En):Int:=if aH e=0 then (if iP prev e then 1 else if home e.path then 0 else 9) else aH e
def cP (home:Bs→Bool):Option En→List En→Int
 | _,[]=>0
 | prev,e :: r=>if dT home prev e=0 then cP home (some e) r else dT home prev e
def aR (es:List En):Int:=if 12<es.length then 2 else cP (cR es) none es
theorem xB (es:List En):∀ (l:List En) (prev:Option En),iT es prev l=cP (eU es) prev l
 | [],_=>rfl
 | e :: r,prev=>by
  simp only[iT,cP];have:kL es prev e=dT (eU es) prev e:=rfl;rw[this,xB es r (some e)]
theorem tU {es:List En} (h:12<es.length):aR es=2:=by simp[aR,h]
theorem mV {es:List En} {H:Bs→Bool} {i:Nat} {e:En} (h:es[i]?=some e):cP H (cH es i) (es.drop i)=if dT H (cH es i) e=0 then cP H (cH es (i+1)) (es.drop (i+1)) else dT H (cH es i) e:=by
 obtain ⟨hi,he⟩:=List.getElem?_eq_some_iff.1 h;have e1:cH es (i+1)=some e:=by simp[cH,h]
 rw[e1,List.drop_eq_getElem_cons hi,he];rfl
theorem zzj {es:List En} {H:Bs→Bool} {k:Nat} {e:En} {F:Int} (hF:F=cP H (cH es k) (es.drop k)) (he:es[k]?=some e) (h:aH e≠0):F=aH e:=by
 have hb:dT H (cH es k) e=aH e:=by simp[dT,h]
 rw[hF,mV he,hb,if_neg h]
theorem zbk {es:List En} {H:Bs→Bool} {k:Nat} {e:En} {F:Int} (hF:F=cP H (cH es k) (es.drop k)) (he:es[k]?=some e) (h:aH e=0) (hl:iP (cH es k) e=true):F=1:=by
 have hb:dT H (cH es k) e=1:=by simp[dT,h,hl]
 rw[hF,mV he,hb];rfl
theorem zk4 {es:List En} {H:Bs→Bool} {k:Nat} {e:En} {F:Int} (hF:F=cP H (cH es k) (es.drop k)) (he:es[k]?=some e) (h:aH e=0) (hl:iP (cH es k) e=false) (hh:H e.path=false):F=9:=by
 have hb:dT H (cH es k) e=9:=by simp[dT,h,hl,hh]
 rw[hF,mV he,hb];rfl
theorem zl4 {es:List En} {H:Bs→Bool} {k:Nat} {e:En} {F:Int} (hF:F=cP H (cH es k) (es.drop k)) (he:es[k]?=some e) (h:aH e=0) (hl:iP (cH es k) e=false) (hh:H e.path=true):F=cP H (cH es (k+1)) (es.drop (k+1)):=by
 have hb:dT H (cH es k) e=0:=by simp[dT,h,hl,hh]
 rw[hF,mV he,hb];rfl
theorem zak {es:List En} {H:Bs→Bool} {k:Nat} {F:Int} (hF:F=cP H (cH es k) (es.drop k)) (hk:es.length≤k):F=0:=by
 rw[hF,List.drop_eq_nil_of_le hk];cases cH es k <;> rfl
theorem ztj {ns:List Bs} (h:ns≠[]):cA ns≠[]:=by
 cases ns with
 | nil=>exact absurd rfl h
 | cons a l=>simp[cA]
theorem kC {p:Bs}:aE p=[]↔bR (aX p.tail)=[]:=by
 constructor
 ·intro h
  cases hc:bR (aX p.tail) with
  | nil=>rfl
  | cons a l =>
   exfalso
   have hm:aE p∈bR (aX p.tail):=by
    unfold aE;rw[List.getLastD_eq_getLast?,List.getLast?_eq_some_getLast (by rw[hc];simp)]
    exact List.getLast_mem _
   rw[h]at hm;obtain ⟨k,h0,hk,e⟩:=qQ.1 hm;exact ztj (by intro e;have:=congrArg List.length e;rw[List.length_take,List.length_nil]at this;omega) e.symm
 ·intro h
  simp[aE,h]
end Go.Proofs.YtolnlfnndnpiiaaGreat
