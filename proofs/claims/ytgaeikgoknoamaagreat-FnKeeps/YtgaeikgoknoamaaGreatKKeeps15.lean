/-
  Texts put together: SnqG.
-/
import Derived.Test.YtgaeikgoknoamaaGreatKKeeps14
import Derived.Test.YtgaeikgoknoamaaGreatKKeeps5
set_option linter.unusedVariables false
set_option maxHeartbeats 12800000
set_option maxRecDepth 100000
namespace Go.Proofs.YtgaeikgoknoamaaGreat
open Go.RowKit Go.Maps
attribute [local go_sem ↓] Go.wp_at_zero Go.wp_at_succ
def Plc (a:Option Addr) (c:Nat) (l:List Sn):Prop:=(a=none∧c=0∧l=[])∨∃ b off,a=some ⟨b,off,none⟩∧l.length≤c
theorem GS.plc {B:Nat} {w:World} {a:Option Addr} {n c:Nat} {l:List Sn} (h:GS B w (.slice a n c) l):Plc a c l:=by
 obtain ⟨rs,h1,h2,h3⟩:=h;have hc:=h2;rcases h2.2 with ⟨e,h0⟩ | ⟨g,cap,cur,h',hb',hh,hnc,-⟩
 ·simp only[Value.slice.injEq]at e
  exact .inl ⟨e.1,e.2.2,List.eq_nil_of_length_eq_zero h0⟩
 ·simp only[Value.slice.injEq]at h'
  obtain ⟨rfl,rfl,rfl⟩:=h';exact .inr ⟨g,0,rfl,hnc⟩
theorem xH {l:List Sn} {s:Sn} {k:Nat} (hr:fM l) (hn:atS l s.name=none) (hk:k≤l.length) (h1:(l.take k).all (fun x=>Op.bytesLess x.name s.name)=true) (h2:∀ y,l[k]?=some y→Op.bytesLess y.name s.name=false):dK l s=l.take k++s :: l.drop k:=by
 have e:l=l.take k++l.drop k:=(List.take_append_drop k l).symm;have hd:∀ y∈l.drop k,Op.bytesLess s.name y.name=true:=by
  intro y hy;have hne:y.name≠s.name:=jZ.1 hn y (List.mem_of_mem_drop hy);refine iS _ _ ?_ hne;cases hx:l.drop k with
  | nil=>rw[hx]at hy;simp at hy
  | cons z r =>
   have hz:l[k]?=some z:=by
    have h3:=congrArg (fun l=>l[0]?) hx
    simpa using h3
   have hzf:=h2 z hz;rw[hx]at hy;rcases List.mem_cons.1 hy with rfl | hy
   ·exact hzf
   ·have hp:fM (l.drop k):=hr.sublist (List.drop_sublist _ _)
    rw[hx]at hp;have hzy:=(List.pairwise_cons.1 hp).1 y hy;cases hb:Op.bytesLess y.name s.name with
    | false=>rfl
    | true=>have:=iG _ _ _ hzy hb;rw[hzf]at this;cases this
 have ht:∀ y∈l.take k,Op.bytesLess y.name s.name=true:=List.all_eq_true.1 h1;unfold dK;have e1:l.filter (fun x=>Op.bytesLess x.name s.name)=l.take k:=by
  conv=>lhs;rw[e]
  rw[List.filter_append,List.filter_eq_self.2 ht,List.filter_eq_nil_iff.2 (fun x hx=>by rw[iR (hd x hx)];decide),List.append_nil]
 have e2:l.filter (fun x=>Op.bytesLess s.name x.name)=l.drop k:=by
  conv=>lhs;rw[e]
  rw[List.filter_append,List.filter_eq_self.2 hd,List.filter_eq_nil_iff.2 (fun x hx=>by rw[iR (ht x hx)];decide),List.nil_append]
 rw[e1,e2]
theorem mX:∀ (rs:List Rs) (k:Nat),(aW rs).take (k * 5)=aW (rs.take k)
 | rs,0=>by simp[aW]
 | [],k+1=>by simp[aW]
 | r :: rs,k+1=>by
  have h:=mX rs k;have e:(k+1) * 5=(bU r).length+k * 5:=by simp[bU];omega
  simp only[aW,List.flatMap_cons,List.take_succ_cons]at h ⊢;rw[e,List.take_length_add_append,h]
theorem jG:∀ (rs:List Rs) (k:Nat),(aW rs).drop (k * 5)=aW (rs.drop k)
 | rs,0=>by simp
 | [],k+1=>by simp[aW]
 | r :: rs,k+1=>by
  have h:=jG rs k;have e:(k+1) * 5=(bU r).length+k * 5:=by simp[bU];omega
  simp only[aW,List.flatMap_cons,List.drop_succ_cons]at h ⊢;rw[e,List.drop_length_add_append,h]
theorem lJ {w0 w5:World} {B:Nat} {rs:List Rs} {l:List Sn} {s:Sn} {x:Option Addr} {cc k n:Nat} {av:Option Addr} {cv:Nat} (g1:rs.map Rs.s=l) (hk:k≤l.length) (hn:n=l.length+1)
  (g3:∀ r∈rs,RdE w0 r.a r.s.layer) (hx:RdE w0 x s.layer) (hb:Below w0.heap.size w0 w5)
  (ho:w5.ownsRow B 42 5 (.slice av n cv) n ((([]++aW (rs.take k))++bU ⟨s,x,cc⟩)++aW (rs.drop k))):RdS w5 av (l.take k++s :: l.drop k):=by
 subst hn;refine zb2 (rs:=rs.take k++⟨s,x,cc⟩ :: rs.drop k) ?_ ?_ (fun r hr=>?_) (B:=B) (n:=l.length+1) (c:=cv)
 ·rw[List.map_append,List.map_cons,List.map_take,List.map_drop,g1]
 ·have e1:(l.take k++s :: l.drop k).length=l.length+1:=by simp;omega
  rw[e1];have e2:aW (rs.take k++⟨s,x,cc⟩ :: rs.drop k)=(([]++aW (rs.take k))++bU ⟨s,x,cc⟩)++aW (rs.drop k):=by
   rw[oO];simp[aW]
  rw[e2];exact ho
 ·rcases List.mem_append.1 hr with hr | hr
  ·exact (g3 r (List.mem_of_mem_take hr)).below hb
  ·rcases List.mem_cons.1 hr with rfl | hr
   ·exact hx.below hb
   ·exact (g3 r (List.mem_of_mem_drop hr)).below hb
theorem pD {w:World} {H:Nat} {u0 u1 u2 u3 u4:Value} {t:TypeId} (hH:w.heap.size=H):∀ j x,[u0,u1,u2,u3,u4][j]?=some x→(w.alloc (.cells #[u0,u1,u2,u3,u4] t)).cell? ((⟨H,0,none⟩:Addr).add j)=some x:=by
 subst hH;intro j x hj;rw[eU,Nat.zero_add,cell_of_row _ w.heap.size j #[u0,u1,u2,u3,u4] t (0,0) (heap_alloc_new w _)];simpa using hj
theorem rR {l:List Sn} {s:Sn} (h:dF l) (hl:l.length<1048576) (h1:s.name.length≤1048576) (h2:s.parent.length≤1048576) (h3:s.layer.length≤1048576) (h4:cG s.layer) (k:Nat) (hk:k≤l.length):dF (l.take k++s :: l.drop k):=by
 refine ⟨by simp;omega,fun y hy=>?_⟩
 rcases List.mem_append.1 hy with hy | hy
 ·exact h.2 y (List.mem_of_mem_take hy)
 ·rcases List.mem_cons.1 hy with rfl | hy
  ·exact ⟨h1,h2,h3,h4⟩
  ·exact h.2 y (List.mem_of_mem_drop hy)
theorem zs8 (b off c n:Nat) (l:List Sn) (s:Sn) (x:Option Addr) (cc:Nat) (w:World) (h:RdS w (some ⟨b,off,none⟩) l) (hP:l.length≤c) (hn:n=l.length) (hl:l.length<1048576) (hri:fM l) (hne:∀ y∈l,y.name≠[]) (hs:dF l) (hx:RdE w x s.layer) (hs1:s.name.length≤1048576) (hs2:s.parent.length≤1048576) (hs3':s.layer.length≤1048576) (hs4:cG s.layer) :
  Calls Tryz.prog 186 #[.slice (some ⟨b,off,none⟩) n c,.agg #[.string (str s.name),.string (str s.parent),.int .i64 s.kind,.bool s.lease,.slice x s.layer.length cc]] w fun r w'=>(cW l s≠0∧bI 0 (cW l s) l w r w')∨(cW l s=0∧bI 0 0 (dK l s) w r w'):=by
 subst hn;obtain ⟨i1,ki,kz0,kz1,kz2⟩:=info_parts Tryz.infoSn;have X5:=aA ((kX.new w (.string (str s.name)) (.string (str s.parent)) (.int .i64 s.kind) (.bool s.lease) (.slice x s.layer.length cc) 42).below (aC _ (.cells #[.int .i64 0,.int .i64 0,.slice none 0 0] 29)));have X3:=aA (fB.new (w.alloc (.cells #[.string (str s.name),.string (str s.parent),.int .i64 s.kind,.bool s.lease,.slice x s.layer.length cc] 42)) (.int .i64 0) (.int .i64 0) (.slice none 0 0) 29);have hsa:(w.alloc (.cells #[.string (str s.name),.string (str s.parent),.int .i64 s.kind,.bool s.lease,.slice x s.layer.length cc] 42)).heap.size=w.heap.size+1:=by simp
 rw[hsa]at X3;clear hsa;have B0:=aA (aB (aC w (.cells #[.string (str s.name),.string (str s.parent),.int .i64 s.kind,.bool s.lease,.slice x s.layer.length cc] 42)) (aC _ (.cells #[.int .i64 0,.int .i64 0,.slice none 0 0] 29)));have hW0:((w.alloc (.cells #[.string (str s.name),.string (str s.parent),.int .i64 s.kind,.bool s.lease,.slice x s.layer.length cc] 42)).alloc (.cells #[.int .i64 0,.int .i64 0,.slice none 0 0] 29)).heap.size=w.heap.size+2:=by simp
 have HRd:=aA h;have HXR:=aA (hx.below B0.out);have HRI:=aA hri;have HNE:=aA hne;have HSM:=aA hs;have HS4:=aA hs4;obtain ⟨rs,g1,g3,g4⟩:=ze7 (h.below B0.out);have G1:=aA g1;have G3:=aA g3;have hrsl:rs.length=l.length:=by rw[←g1,List.length_map]
 have NS:=aA (show ∀ w',Below _ _ w'→∀ i u,(aW rs)[i]?=some u→w'.cell? ⟨b,off+i,none⟩=some u from fun w' hb' i u hu=>by
  have hln:l≠[]:=fun e=>by
   have h7:rs=[]:=List.eq_nil_of_length_eq_zero (by rw[hrsl,e];rfl)
   rw[h7]at hu;simp[aW]at hu
  obtain ⟨b1,off1,e1,hb1,hc1⟩:=g4 hln;simp only[Option.some.injEq,Addr.mk.injEq,and_true]at e1;obtain ⟨rfl,rfl⟩:=e1;exact (hb'.cell (p:=⟨b,off+i,none⟩) hb1).trans (hc1 i u hu))
 clear h hri hne hs hs4 hx g1 g3 g4;go_enter Tryz.func186,Tryz.ntmps186;go_upto_region 1 with fail
 generalize (w.alloc (.cells #[.string (str s.name),.string (str s.parent),.int .i64 s.kind,.bool s.lease,.slice x s.layer.length cc] 42)).alloc (.cells #[.int .i64 0,.int .i64 0,.slice none 0 0] 29)=W0 at *;obtain ⟨f0,f1,f2,f3,f4⟩:=X5.out.1;go_wp2_with fail
 refine (sG s.name W0 hs1).mono ?_;rintro r w1 ⟨rfl,hw1⟩;subst hw1;cases hnm:fL s.name
 ·have HNK:=aA hnm
  clear hnm;go_wp2_with fail
  have HQ:Hid (cW l s=5):=aA (by unfold cW;rw[HNK.out];rfl)
  refine (cC _ c l.length l 5 _ (HRd.out.below B0.out) rfl (by omega) HSM.out).mono ?_
  rintro r w9 ⟨av,cv,rfl,hG,hb9⟩;have G9:=aA hG;have B9:=aA (aB B0.out hb9);obtain ⟨⟨t0,t1,t2⟩,t3,t4,t5⟩:=X3.out.below hb9;clear hG hb9;go_wp2_with fail
  exact bodyPost_ret (v:=.agg #[.int .i64 0,.int .i64 5,.slice av l.length cv]) (by simp[results,Tryz.results186,go_sem,t0,t1,t2]) rfl (.inl ⟨by rw[HQ.out];decide,by rw[HQ.out];exact bI.of (B:=w1.heap.size) (by omega) (by omega) rfl G9.out B9.out⟩)
 ·have HNK:=aA hnm
  clear hnm;go_wp2_with fail
  refine (gW _ c l.length l s.name w1 (HRd.out.below B0.out) rfl (by omega)).mono ?_
  rintro r w2 ⟨rfl,hw2⟩;subst hw2;cases hp:plS l s.name with
  | some j =>
   have HAT:=aA (nR hp);have hj0:(0:Int)≤(j:Int):=by omega
   clear hp;simp only[cR];go_wp2_with fail
   have HQ:Hid (cW l s=7):=aA (by obtain ⟨t,-,h8⟩:=HAT.out;unfold cW;rw[HNK.out,h8];rfl)
   refine (cC _ c l.length l 7 _ (HRd.out.below B0.out) rfl (by omega) HSM.out).mono ?_
   rintro r w9 ⟨av,cv,rfl,hG,hb9⟩;have G9:=aA hG;have B9:=aA (aB B0.out hb9);obtain ⟨⟨t0,t1,t2⟩,t3,t4,t5⟩:=X3.out.below hb9;clear hG hb9;go_wp2_with fail
   exact bodyPost_ret (v:=.agg #[.int .i64 0,.int .i64 7,.slice av l.length cv]) (by simp[results,Tryz.results186,go_sem,t0,t1,t2]) rfl (.inl ⟨by rw[HQ.out];decide,by rw[HQ.out];exact bI.of (B:=w2.heap.size) (by omega) (by omega) rfl G9.out B9.out⟩)
  | none =>
   have HN:=aA (jK hp);clear hp;simp only[cR];by_cases hpa:s.parent=[]
   ·have hpe:(str s.parent).toList.isEmpty=true:=by rw[hpa,aN];rfl
    have HGM:Hid (cW l s=if 10≤l.length∨4≤eQ l s.parent then 2 else 0):=aA (by unfold cW;rw[HNK.out,HN.out];simp only[if_true,Option.isSome_none,Bool.false_eq_true,if_false];rw[if_pos hpa])
    clear hpa;by_cases h10:10≤l.length
    ·have h10i:(10:Int)≤(l.length:Int):=by omega
     have HX10:=aA h10;clear h10;go_wp2_with fail
     have HQ:Hid (cW l s=2):=aA (by rw[HGM.out,if_pos (.inl HX10.out)])
     refine (cC _ c l.length l 2 _ (HRd.out.below B0.out) rfl (by omega) HSM.out).mono ?_
     rintro r w9 ⟨av,cv,rfl,hG,hb9⟩;have G9:=aA hG;have B9:=aA (aB B0.out hb9);obtain ⟨⟨t0,t1,t2⟩,t3,t4,t5⟩:=X3.out.below hb9;clear hG hb9;go_wp2_with fail
     exact bodyPost_ret (v:=.agg #[.int .i64 0,.int .i64 2,.slice av l.length cv]) (by simp[results,Tryz.results186,go_sem,t0,t1,t2]) rfl (.inl ⟨by rw[HQ.out];decide,by rw[HQ.out];exact bI.of (B:=w2.heap.size) (by omega) (by omega) rfl G9.out B9.out⟩)
    ·have h10i:¬ (10:Int)≤(l.length:Int):=by omega
     have HX10:=aA h10;clear h10;go_wp2_with fail
     refine (oK _ c l.length l s.parent w2 (HRd.out.below B0.out) rfl (by omega) HNE.out).mono ?_
     rintro r w3 ⟨rfl,hw3⟩;subst hw3;by_cases hd:4≤eQ l s.parent
     ·have hdi:(4:Int)≤(eQ l s.parent:Int):=by omega
      have HD:=aA hd;clear hd;go_wp2_with fail
      have HQ:Hid (cW l s=2):=aA (by rw[HGM.out,if_pos (.inr HD.out)])
      refine (cC _ c l.length l 2 _ (HRd.out.below B0.out) rfl (by omega) HSM.out).mono ?_
      rintro r w9 ⟨av,cv,rfl,hG,hb9⟩;have G9:=aA hG;have B9:=aA (aB B0.out hb9);obtain ⟨⟨t0,t1,t2⟩,t3,t4,t5⟩:=X3.out.below hb9;clear hG hb9;go_wp2_with fail
      exact bodyPost_ret (v:=.agg #[.int .i64 0,.int .i64 2,.slice av l.length cv]) (by simp[results,Tryz.results186,go_sem,t0,t1,t2]) rfl (.inl ⟨by rw[HQ.out];decide,by rw[HQ.out];exact bI.of (B:=w3.heap.size) (by omega) (by omega) rfl G9.out B9.out⟩)
     ·have hdi:¬ (4:Int)≤(eQ l s.parent:Int):=by omega
      have HQ0:Hid (cW l s=0):=aA (by rw[HGM.out,if_neg (fun e=>e.elim HX10.out hd)])
      clear hd HGM;go_wp2_with fail
      clear hdi;obtain ⟨W1,hW1⟩:∃ W1,W1=w3:=⟨_,rfl⟩;subst hW1;go_loopw [6] (fun i wr=>∃ k:Nat,k≤l.length∧i=.int .i64 k∧Hid ((l.take k).all (fun x=>Op.bytesLess x.name s.name)=true)∧Hid (Below W1.heap.size W1 wr)) (fun i _=>l.length - (intOf i).toNat)
      case atStart=>exact ⟨0,Nat.zero_le _,rfl,aA (by simp),aA (Below.refl _ _)⟩
      case round =>
       obtain ⟨k,hk,rfl,HL,HW⟩:=hrel;have F3:=(X5.out.below HW.out).1.1;by_cases hlt:k<l.length
       ·obtain ⟨b',off',y,xx,c2,hbb,hb,he,c0,-,-,-,-,-⟩:=(HRd.out.below B0.out).at hlt
        simp only[Option.some.injEq,Addr.mk.injEq,and_true]at hbb;obtain ⟨rfl,rfl⟩:=hbb;have c0:=(HW.out.cell (p:=⟨b,off+k * 5,none⟩) hb).trans c0;have HX:=aA he;clear he;cases hlo:Op.bytesLess (str y.name).toList (str s.name).toList
        ·have HPU:=aA (xH HRI.out HN.out hk HL.out (fun y' hy'=>by rw[HX.out]at hy';cases hy';rw[aN,aN]at hlo;exact hlo))
         go_wp2_with fail
         go_quiet (fail)
         clear c0 F3;have HWk:=aA (below_drewN HW.out nq);clear HW;generalize wr.drewN nq=W2 at HWk ⊢;have hsW:=HWk.out.size;have OWN0:Hid ((W2.alloc (.cells #[] 42)).ownsRow W2.heap.size 42 5 (.slice (some ⟨W2.heap.size,0,none⟩) 0 0) 0 []):=World.ownsRow_made W2 #[] 0 (Nat.le_refl _) (Nat.zero_le _) rfl;have NEWS0:Hid (∀ j u,(aW (rs.take k))[j]?=some u→(W2.alloc (.cells #[] 42)).cell? ((⟨b,off,none⟩:Addr).add j)=some u):=aA (fun j u hj=>by
          rw[eU];refine NS.out _ (aB HWk.out (aC W2 _)) j u ?_;rw[←mX,List.getElem?_take]at hj;split at hj
          ·exact hj
          ·cases hj)
         have hln0:(aW (rs.take k)).length=k * 5:=by rw[dB,List.length_take];congr 1;omega
         have hm0:0+k≤maxLen:=by unfold maxLen;omega
         have hm0':(0+k) * 72≤140737488355328:=by omega
         have hkc:(k:Int)≤(c:Int):=by omega
         go_wp2_with (at_builtin;refine eK rfl (.tmp 68) (.tmp 71) 24 rfl W2.heap.size 42 i1 (.agg #[.string ⟨#[]⟩,.string ⟨#[]⟩,.int .i64 0,.bool false,.slice none 0 0]) 5 72 Tryz.underlying24 ki kz0 kz1 kz2 rfl (by decide) (.slice (some ⟨W2.heap.size,0,none⟩) 0 0) 0 [] rfl OWN0.out ⟨b,off,none⟩ k c (aW (rs.take k)) rfl hln0 NEWS0.out (dW _) k (by simp) hm0 hm0' (by simp) ?_;intro av3 cv3 w3 hown3 hk3;have O3:=aA hown3;have K3:=aA hk3;clear hown3 hk3)
         have BW3:=aA ((aC W2 (.cells #[] 42)).trans (K3.out.below (by simp) (fun q hq hS=>by simp[Value.ownBlock]at hS;omega)))
         have B3:=aA (aB HWk.out BW3.out);have hs3:=BW3.out.size;have KC:Hid (∀ w5:World,Below W2.heap.size W2 w5→w5.cell? ⟨w.heap.size,0,none⟩=some (.string (str s.name))∧w5.cell? ⟨w.heap.size,1,none⟩=some (.string (str s.parent))∧w5.cell? ⟨w.heap.size,2,none⟩=some (.int .i64 s.kind)∧w5.cell? ⟨w.heap.size,3,none⟩=some (.bool s.lease)∧w5.cell? ⟨w.heap.size,4,none⟩=some (.slice x s.layer.length cc)):=fun w5 hb5=>(X5.out.below (aB HWk.out hb5)).1
         obtain ⟨p0,p1,p2,p3,p4⟩:=(X5.out.below B3.out).1;have OWN1:Hid ((w3.alloc (.cells #[.string (str s.name),.string (str s.parent),.int .i64 s.kind,.bool s.lease,.slice x s.layer.length cc] 42)).drew.ownsRow W2.heap.size 42 5 (.slice av3 k cv3) k ([]++aW (rs.take k))):=aG O3.out (aC _ _).drew;have NEWS1:Hid (∀ j u,(bU ⟨s,x,cc⟩)[j]?=some u→(w3.alloc (.cells #[.string (str s.name),.string (str s.parent),.int .i64 s.kind,.bool s.lease,.slice x s.layer.length cc] 42)).drew.cell? ((⟨w3.heap.size,0,none⟩:Addr).add j)=some u):=pD (t:=42) rfl;have hnl:(aW (rs.drop k)).length=(l.length - k) * 5:=by rw[dB,List.length_drop,hrsl]
         have hm1:k+1≤maxLen:=by unfold maxLen;omega
         have hm1':(k+1) * 72≤140737488355328:=by omega
         have hk1':k+1+(l.length - k)=l.length+1:=by omega
         have hm2:k+1+(l.length - k)≤maxLen:=by unfold maxLen;omega
         have hm2':(k+1+(l.length - k)) * 72≤140737488355328:=by omega
         have HLn:=aA (show l.length+1=(l.take k++s :: l.drop k).length from by simp;omega)
         have HSm:=aA (rR HSM.out hl hs1 hs2 hs3' HS4.out k hk);have hkc2:(k:Int)≤(l.length:Int):=by omega
         have hbc:(l.length:Int)≤(c:Int):=by omega
         by_cases hck:c=k
         ·exact absurd hck (by omega)
         ·have hck2:¬ k=c:=fun e=>hck e.symm
          have NEWS2:Hid (∀ w5:World,Below W2.heap.size W2 w5→∀ j u,(aW (rs.drop k))[j]?=some u→w5.cell? ((⟨b,off+k * 5,none⟩:Addr).add j)=some u):=fun w5 hb5 j u hj=>by
           rw[eU,Nat.add_assoc];exact NS.out _ (aB HWk.out hb5) _ u (by rw[←jG,List.getElem?_drop]at hj;exact hj)
          go_region_held3 (fun w'=>w'.cell? ⟨w.heap.size,0,none⟩=some (.string (str s.name))∧w'.cell? ⟨w.heap.size,1,none⟩=some (.string (str s.parent))∧w'.cell? ⟨w.heap.size,2,none⟩=some (.int .i64 s.kind)∧w'.cell? ⟨w.heap.size,3,none⟩=some (.bool s.lease)∧w'.cell? ⟨w.heap.size,4,none⟩=some (.slice x s.layer.length cc)) (first | exact KC.out _ BB4.out | exact KC.out _ BB5.out | exact KC.out _ B6.out | go_keep)
           ((
            first
            | (refine bB (by rfl) (.tmp 73) (.tmp 75) 24 (by rfl) W2.heap.size 42 i1 (.agg #[.string ⟨#[]⟩,.string ⟨#[]⟩,.int .i64 0,.bool false,.slice none 0 0]) 5 72 Tryz.underlying24 ki kz0 kz1 kz2 rfl (by decide) (.slice av3 k cv3) k ([]++aW (rs.take k)) (by rfl) OWN1.out ⟨w3.heap.size,0,none⟩ 1 1 (bU ⟨s,x,cc⟩) (by rfl) (by rfl) NEWS1.out (dW [⟨s,x,cc⟩]) (k+1) rfl hm1 hm1' (by simp;omega) ?_;intro av4 cv4 w4 hown4 hk4;have O4:=aA hown4;have BB4:=aA (BW3.out.trans ((((aD.refl (fun q=>(Value.slice av3 k cv3).ownBlock=some q) w3).alloc _).drew.trans hk4).below hs3 (fun q hq hS=>by have:=(O3.out.lt q hS).1;omega)));clear hown4 hk4)
            | (refine bB (by rfl) (.tmp 76) (.tmp 79) 24 (by rfl) W2.heap.size 42 i1 (.agg #[.string ⟨#[]⟩,.string ⟨#[]⟩,.int .i64 0,.bool false,.slice none 0 0]) 5 72 Tryz.underlying24 ki kz0 kz1 kz2 rfl (by decide) (.slice av4 (k+1) cv4) (k+1) (([]++aW (rs.take k))++bU ⟨s,x,cc⟩) (by rfl) O4.out ⟨b,off+k * 5,none⟩ (l.length - k) (c - k) (aW (rs.drop k)) (by rfl) hnl (NEWS2.out w4 BB4.out) (dW _) (l.length+1) hk1' hm2 hm2' BB4.out.size ?_;intro av5 cv5 w5 hown5 hk5;have O5:=aA hown5;have BB5:=aA (BB4.out.trans (hk5.below BB4.out.size (fun q hq hS=>by have:=(O4.out.lt q hS).1;omega)));have RD5:=aA (lJ G1.out hk rfl G3.out HXR.out (aB HWk.out BB5.out) hown5);clear hown5 hk5)
            | (go_at_call 79;refine (dV av5 cv5 (l.length+1) _ w5 RD5.out HLn.out (by rw[←HLn.out];omega) HSm.out).mono ?_;rintro r w6 ⟨av6,cv6,rfl,hG6,hb6⟩;have GG6:=aA (hG6.mono BB5.out.size);have B6:=aA (aB BB5.out hb6);obtain ⟨⟨t0,t1,t2⟩,t3,t4,t5⟩:=X3.out.below (aB HWk.out B6.out);clear hG6 hb6)))
          rw[←HLn.out]at GG6;go_wp2_with fail
          have hpl:(dK l s).length=l.length+1:=by rw[HPU.out];exact HLn.out.symm
          exact bodyPost_ret (v:=.agg #[.int .i64 0,.int .i64 0,.slice av6 (l.length+1) cv6]) (by first | (simp[results,Tryz.results186,go_sem,t0,t1,t2];done) | (simp[results,Tryz.results186,go_sem,t0,t1,t2];omega)) rfl (.inr ⟨HQ0.out,bI.of (B:=W2.heap.size) (by omega) (by omega) hpl.symm (by rw[HPU.out];exact GG6.out) (aB B0.out (aB HWk.out B6.out))⟩)
        ·have HLk:=aA (show (l.take (k+1)).all (fun x=>Op.bytesLess x.name s.name)=true from by
          rw[aN,aN]at hlo;rw[cT HX.out];simp only[List.all_append,HL.out,List.all_cons,hlo,List.all_nil,Bool.and_self])
         go_wp2_with fail
         go_quiet (fail)
         go_wp2_with fail
         go_roundw
         case rel=>exact ⟨k+1,by omega,by go_num,HLk,aA (below_drewN HW.out nq)⟩
         case measure=>simp[intOf];omega
       ·have HPU:=aA (xH HRI.out HN.out hk HL.out (fun y' hy'=>by have:=(List.getElem?_eq_some_iff.1 hy').1;omega))
        go_wp2_with fail
        go_quiet (fail)
        clear F3;have HWk:=aA (below_drewN HW.out nq);clear HW;generalize wr.drewN nq=W2 at HWk ⊢;have hsW:=HWk.out.size;have OWN0:Hid ((W2.alloc (.cells #[] 42)).ownsRow W2.heap.size 42 5 (.slice (some ⟨W2.heap.size,0,none⟩) 0 0) 0 []):=World.ownsRow_made W2 #[] 0 (Nat.le_refl _) (Nat.zero_le _) rfl;have NEWS0:Hid (∀ j u,(aW (rs.take k))[j]?=some u→(W2.alloc (.cells #[] 42)).cell? ((⟨b,off,none⟩:Addr).add j)=some u):=aA (fun j u hj=>by
         rw[eU];refine NS.out _ (aB HWk.out (aC W2 _)) j u ?_;rw[←mX,List.getElem?_take]at hj;split at hj
         ·exact hj
         ·cases hj)
        have hln0:(aW (rs.take k)).length=k * 5:=by rw[dB,List.length_take];congr 1;omega
        have hm0:0+k≤maxLen:=by unfold maxLen;omega
        have hm0':(0+k) * 72≤140737488355328:=by omega
        have hkc:(k:Int)≤(c:Int):=by omega
        go_wp2_with (at_builtin;refine eK rfl (.tmp 68) (.tmp 71) 24 rfl W2.heap.size 42 i1 (.agg #[.string ⟨#[]⟩,.string ⟨#[]⟩,.int .i64 0,.bool false,.slice none 0 0]) 5 72 Tryz.underlying24 ki kz0 kz1 kz2 rfl (by decide) (.slice (some ⟨W2.heap.size,0,none⟩) 0 0) 0 [] rfl OWN0.out ⟨b,off,none⟩ k c (aW (rs.take k)) rfl hln0 NEWS0.out (dW _) k (by simp) hm0 hm0' (by simp) ?_;intro av3 cv3 w3 hown3 hk3;have O3:=aA hown3;have K3:=aA hk3;clear hown3 hk3)
        have BW3:=aA ((aC W2 (.cells #[] 42)).trans (K3.out.below (by simp) (fun q hq hS=>by simp[Value.ownBlock]at hS;omega)))
        have B3:=aA (aB HWk.out BW3.out);have hs3:=BW3.out.size;have KC:Hid (∀ w5:World,Below W2.heap.size W2 w5→w5.cell? ⟨w.heap.size,0,none⟩=some (.string (str s.name))∧w5.cell? ⟨w.heap.size,1,none⟩=some (.string (str s.parent))∧w5.cell? ⟨w.heap.size,2,none⟩=some (.int .i64 s.kind)∧w5.cell? ⟨w.heap.size,3,none⟩=some (.bool s.lease)∧w5.cell? ⟨w.heap.size,4,none⟩=some (.slice x s.layer.length cc)):=fun w5 hb5=>(X5.out.below (aB HWk.out hb5)).1
        obtain ⟨p0,p1,p2,p3,p4⟩:=(X5.out.below B3.out).1;have OWN1:Hid ((w3.alloc (.cells #[.string (str s.name),.string (str s.parent),.int .i64 s.kind,.bool s.lease,.slice x s.layer.length cc] 42)).drew.ownsRow W2.heap.size 42 5 (.slice av3 k cv3) k ([]++aW (rs.take k))):=aG O3.out (aC _ _).drew;have NEWS1:Hid (∀ j u,(bU ⟨s,x,cc⟩)[j]?=some u→(w3.alloc (.cells #[.string (str s.name),.string (str s.parent),.int .i64 s.kind,.bool s.lease,.slice x s.layer.length cc] 42)).drew.cell? ((⟨w3.heap.size,0,none⟩:Addr).add j)=some u):=pD (t:=42) rfl;have hnl:(aW (rs.drop k)).length=(l.length - k) * 5:=by rw[dB,List.length_drop,hrsl]
        have hm1:k+1≤maxLen:=by unfold maxLen;omega
        have hm1':(k+1) * 72≤140737488355328:=by omega
        have hk1':k+1+(l.length - k)=l.length+1:=by omega
        have hm2:k+1+(l.length - k)≤maxLen:=by unfold maxLen;omega
        have hm2':(k+1+(l.length - k)) * 72≤140737488355328:=by omega
        have HLn:=aA (show l.length+1=(l.take k++s :: l.drop k).length from by simp;omega)
        have HSm:=aA (rR HSM.out hl hs1 hs2 hs3' HS4.out k hk);have hkc2:(k:Int)≤(l.length:Int):=by omega
        have hbc:(l.length:Int)≤(c:Int):=by omega
        by_cases hck:c=k
        ·obtain rfl:k=c:=hck.symm
         have hck3:k=l.length:=by omega
         have hnl0:(aW (rs.drop k)).length=0 * 5:=by rw[dB,List.length_drop,hrsl];omega
         have hk0:k+1+0=l.length+1:=by omega
         have hm3:k+1+0≤maxLen:=by omega
         have hm3':(k+1+0) * 72≤140737488355328:=by omega
         have HCK:=aA hck3;clear hck3;have NEWS2:Hid (∀ w5:World,Below W2.heap.size W2 w5→∀ j u,(aW (rs.drop k))[j]?=some u→w5.cell? ((⟨b,off,none⟩:Addr).add j)=some u):=fun w5 hb5 j u hj=>by rw[←jG,List.drop_eq_nil_of_le (by rw[dB];omega)]at hj;simp at hj
         go_region_held3 (fun w'=>w'.cell? ⟨w.heap.size,0,none⟩=some (.string (str s.name))∧w'.cell? ⟨w.heap.size,1,none⟩=some (.string (str s.parent))∧w'.cell? ⟨w.heap.size,2,none⟩=some (.int .i64 s.kind)∧w'.cell? ⟨w.heap.size,3,none⟩=some (.bool s.lease)∧w'.cell? ⟨w.heap.size,4,none⟩=some (.slice x s.layer.length cc)) (first | exact KC.out _ BB4.out | exact KC.out _ BB5.out | exact KC.out _ B6.out | go_keep)
          ((
           first
           | (refine bB (by rfl) (.tmp 73) (.tmp 75) 24 (by rfl) W2.heap.size 42 i1 (.agg #[.string ⟨#[]⟩,.string ⟨#[]⟩,.int .i64 0,.bool false,.slice none 0 0]) 5 72 Tryz.underlying24 ki kz0 kz1 kz2 rfl (by decide) (.slice av3 k cv3) k ([]++aW (rs.take k)) (by rfl) OWN1.out ⟨w3.heap.size,0,none⟩ 1 1 (bU ⟨s,x,cc⟩) (by rfl) (by rfl) NEWS1.out (dW [⟨s,x,cc⟩]) (k+1) rfl hm1 hm1' (by simp;omega) ?_;intro av4 cv4 w4 hown4 hk4;have O4:=aA hown4;have BB4:=aA (BW3.out.trans ((((aD.refl (fun q=>(Value.slice av3 k cv3).ownBlock=some q) w3).alloc _).drew.trans hk4).below hs3 (fun q hq hS=>by have:=(O3.out.lt q hS).1;omega)));clear hown4 hk4)
           | (refine bB (by rfl) (.tmp 76) (.tmp 79) 24 (by rfl) W2.heap.size 42 i1 (.agg #[.string ⟨#[]⟩,.string ⟨#[]⟩,.int .i64 0,.bool false,.slice none 0 0]) 5 72 Tryz.underlying24 ki kz0 kz1 kz2 rfl (by decide) (.slice av4 (k+1) cv4) (k+1) (([]++aW (rs.take k))++bU ⟨s,x,cc⟩) (by rfl) O4.out ⟨b,off,none⟩ 0 0 (aW (rs.drop k)) (by rfl) hnl0 (NEWS2.out w4 BB4.out) (dW _) (l.length+1) hk0 hm3 hm3' BB4.out.size ?_;intro av5 cv5 w5 hown5 hk5;have O5:=aA hown5;have BB5:=aA (BB4.out.trans (hk5.below BB4.out.size (fun q hq hS=>by have:=(O4.out.lt q hS).1;omega)));have RD5:=aA (lJ G1.out hk rfl G3.out HXR.out (aB HWk.out BB5.out) hown5);clear hown5 hk5)
           | (go_at_call 79;refine (dV av5 cv5 (l.length+1) _ w5 RD5.out HLn.out (by rw[←HLn.out];omega) HSm.out).mono ?_;rintro r w6 ⟨av6,cv6,rfl,hG6,hb6⟩;have GG6:=aA (hG6.mono BB5.out.size);have B6:=aA (aB BB5.out hb6);obtain ⟨⟨t0,t1,t2⟩,t3,t4,t5⟩:=X3.out.below (aB HWk.out B6.out);clear hG6 hb6)))
         rw[←HLn.out]at GG6;go_wp2_with fail
         have hpl:(dK l s).length=l.length+1:=by rw[HPU.out];exact HLn.out.symm
         exact bodyPost_ret (v:=.agg #[.int .i64 0,.int .i64 0,.slice av6 (l.length+1) cv6]) (by first | (simp[results,Tryz.results186,go_sem,t0,t1,t2];done) | (simp[results,Tryz.results186,go_sem,t0,t1,t2];omega)) rfl (.inr ⟨HQ0.out,bI.of (B:=W2.heap.size) (by omega) (by omega) hpl.symm (by rw[HPU.out];exact GG6.out) (aB B0.out (aB HWk.out B6.out))⟩)
        ·have hck2:¬ k=c:=fun e=>hck e.symm
         have NEWS2:Hid (∀ w5:World,Below W2.heap.size W2 w5→∀ j u,(aW (rs.drop k))[j]?=some u→w5.cell? ((⟨b,off+k * 5,none⟩:Addr).add j)=some u):=fun w5 hb5 j u hj=>by
          rw[eU,Nat.add_assoc];exact NS.out _ (aB HWk.out hb5) _ u (by rw[←jG,List.getElem?_drop]at hj;exact hj)
         go_region_held3 (fun w'=>w'.cell? ⟨w.heap.size,0,none⟩=some (.string (str s.name))∧w'.cell? ⟨w.heap.size,1,none⟩=some (.string (str s.parent))∧w'.cell? ⟨w.heap.size,2,none⟩=some (.int .i64 s.kind)∧w'.cell? ⟨w.heap.size,3,none⟩=some (.bool s.lease)∧w'.cell? ⟨w.heap.size,4,none⟩=some (.slice x s.layer.length cc)) (first | exact KC.out _ BB4.out | exact KC.out _ BB5.out | exact KC.out _ B6.out | go_keep)
          ((
           first
           | (refine bB (by rfl) (.tmp 73) (.tmp 75) 24 (by rfl) W2.heap.size 42 i1 (.agg #[.string ⟨#[]⟩,.string ⟨#[]⟩,.int .i64 0,.bool false,.slice none 0 0]) 5 72 Tryz.underlying24 ki kz0 kz1 kz2 rfl (by decide) (.slice av3 k cv3) k ([]++aW (rs.take k)) (by rfl) OWN1.out ⟨w3.heap.size,0,none⟩ 1 1 (bU ⟨s,x,cc⟩) (by rfl) (by rfl) NEWS1.out (dW [⟨s,x,cc⟩]) (k+1) rfl hm1 hm1' (by simp;omega) ?_;intro av4 cv4 w4 hown4 hk4;have O4:=aA hown4;have BB4:=aA (BW3.out.trans ((((aD.refl (fun q=>(Value.slice av3 k cv3).ownBlock=some q) w3).alloc _).drew.trans hk4).below hs3 (fun q hq hS=>by have:=(O3.out.lt q hS).1;omega)));clear hown4 hk4)
           | (refine bB (by rfl) (.tmp 76) (.tmp 79) 24 (by rfl) W2.heap.size 42 i1 (.agg #[.string ⟨#[]⟩,.string ⟨#[]⟩,.int .i64 0,.bool false,.slice none 0 0]) 5 72 Tryz.underlying24 ki kz0 kz1 kz2 rfl (by decide) (.slice av4 (k+1) cv4) (k+1) (([]++aW (rs.take k))++bU ⟨s,x,cc⟩) (by rfl) O4.out ⟨b,off+k * 5,none⟩ (l.length - k) (c - k) (aW (rs.drop k)) (by rfl) hnl (NEWS2.out w4 BB4.out) (dW _) (l.length+1) hk1' hm2 hm2' BB4.out.size ?_;intro av5 cv5 w5 hown5 hk5;have O5:=aA hown5;have BB5:=aA (BB4.out.trans (hk5.below BB4.out.size (fun q hq hS=>by have:=(O4.out.lt q hS).1;omega)));have RD5:=aA (lJ G1.out hk rfl G3.out HXR.out (aB HWk.out BB5.out) hown5);clear hown5 hk5)
           | (go_at_call 79;refine (dV av5 cv5 (l.length+1) _ w5 RD5.out HLn.out (by rw[←HLn.out];omega) HSm.out).mono ?_;rintro r w6 ⟨av6,cv6,rfl,hG6,hb6⟩;have GG6:=aA (hG6.mono BB5.out.size);have B6:=aA (aB BB5.out hb6);obtain ⟨⟨t0,t1,t2⟩,t3,t4,t5⟩:=X3.out.below (aB HWk.out B6.out);clear hG6 hb6)))
         rw[←HLn.out]at GG6;go_wp2_with fail
         have hpl:(dK l s).length=l.length+1:=by rw[HPU.out];exact HLn.out.symm
         exact bodyPost_ret (v:=.agg #[.int .i64 0,.int .i64 0,.slice av6 (l.length+1) cv6]) (by first | (simp[results,Tryz.results186,go_sem,t0,t1,t2];done) | (simp[results,Tryz.results186,go_sem,t0,t1,t2];omega)) rfl (.inr ⟨HQ0.out,bI.of (B:=W2.heap.size) (by omega) (by omega) hpl.symm (by rw[HPU.out];exact GG6.out) (aB B0.out (aB HWk.out B6.out))⟩)
   ·have hpe:(str s.parent).toList.isEmpty=false:=by
     rw[aN];cases hq:s.parent with | nil=>exact absurd hq hpa | cons _ _=>rfl
    have HPA:=aA hpa;clear hpa;go_wp2_with fail
    refine (gW _ c l.length l s.parent w2 (HRd.out.below B0.out) rfl (by omega)).mono ?_
    rintro r w7 ⟨rfl,hw7⟩;subst hw7;cases hp2:plS l s.parent with
    | none =>
     have HN2:=aA (jK hp2);clear hp2;simp only[cR];go_wp2_with fail
     have HQ:Hid (cW l s=4):=aA (by unfold cW;rw[HNK.out,HN.out,HN2.out];simp only[if_true,Option.isSome_none,Bool.false_eq_true,if_false];rw[if_neg HPA.out])
     refine (cC _ c l.length l 4 _ (HRd.out.below B0.out) rfl (by omega) HSM.out).mono ?_
     rintro r w9 ⟨av,cv,rfl,hG,hb9⟩;have G9:=aA hG;have B9:=aA (aB B0.out hb9);obtain ⟨⟨t0,t1,t2⟩,t3,t4,t5⟩:=X3.out.below hb9;clear hG hb9;go_wp2_with fail
     exact bodyPost_ret (v:=.agg #[.int .i64 0,.int .i64 4,.slice av l.length cv]) (by simp[results,Tryz.results186,go_sem,t0,t1,t2]) rfl (.inl ⟨by rw[HQ.out];decide,by rw[HQ.out];exact bI.of (B:=w7.heap.size) (by omega) (by omega) rfl G9.out B9.out⟩)
    | some j =>
     obtain ⟨t,hq,hat⟩:=nR hp2;have hjl:=(List.getElem?_eq_some_iff.1 hq).1;obtain ⟨b2,off2,e,x2,cc2,hbb,hb2,he,d0,d1,d2,d3,d4,hr2⟩:=(HRd.out.below B0.out).at hjl;simp only[Option.some.injEq,Addr.mk.injEq,and_true]at hbb;obtain ⟨rfl,rfl⟩:=hbb;have heq:e=t:=by rw[hq]at he;exact (Option.some.inj he).symm
     subst heq;have HAT:=aA hat;have hj0:¬ (j:Int)<0:=by omega
     have hj1:(j:Int)<(l.length:Int):=by omega
     clear hp2 hq hat he hr2 d0 d1 d3 d4;simp only[cR];by_cases hk1:e.kind=1
     ·have hkb:(e.kind==1)=true:=by simp[hk1]
      have HK:=aA hk1;clear hk1;go_wp2_with fail
      have HQ:Hid (cW l s=10):=aA (by unfold cW;rw[HNK.out,HN.out,HAT.out];simp only[if_true,Option.isSome_none,Bool.false_eq_true,if_false];rw[if_neg HPA.out,if_pos HK.out])
      refine (cC _ c l.length l 10 _ (HRd.out.below B0.out) rfl (by omega) HSM.out).mono ?_
      rintro r w9 ⟨av,cv,rfl,hG,hb9⟩;have G9:=aA hG;have B9:=aA (aB B0.out hb9);obtain ⟨⟨t0,t1,t2⟩,t3,t4,t5⟩:=X3.out.below hb9;clear hG hb9;go_wp2_with fail
      exact bodyPost_ret (v:=.agg #[.int .i64 0,.int .i64 10,.slice av l.length cv]) (by simp[results,Tryz.results186,go_sem,t0,t1,t2]) rfl (.inl ⟨by rw[HQ.out];decide,by rw[HQ.out];exact bI.of (B:=w7.heap.size) (by omega) (by omega) rfl G9.out B9.out⟩)
     ·have hkb:(e.kind==1)=false:=by simp[hk1]
      have HGM:Hid (cW l s=if 10≤l.length∨4≤eQ l s.parent then 2 else 0):=aA (by unfold cW;rw[HNK.out,HN.out,HAT.out];simp only[if_true,Option.isSome_none,Bool.false_eq_true,if_false];rw[if_neg HPA.out,if_neg hk1])
      clear hk1;by_cases h10:10≤l.length
      ·have h10i:(10:Int)≤(l.length:Int):=by omega
       have HX10:=aA h10;clear h10;go_wp2_with fail
       have HQ:Hid (cW l s=2):=aA (by rw[HGM.out,if_pos (.inl HX10.out)])
       refine (cC _ c l.length l 2 _ (HRd.out.below B0.out) rfl (by omega) HSM.out).mono ?_
       rintro r w9 ⟨av,cv,rfl,hG,hb9⟩;have G9:=aA hG;have B9:=aA (aB B0.out hb9);obtain ⟨⟨t0,t1,t2⟩,t3,t4,t5⟩:=X3.out.below hb9;clear hG hb9;go_wp2_with fail
       exact bodyPost_ret (v:=.agg #[.int .i64 0,.int .i64 2,.slice av l.length cv]) (by simp[results,Tryz.results186,go_sem,t0,t1,t2]) rfl (.inl ⟨by rw[HQ.out];decide,by rw[HQ.out];exact bI.of (B:=w7.heap.size) (by omega) (by omega) rfl G9.out B9.out⟩)
      ·have h10i:¬ (10:Int)≤(l.length:Int):=by omega
       have HX10:=aA h10;clear h10;go_wp2_with fail
       refine (oK _ c l.length l s.parent w7 (HRd.out.below B0.out) rfl (by omega) HNE.out).mono ?_
       rintro r w3 ⟨rfl,hw3⟩;subst hw3;by_cases hd:4≤eQ l s.parent
       ·have hdi:(4:Int)≤(eQ l s.parent:Int):=by omega
        have HD:=aA hd;clear hd;go_wp2_with fail
        have HQ:Hid (cW l s=2):=aA (by rw[HGM.out,if_pos (.inr HD.out)])
        refine (cC _ c l.length l 2 _ (HRd.out.below B0.out) rfl (by omega) HSM.out).mono ?_
        rintro r w9 ⟨av,cv,rfl,hG,hb9⟩;have G9:=aA hG;have B9:=aA (aB B0.out hb9);obtain ⟨⟨t0,t1,t2⟩,t3,t4,t5⟩:=X3.out.below hb9;clear hG hb9;go_wp2_with fail
        exact bodyPost_ret (v:=.agg #[.int .i64 0,.int .i64 2,.slice av l.length cv]) (by simp[results,Tryz.results186,go_sem,t0,t1,t2]) rfl (.inl ⟨by rw[HQ.out];decide,by rw[HQ.out];exact bI.of (B:=w3.heap.size) (by omega) (by omega) rfl G9.out B9.out⟩)
       ·have hdi:¬ (4:Int)≤(eQ l s.parent:Int):=by omega
        have HQ0:Hid (cW l s=0):=aA (by rw[HGM.out,if_neg (fun e=>e.elim HX10.out hd)])
        clear hd HGM;go_wp2_with fail
        clear hdi;obtain ⟨W1,hW1⟩:∃ W1,W1=w3:=⟨_,rfl⟩;subst hW1;go_loopw [6] (fun i wr=>∃ k:Nat,k≤l.length∧i=.int .i64 k∧Hid ((l.take k).all (fun x=>Op.bytesLess x.name s.name)=true)∧Hid (Below W1.heap.size W1 wr)) (fun i _=>l.length - (intOf i).toNat)
        case atStart=>exact ⟨0,Nat.zero_le _,rfl,aA (by simp),aA (Below.refl _ _)⟩
        case round =>
         obtain ⟨k,hk,rfl,HL,HW⟩:=hrel;have F3:=(X5.out.below HW.out).1.1;by_cases hlt:k<l.length
         ·obtain ⟨b',off',y,xx,c2,hbb,hb,he,c0,-,-,-,-,-⟩:=(HRd.out.below B0.out).at hlt
          simp only[Option.some.injEq,Addr.mk.injEq,and_true]at hbb;obtain ⟨rfl,rfl⟩:=hbb;have c0:=(HW.out.cell (p:=⟨b,off+k * 5,none⟩) hb).trans c0;have HX:=aA he;clear he;cases hlo:Op.bytesLess (str y.name).toList (str s.name).toList
          ·have HPU:=aA (xH HRI.out HN.out hk HL.out (fun y' hy'=>by rw[HX.out]at hy';cases hy';rw[aN,aN]at hlo;exact hlo))
           go_wp2_with fail
           go_quiet (fail)
           clear c0 F3;have HWk:=aA (below_drewN HW.out nq);clear HW;generalize wr.drewN nq=W2 at HWk ⊢;have hsW:=HWk.out.size;have OWN0:Hid ((W2.alloc (.cells #[] 42)).ownsRow W2.heap.size 42 5 (.slice (some ⟨W2.heap.size,0,none⟩) 0 0) 0 []):=World.ownsRow_made W2 #[] 0 (Nat.le_refl _) (Nat.zero_le _) rfl;have NEWS0:Hid (∀ j u,(aW (rs.take k))[j]?=some u→(W2.alloc (.cells #[] 42)).cell? ((⟨b,off,none⟩:Addr).add j)=some u):=aA (fun j u hj=>by
            rw[eU];refine NS.out _ (aB HWk.out (aC W2 _)) j u ?_;rw[←mX,List.getElem?_take]at hj;split at hj
            ·exact hj
            ·cases hj)
           have hln0:(aW (rs.take k)).length=k * 5:=by rw[dB,List.length_take];congr 1;omega
           have hm0:0+k≤maxLen:=by unfold maxLen;omega
           have hm0':(0+k) * 72≤140737488355328:=by omega
           have hkc:(k:Int)≤(c:Int):=by omega
           go_wp2_with (at_builtin;refine eK rfl (.tmp 68) (.tmp 71) 24 rfl W2.heap.size 42 i1 (.agg #[.string ⟨#[]⟩,.string ⟨#[]⟩,.int .i64 0,.bool false,.slice none 0 0]) 5 72 Tryz.underlying24 ki kz0 kz1 kz2 rfl (by decide) (.slice (some ⟨W2.heap.size,0,none⟩) 0 0) 0 [] rfl OWN0.out ⟨b,off,none⟩ k c (aW (rs.take k)) rfl hln0 NEWS0.out (dW _) k (by simp) hm0 hm0' (by simp) ?_;intro av3 cv3 w3 hown3 hk3;have O3:=aA hown3;have K3:=aA hk3;clear hown3 hk3)
           have BW3:=aA ((aC W2 (.cells #[] 42)).trans (K3.out.below (by simp) (fun q hq hS=>by simp[Value.ownBlock]at hS;omega)))
           have B3:=aA (aB HWk.out BW3.out);have hs3:=BW3.out.size;have KC:Hid (∀ w5:World,Below W2.heap.size W2 w5→w5.cell? ⟨w.heap.size,0,none⟩=some (.string (str s.name))∧w5.cell? ⟨w.heap.size,1,none⟩=some (.string (str s.parent))∧w5.cell? ⟨w.heap.size,2,none⟩=some (.int .i64 s.kind)∧w5.cell? ⟨w.heap.size,3,none⟩=some (.bool s.lease)∧w5.cell? ⟨w.heap.size,4,none⟩=some (.slice x s.layer.length cc)):=fun w5 hb5=>(X5.out.below (aB HWk.out hb5)).1
           obtain ⟨p0,p1,p2,p3,p4⟩:=(X5.out.below B3.out).1;have OWN1:Hid ((w3.alloc (.cells #[.string (str s.name),.string (str s.parent),.int .i64 s.kind,.bool s.lease,.slice x s.layer.length cc] 42)).drew.ownsRow W2.heap.size 42 5 (.slice av3 k cv3) k ([]++aW (rs.take k))):=aG O3.out (aC _ _).drew;have NEWS1:Hid (∀ j u,(bU ⟨s,x,cc⟩)[j]?=some u→(w3.alloc (.cells #[.string (str s.name),.string (str s.parent),.int .i64 s.kind,.bool s.lease,.slice x s.layer.length cc] 42)).drew.cell? ((⟨w3.heap.size,0,none⟩:Addr).add j)=some u):=pD (t:=42) rfl;have hnl:(aW (rs.drop k)).length=(l.length - k) * 5:=by rw[dB,List.length_drop,hrsl]
           have hm1:k+1≤maxLen:=by unfold maxLen;omega
           have hm1':(k+1) * 72≤140737488355328:=by omega
           have hk1':k+1+(l.length - k)=l.length+1:=by omega
           have hm2:k+1+(l.length - k)≤maxLen:=by unfold maxLen;omega
           have hm2':(k+1+(l.length - k)) * 72≤140737488355328:=by omega
           have HLn:=aA (show l.length+1=(l.take k++s :: l.drop k).length from by simp;omega)
           have HSm:=aA (rR HSM.out hl hs1 hs2 hs3' HS4.out k hk);have hkc2:(k:Int)≤(l.length:Int):=by omega
           have hbc:(l.length:Int)≤(c:Int):=by omega
           by_cases hck:c=k
           ·exact absurd hck (by omega)
           ·have hck2:¬ k=c:=fun e=>hck e.symm
            have NEWS2:Hid (∀ w5:World,Below W2.heap.size W2 w5→∀ j u,(aW (rs.drop k))[j]?=some u→w5.cell? ((⟨b,off+k * 5,none⟩:Addr).add j)=some u):=fun w5 hb5 j u hj=>by
             rw[eU,Nat.add_assoc];exact NS.out _ (aB HWk.out hb5) _ u (by rw[←jG,List.getElem?_drop]at hj;exact hj)
            go_region_held3 (fun w'=>w'.cell? ⟨w.heap.size,0,none⟩=some (.string (str s.name))∧w'.cell? ⟨w.heap.size,1,none⟩=some (.string (str s.parent))∧w'.cell? ⟨w.heap.size,2,none⟩=some (.int .i64 s.kind)∧w'.cell? ⟨w.heap.size,3,none⟩=some (.bool s.lease)∧w'.cell? ⟨w.heap.size,4,none⟩=some (.slice x s.layer.length cc)) (first | exact KC.out _ BB4.out | exact KC.out _ BB5.out | exact KC.out _ B6.out | go_keep)
             ((
              first
              | (refine bB (by rfl) (.tmp 73) (.tmp 75) 24 (by rfl) W2.heap.size 42 i1 (.agg #[.string ⟨#[]⟩,.string ⟨#[]⟩,.int .i64 0,.bool false,.slice none 0 0]) 5 72 Tryz.underlying24 ki kz0 kz1 kz2 rfl (by decide) (.slice av3 k cv3) k ([]++aW (rs.take k)) (by rfl) OWN1.out ⟨w3.heap.size,0,none⟩ 1 1 (bU ⟨s,x,cc⟩) (by rfl) (by rfl) NEWS1.out (dW [⟨s,x,cc⟩]) (k+1) rfl hm1 hm1' (by simp;omega) ?_;intro av4 cv4 w4 hown4 hk4;have O4:=aA hown4;have BB4:=aA (BW3.out.trans ((((aD.refl (fun q=>(Value.slice av3 k cv3).ownBlock=some q) w3).alloc _).drew.trans hk4).below hs3 (fun q hq hS=>by have:=(O3.out.lt q hS).1;omega)));clear hown4 hk4)
              | (refine bB (by rfl) (.tmp 76) (.tmp 79) 24 (by rfl) W2.heap.size 42 i1 (.agg #[.string ⟨#[]⟩,.string ⟨#[]⟩,.int .i64 0,.bool false,.slice none 0 0]) 5 72 Tryz.underlying24 ki kz0 kz1 kz2 rfl (by decide) (.slice av4 (k+1) cv4) (k+1) (([]++aW (rs.take k))++bU ⟨s,x,cc⟩) (by rfl) O4.out ⟨b,off+k * 5,none⟩ (l.length - k) (c - k) (aW (rs.drop k)) (by rfl) hnl (NEWS2.out w4 BB4.out) (dW _) (l.length+1) hk1' hm2 hm2' BB4.out.size ?_;intro av5 cv5 w5 hown5 hk5;have O5:=aA hown5;have BB5:=aA (BB4.out.trans (hk5.below BB4.out.size (fun q hq hS=>by have:=(O4.out.lt q hS).1;omega)));have RD5:=aA (lJ G1.out hk rfl G3.out HXR.out (aB HWk.out BB5.out) hown5);clear hown5 hk5)
              | (go_at_call 79;refine (dV av5 cv5 (l.length+1) _ w5 RD5.out HLn.out (by rw[←HLn.out];omega) HSm.out).mono ?_;rintro r w6 ⟨av6,cv6,rfl,hG6,hb6⟩;have GG6:=aA (hG6.mono BB5.out.size);have B6:=aA (aB BB5.out hb6);obtain ⟨⟨t0,t1,t2⟩,t3,t4,t5⟩:=X3.out.below (aB HWk.out B6.out);clear hG6 hb6)))
            rw[←HLn.out]at GG6;go_wp2_with fail
            have hpl:(dK l s).length=l.length+1:=by rw[HPU.out];exact HLn.out.symm
            exact bodyPost_ret (v:=.agg #[.int .i64 0,.int .i64 0,.slice av6 (l.length+1) cv6]) (by first | (simp[results,Tryz.results186,go_sem,t0,t1,t2];done) | (simp[results,Tryz.results186,go_sem,t0,t1,t2];omega)) rfl (.inr ⟨HQ0.out,bI.of (B:=W2.heap.size) (by omega) (by omega) hpl.symm (by rw[HPU.out];exact GG6.out) (aB B0.out (aB HWk.out B6.out))⟩)
          ·have HLk:=aA (show (l.take (k+1)).all (fun x=>Op.bytesLess x.name s.name)=true from by
            rw[aN,aN]at hlo;rw[cT HX.out];simp only[List.all_append,HL.out,List.all_cons,hlo,List.all_nil,Bool.and_self])
           go_wp2_with fail
           go_quiet (fail)
           go_wp2_with fail
           go_roundw
           case rel=>exact ⟨k+1,by omega,by go_num,HLk,aA (below_drewN HW.out nq)⟩
           case measure=>simp[intOf];omega
         ·have HPU:=aA (xH HRI.out HN.out hk HL.out (fun y' hy'=>by have:=(List.getElem?_eq_some_iff.1 hy').1;omega))
          go_wp2_with fail
          go_quiet (fail)
          clear F3;have HWk:=aA (below_drewN HW.out nq);clear HW;generalize wr.drewN nq=W2 at HWk ⊢;have hsW:=HWk.out.size;have OWN0:Hid ((W2.alloc (.cells #[] 42)).ownsRow W2.heap.size 42 5 (.slice (some ⟨W2.heap.size,0,none⟩) 0 0) 0 []):=World.ownsRow_made W2 #[] 0 (Nat.le_refl _) (Nat.zero_le _) rfl;have NEWS0:Hid (∀ j u,(aW (rs.take k))[j]?=some u→(W2.alloc (.cells #[] 42)).cell? ((⟨b,off,none⟩:Addr).add j)=some u):=aA (fun j u hj=>by
           rw[eU];refine NS.out _ (aB HWk.out (aC W2 _)) j u ?_;rw[←mX,List.getElem?_take]at hj;split at hj
           ·exact hj
           ·cases hj)
          have hln0:(aW (rs.take k)).length=k * 5:=by rw[dB,List.length_take];congr 1;omega
          have hm0:0+k≤maxLen:=by unfold maxLen;omega
          have hm0':(0+k) * 72≤140737488355328:=by omega
          have hkc:(k:Int)≤(c:Int):=by omega
          go_wp2_with (at_builtin;refine eK rfl (.tmp 68) (.tmp 71) 24 rfl W2.heap.size 42 i1 (.agg #[.string ⟨#[]⟩,.string ⟨#[]⟩,.int .i64 0,.bool false,.slice none 0 0]) 5 72 Tryz.underlying24 ki kz0 kz1 kz2 rfl (by decide) (.slice (some ⟨W2.heap.size,0,none⟩) 0 0) 0 [] rfl OWN0.out ⟨b,off,none⟩ k c (aW (rs.take k)) rfl hln0 NEWS0.out (dW _) k (by simp) hm0 hm0' (by simp) ?_;intro av3 cv3 w3 hown3 hk3;have O3:=aA hown3;have K3:=aA hk3;clear hown3 hk3)
          have BW3:=aA ((aC W2 (.cells #[] 42)).trans (K3.out.below (by simp) (fun q hq hS=>by simp[Value.ownBlock]at hS;omega)))
          have B3:=aA (aB HWk.out BW3.out);have hs3:=BW3.out.size;have KC:Hid (∀ w5:World,Below W2.heap.size W2 w5→w5.cell? ⟨w.heap.size,0,none⟩=some (.string (str s.name))∧w5.cell? ⟨w.heap.size,1,none⟩=some (.string (str s.parent))∧w5.cell? ⟨w.heap.size,2,none⟩=some (.int .i64 s.kind)∧w5.cell? ⟨w.heap.size,3,none⟩=some (.bool s.lease)∧w5.cell? ⟨w.heap.size,4,none⟩=some (.slice x s.layer.length cc)):=fun w5 hb5=>(X5.out.below (aB HWk.out hb5)).1
          obtain ⟨p0,p1,p2,p3,p4⟩:=(X5.out.below B3.out).1;have OWN1:Hid ((w3.alloc (.cells #[.string (str s.name),.string (str s.parent),.int .i64 s.kind,.bool s.lease,.slice x s.layer.length cc] 42)).drew.ownsRow W2.heap.size 42 5 (.slice av3 k cv3) k ([]++aW (rs.take k))):=aG O3.out (aC _ _).drew;have NEWS1:Hid (∀ j u,(bU ⟨s,x,cc⟩)[j]?=some u→(w3.alloc (.cells #[.string (str s.name),.string (str s.parent),.int .i64 s.kind,.bool s.lease,.slice x s.layer.length cc] 42)).drew.cell? ((⟨w3.heap.size,0,none⟩:Addr).add j)=some u):=pD (t:=42) rfl;have hnl:(aW (rs.drop k)).length=(l.length - k) * 5:=by rw[dB,List.length_drop,hrsl]
          have hm1:k+1≤maxLen:=by unfold maxLen;omega
          have hm1':(k+1) * 72≤140737488355328:=by omega
          have hk1':k+1+(l.length - k)=l.length+1:=by omega
          have hm2:k+1+(l.length - k)≤maxLen:=by unfold maxLen;omega
          have hm2':(k+1+(l.length - k)) * 72≤140737488355328:=by omega
          have HLn:=aA (show l.length+1=(l.take k++s :: l.drop k).length from by simp;omega)
          have HSm:=aA (rR HSM.out hl hs1 hs2 hs3' HS4.out k hk);have hkc2:(k:Int)≤(l.length:Int):=by omega
          have hbc:(l.length:Int)≤(c:Int):=by omega
          by_cases hck:c=k
          ·obtain rfl:k=c:=hck.symm
           have hck3:k=l.length:=by omega
           have hnl0:(aW (rs.drop k)).length=0 * 5:=by rw[dB,List.length_drop,hrsl];omega
           have hk0:k+1+0=l.length+1:=by omega
           have hm3:k+1+0≤maxLen:=by omega
           have hm3':(k+1+0) * 72≤140737488355328:=by omega
           have HCK:=aA hck3;clear hck3;have NEWS2:Hid (∀ w5:World,Below W2.heap.size W2 w5→∀ j u,(aW (rs.drop k))[j]?=some u→w5.cell? ((⟨b,off,none⟩:Addr).add j)=some u):=fun w5 hb5 j u hj=>by rw[←jG,List.drop_eq_nil_of_le (by rw[dB];omega)]at hj;simp at hj
           go_region_held3 (fun w'=>w'.cell? ⟨w.heap.size,0,none⟩=some (.string (str s.name))∧w'.cell? ⟨w.heap.size,1,none⟩=some (.string (str s.parent))∧w'.cell? ⟨w.heap.size,2,none⟩=some (.int .i64 s.kind)∧w'.cell? ⟨w.heap.size,3,none⟩=some (.bool s.lease)∧w'.cell? ⟨w.heap.size,4,none⟩=some (.slice x s.layer.length cc)) (first | exact KC.out _ BB4.out | exact KC.out _ BB5.out | exact KC.out _ B6.out | go_keep)
            ((
             first
             | (refine bB (by rfl) (.tmp 73) (.tmp 75) 24 (by rfl) W2.heap.size 42 i1 (.agg #[.string ⟨#[]⟩,.string ⟨#[]⟩,.int .i64 0,.bool false,.slice none 0 0]) 5 72 Tryz.underlying24 ki kz0 kz1 kz2 rfl (by decide) (.slice av3 k cv3) k ([]++aW (rs.take k)) (by rfl) OWN1.out ⟨w3.heap.size,0,none⟩ 1 1 (bU ⟨s,x,cc⟩) (by rfl) (by rfl) NEWS1.out (dW [⟨s,x,cc⟩]) (k+1) rfl hm1 hm1' (by simp;omega) ?_;intro av4 cv4 w4 hown4 hk4;have O4:=aA hown4;have BB4:=aA (BW3.out.trans ((((aD.refl (fun q=>(Value.slice av3 k cv3).ownBlock=some q) w3).alloc _).drew.trans hk4).below hs3 (fun q hq hS=>by have:=(O3.out.lt q hS).1;omega)));clear hown4 hk4)
             | (refine bB (by rfl) (.tmp 76) (.tmp 79) 24 (by rfl) W2.heap.size 42 i1 (.agg #[.string ⟨#[]⟩,.string ⟨#[]⟩,.int .i64 0,.bool false,.slice none 0 0]) 5 72 Tryz.underlying24 ki kz0 kz1 kz2 rfl (by decide) (.slice av4 (k+1) cv4) (k+1) (([]++aW (rs.take k))++bU ⟨s,x,cc⟩) (by rfl) O4.out ⟨b,off,none⟩ 0 0 (aW (rs.drop k)) (by rfl) hnl0 (NEWS2.out w4 BB4.out) (dW _) (l.length+1) hk0 hm3 hm3' BB4.out.size ?_;intro av5 cv5 w5 hown5 hk5;have O5:=aA hown5;have BB5:=aA (BB4.out.trans (hk5.below BB4.out.size (fun q hq hS=>by have:=(O4.out.lt q hS).1;omega)));have RD5:=aA (lJ G1.out hk rfl G3.out HXR.out (aB HWk.out BB5.out) hown5);clear hown5 hk5)
             | (go_at_call 79;refine (dV av5 cv5 (l.length+1) _ w5 RD5.out HLn.out (by rw[←HLn.out];omega) HSm.out).mono ?_;rintro r w6 ⟨av6,cv6,rfl,hG6,hb6⟩;have GG6:=aA (hG6.mono BB5.out.size);have B6:=aA (aB BB5.out hb6);obtain ⟨⟨t0,t1,t2⟩,t3,t4,t5⟩:=X3.out.below (aB HWk.out B6.out);clear hG6 hb6)))
           rw[←HLn.out]at GG6;go_wp2_with fail
           have hpl:(dK l s).length=l.length+1:=by rw[HPU.out];exact HLn.out.symm
           exact bodyPost_ret (v:=.agg #[.int .i64 0,.int .i64 0,.slice av6 (l.length+1) cv6]) (by first | (simp[results,Tryz.results186,go_sem,t0,t1,t2];done) | (simp[results,Tryz.results186,go_sem,t0,t1,t2];omega)) rfl (.inr ⟨HQ0.out,bI.of (B:=W2.heap.size) (by omega) (by omega) hpl.symm (by rw[HPU.out];exact GG6.out) (aB B0.out (aB HWk.out B6.out))⟩)
          ·have hck2:¬ k=c:=fun e=>hck e.symm
           have NEWS2:Hid (∀ w5:World,Below W2.heap.size W2 w5→∀ j u,(aW (rs.drop k))[j]?=some u→w5.cell? ((⟨b,off+k * 5,none⟩:Addr).add j)=some u):=fun w5 hb5 j u hj=>by
            rw[eU,Nat.add_assoc];exact NS.out _ (aB HWk.out hb5) _ u (by rw[←jG,List.getElem?_drop]at hj;exact hj)
           go_region_held3 (fun w'=>w'.cell? ⟨w.heap.size,0,none⟩=some (.string (str s.name))∧w'.cell? ⟨w.heap.size,1,none⟩=some (.string (str s.parent))∧w'.cell? ⟨w.heap.size,2,none⟩=some (.int .i64 s.kind)∧w'.cell? ⟨w.heap.size,3,none⟩=some (.bool s.lease)∧w'.cell? ⟨w.heap.size,4,none⟩=some (.slice x s.layer.length cc)) (first | exact KC.out _ BB4.out | exact KC.out _ BB5.out | exact KC.out _ B6.out | go_keep)
            ((
             first
             | (refine bB (by rfl) (.tmp 73) (.tmp 75) 24 (by rfl) W2.heap.size 42 i1 (.agg #[.string ⟨#[]⟩,.string ⟨#[]⟩,.int .i64 0,.bool false,.slice none 0 0]) 5 72 Tryz.underlying24 ki kz0 kz1 kz2 rfl (by decide) (.slice av3 k cv3) k ([]++aW (rs.take k)) (by rfl) OWN1.out ⟨w3.heap.size,0,none⟩ 1 1 (bU ⟨s,x,cc⟩) (by rfl) (by rfl) NEWS1.out (dW [⟨s,x,cc⟩]) (k+1) rfl hm1 hm1' (by simp;omega) ?_;intro av4 cv4 w4 hown4 hk4;have O4:=aA hown4;have BB4:=aA (BW3.out.trans ((((aD.refl (fun q=>(Value.slice av3 k cv3).ownBlock=some q) w3).alloc _).drew.trans hk4).below hs3 (fun q hq hS=>by have:=(O3.out.lt q hS).1;omega)));clear hown4 hk4)
             | (refine bB (by rfl) (.tmp 76) (.tmp 79) 24 (by rfl) W2.heap.size 42 i1 (.agg #[.string ⟨#[]⟩,.string ⟨#[]⟩,.int .i64 0,.bool false,.slice none 0 0]) 5 72 Tryz.underlying24 ki kz0 kz1 kz2 rfl (by decide) (.slice av4 (k+1) cv4) (k+1) (([]++aW (rs.take k))++bU ⟨s,x,cc⟩) (by rfl) O4.out ⟨b,off+k * 5,none⟩ (l.length - k) (c - k) (aW (rs.drop k)) (by rfl) hnl (NEWS2.out w4 BB4.out) (dW _) (l.length+1) hk1' hm2 hm2' BB4.out.size ?_;intro av5 cv5 w5 hown5 hk5;have O5:=aA hown5;have BB5:=aA (BB4.out.trans (hk5.below BB4.out.size (fun q hq hS=>by have:=(O4.out.lt q hS).1;omega)));have RD5:=aA (lJ G1.out hk rfl G3.out HXR.out (aB HWk.out BB5.out) hown5);clear hown5 hk5)
             | (go_at_call 79;refine (dV av5 cv5 (l.length+1) _ w5 RD5.out HLn.out (by rw[←HLn.out];omega) HSm.out).mono ?_;rintro r w6 ⟨av6,cv6,rfl,hG6,hb6⟩;have GG6:=aA (hG6.mono BB5.out.size);have B6:=aA (aB BB5.out hb6);obtain ⟨⟨t0,t1,t2⟩,t3,t4,t5⟩:=X3.out.below (aB HWk.out B6.out);clear hG6 hb6)))
           rw[←HLn.out]at GG6;go_wp2_with fail
           have hpl:(dK l s).length=l.length+1:=by rw[HPU.out];exact HLn.out.symm
           exact bodyPost_ret (v:=.agg #[.int .i64 0,.int .i64 0,.slice av6 (l.length+1) cv6]) (by first | (simp[results,Tryz.results186,go_sem,t0,t1,t2];done) | (simp[results,Tryz.results186,go_sem,t0,t1,t2];omega)) rfl (.inr ⟨HQ0.out,bI.of (B:=W2.heap.size) (by omega) (by omega) hpl.symm (by rw[HPU.out];exact GG6.out) (aB B0.out (aB HWk.out B6.out))⟩)
end Go.Proofs.YtgaeikgoknoamaaGreat
