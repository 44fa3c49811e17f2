/-
  Texts put together: EntP IteC IteD EntS EntX.
-/
import Derived.Test.YtolnlfnndnpiiaaGreatKSnaps5
import Derived.Test.YtolnlfnndnpiiaaGreatKSnaps4
import Derived.Test.YtolnlfnndnpiiaaGreatKSnaps2
import Derived.Test.YtolnlfnndnpiiaaGreatKSnaps3
import Derived.Deep.SlicePairs
import Derived.ProofKit
import Derived.ChangeOld
set_option linter.unusedVariables false
set_option maxHeartbeats 3200000
set_option maxRecDepth 100000
namespace Go.Proofs.YtolnlfnndnpiiaaGreat
open Go.RowKit Go.Maps
attribute [local go_sem ↓] Go.wp_at_zero Go.wp_at_succ
def iS (e x:En):Bool:=!(decide (x.path=e.path))&&(bZ e.kind||!(bD x.path e.path))
def iH (es:List En) (e:En):List En:=es.filter (iS e)
theorem zo6 {es:List En} {e x:En} {k:Nat} (he:es[k]?=some x) (h:iS e x=true):iH (es.take (k+1)) e=iH (es.take k) e ++ [x]:=by
 rw[bY he];simp[iH,h]
theorem zv3 {es:List En} {e x:En} {k:Nat} (he:es[k]?=some x) (h:iS e x=false):iH (es.take (k+1)) e=iH (es.take k) e:=by
 rw[bY he];simp[iH,h]
theorem wA (es:List En) (e:En):(iH es e).length≤es.length:=List.length_filter_le _ _
theorem zaa {es:List En} (h:aV es) (e:En):aV (iH es e):=fun x hx=>h x (List.mem_filter.1 hx).1
def kM (es:List En) (p:Bs):Nat:=(es.takeWhile fun x=>Op.bytesLess x.path p).length
def dV (rs:List En) (e:En):List En:=rs.take (kM rs e.path)++e :: rs.drop (kM rs e.path)
def dC (es:List En) (e:En):List En:=dV (iH es e) e
theorem zfc {bs:List En} {p:Bs} {k:Nat} (hk:k≤bs.length) (h1:(bs.take k).all (fun x=>Op.bytesLess x.path p)=true) (h2:∀ y,bs[k]?=some y→Op.bytesLess y.path p=false):kM bs p=k:=by
 have e:bs=bs.take k++bs.drop k:=(List.take_append_drop k bs).symm;have hd:(bs.drop k).takeWhile (fun x=>Op.bytesLess x.path p)=[]:=by
  cases hx:bs.drop k with
  | nil=>rfl
  | cons y r =>
   have:bs[k]?=some y:=by
    have h3:=congrArg (fun l=>l[0]?) hx
    simpa using h3
   simp[h2 y this]
 unfold kM
 conv=>lhs;rw[e]
 rw[List.takeWhile_append_of_pos (by intro x hx;exact List.all_eq_true.1 h1 x hx),hd,List.append_nil,List.length_take]
 omega
theorem eW {P:Program} {w:World} {ops:Array Oper} {rest:List Oper} {o:Oper} {a:Act} {Q:Exit→Act→World→Prop} (hgd:o.guard=none) (s x:Operand) (t:TypeId)
  (ho:o.op=.call { callee:=.builtin .append,args:=#[s,x],argTypes:=#[t,t] })
  (base:Nat) (e:TypeId) (i:TypeInfo) (z:Value) (size bytes:Nat) (ht:P.underlying t=some (.slice e)) (hi:P.info? e=some i) (hz:i.zero=some z)
  (hsize:i.size=size) (hby:i.bytes=bytes) (hzs:z.cells.size=size) (hsz:0<size)
  (v:Value) (n:Nat) (xs:List Value) (hs:a.eval s=v) (hown:w.ownsRow base e size v n xs)
  (ad:Addr) (m c:Nat) (news:List Value) (hx:a.eval x=.slice (some ad) m c) (hl:news.length=m * size) (hnews:∀ j u,news[j]?=some u→w.cell? (ad.add j)=some u) (h1:∀ u∈news,u.oneCell'=true)
  (N:Nat) (hN:n+m=N) (h63:n+m≤maxLen) (hbytes:(n+m) * bytes≤140737488355328) (hbase:base≤w.heap.size)
  (h:∀ av cv w',w'.ownsRow base e size (.slice av N cv) N (xs++news)→aD (fun b=>v.ownBlock=some b) w w'→wpList P ops Q rest (a.put o.dst (.slice av N cv)) w') :
  wpList P ops Q (o :: rest) a w:=by
 refine wpList_append_own w hgd s x t ho base e i z size bytes ht hi hz hsize hby hzs hsz v n xs hs hown ad m c news hx hl hnews h1 h63 hbytes hbase fun v' w' h2 h3 _=>?_
 rw[hN]at h2;obtain ⟨av,cv,rfl⟩:=bH h2;exact h av cv w' h2 ⟨h3.os,h3.tape,h3.output,h3.size,fun q hq hn=>h3.block q hq (fun e=>hn e.symm)⟩
theorem aZ {P:Program} {w:World} {ops:Array Oper} {o:Oper} {a:Act} {K:Act→World→Prop} {Q:Exit→Act→World→Prop} {E:Prop} (hgd:o.guard=none) (s x:Operand) (t:TypeId)
  (ho:o.op=.call { callee:=.builtin .append,args:=#[s,x],argTypes:=#[t,t] })
  (base:Nat) (e:TypeId) (i:TypeInfo) (z:Value) (size bytes:Nat) (ht:P.underlying t=some (.slice e)) (hi:P.info? e=some i) (hz:i.zero=some z)
  (hsize:i.size=size) (hby:i.bytes=bytes) (hzs:z.cells.size=size) (hsz:0<size)
  (v:Value) (n:Nat) (xs:List Value) (hs:a.eval s=v) (hown:w.ownsRow base e size v n xs)
  (ad:Addr) (m c:Nat) (news:List Value) (hx:a.eval x=.slice (some ad) m c) (hl:news.length=m * size) (hnews:∀ j u,news[j]?=some u→w.cell? (ad.add j)=some u) (h1:∀ u∈news,u.oneCell'=true)
  (N:Nat) (hN:n+m=N) (h63:n+m≤maxLen) (hbytes:(n+m) * bytes≤140737488355328) (hbase:base≤w.heap.size)
  (h:∀ av cv w',w'.ownsRow base e size (.slice av N cv) N (xs++news)→aD (fun b=>v.ownBlock=some b) w w'→K (a.put o.dst (.slice av N cv)) w') :
  if Region.wanted o (yielded ops a.tmps)=true then Oper.wp P o a w K Q else E:=by
 have hw:Region.wanted o (yielded ops a.tmps)=true:=by simp[Region.wanted,hgd]
 rw[if_pos hw];refine wp_append_own w s x t ho base e i z size bytes ht hi hz hsize hby hzs hsz v n xs hs hown ad m c news hx hl hnews h1 h63 hbytes hbase fun v' w' h2 h3 _=>?_
 rw[hN]at h2;obtain ⟨av,cv,rfl⟩:=bH h2;exact h av cv w' h2 ⟨h3.os,h3.tape,h3.output,h3.size,fun q hq hn=>h3.block q hq (fun e=>hn e.symm)⟩
theorem eY (b o j:Nat):(⟨b,o,none⟩:Addr).add j=⟨b,o+j,none⟩:=by unfold Addr.add;split <;> simp_all
theorem vH {w w':World} {B g n c k:Nat} {rs:List Rw} (h:w.ownsRow B 50 4 (.slice (some ⟨g,0,none⟩) n c) n (aY rs)) (hb:Below w.heap.size w w') (l:List Value) (hl:∀ j u,l[j]?=some u→(aY rs)[k * 4+j]?=some u):∀ j u,l[j]?=some u→w'.cell? ((⟨g,k * 4,none⟩:Addr).add j)=some u:=by
 intro j u hj;rw[eY];have h1:=hl j u hj;have hlt:k * 4+j<(aY rs).length:=(List.getElem?_eq_some_iff.1 h1).1;rw[hb.cell (p:=⟨g,k * 4+j,none⟩) (h.lt g rfl).2];rcases h.2 with ⟨h',_⟩ | ⟨g',cap,cur,h',hb',hh,hnc,hcm,hcs,htake⟩
 ·simp at h'
 ·have hlen:=h.1
  rw[h.cellAt (k * 4+j) (by rw[hlen]at hlt;exact hlt)]
  exact h1
theorem zx0 {w0 w5:World} {B:Nat} {rs:List Rw} {bs:List En} {e:En} {x:Option Addr} {cc k n:Nat} {v:Value} (g1:rs.map Rw.e=bs) (hk:k≤bs.length) (hn:n=bs.length+1)
  (g3:∀ r∈rs,aP .i64 w0 r.a r.e.chunks) (hx:aP .i64 w0 x e.chunks) (hb:Below w0.heap.size w0 w5)
  (ho:w5.ownsRow B 50 4 v n ((([]++aY (rs.take k))++cM ⟨e,x,cc⟩)++aY (rs.drop k))):SE B w5 v (bs.take k++e :: bs.drop k):=by
 subst hn;refine ⟨rs.take k++⟨e,x,cc⟩ :: rs.drop k,?_,?_,fun r hr=>?_⟩
 ·rw[List.map_append,List.map_cons,List.map_take,List.map_drop,g1]
 ·have e1:(bs.take k++e :: bs.drop k).length=bs.length+1:=by simp;omega
  rw[e1];have e2:aY (rs.take k++⟨e,x,cc⟩ :: rs.drop k)=(([]++aY (rs.take k))++cM ⟨e,x,cc⟩)++aY (rs.drop k):=by
   rw[pL];simp[aY]
  rw[e2];exact ho
 ·rcases List.mem_append.1 hr with hr | hr
  ·exact (g3 r (List.mem_of_mem_take hr)).below hb
  ·rcases List.mem_cons.1 hr with rfl | hr
   ·exact hx.below hb
   ·exact (g3 r (List.mem_of_mem_drop hr)).below hb
theorem xG {w:World} {H:Nat} {u0 u1 u2 u3:Value} {t:TypeId} (hH:w.heap.size=H):∀ j x,[u0,u1,u2,u3][j]?=some x→(w.alloc (.cells #[u0,u1,u2,u3] t)).cell? ((⟨H,0,none⟩:Addr).add j)=some x:=by
 subst hH;intro j x hj;rw[eY,Nat.zero_add,cell_of_row _ w.heap.size j #[u0,u1,u2,u3] t (0,0) (heap_alloc_new w _)];simpa using hj
theorem LE.drewN {w0 w:World} {v:Value} {es:List En} (h:LE w0 w v es) (n:Nat):LE w0 (w.drewN n) v es:=by
 obtain ⟨rs,he,h1,h2⟩:=h;exact ⟨rs,he,aI h1 (below_drewN (Below.refl _ _) n),h2⟩
theorem pZ (a:Option Addr) (c n:Nat) (es:List En) (e:En) (x:Option Addr) (m cc:Nat) (w:World) (h:RdE w a es) (hn:n=es.length) (hl:es.length<1048576) (hs:aV es) (hm:m=e.chunks.length) (hr:aP .i64 w x e.chunks) (hp:e.path.length≤1048576) (hcl:e.chunks.length≤1048576) :
  Calls Tryz.prog 188 #[.slice a n c,.agg #[.string (str e.path),.int .i64 e.kind,.int .i64 e.size,.slice x m cc]] w fun r w'=>∃ g cv,r=.returned (.slice (some ⟨g,0,none⟩) (dC es e).length cv)∧GE w.heap.size w'.heap.size w' (.slice (some ⟨g,0,none⟩) (dC es e).length cv) (dC es e)∧Below w.heap.size w w':=by
 subst hn;subst hm;obtain ⟨i1,ki,kz0,kz1,kz2⟩:=info_parts Tryz.infoEn;have HS:=aA hs;go_enter Tryz.func188,Tryz.ntmps188;go_wp2_with fail
 have B0:=aA (aC w (.cells #[.string (str e.path),.int .i64 e.kind,.int .i64 e.size,.slice x e.chunks.length cc] 50));have F0:=aA (cI.new w (.string (str e.path)) (.int .i64 e.kind) (.int .i64 e.size) (.slice x e.chunks.length cc) 50);have HA:=aA (h.below B0.out);have HRx:=aA (hr.below B0.out);have HM:=aA (LE.made (w.alloc (.cells #[.string (str e.path),.int .i64 e.kind,.int .i64 e.size,.slice x e.chunks.length cc] 50)));have hsz0:(w.alloc (.cells #[.string (str e.path),.int .i64 e.kind,.int .i64 e.size,.slice x e.chunks.length cc] 50)).heap.size=w.heap.size+1:=by simp
 rw[hsz0]at HM;have hlt0:=F0.out.lt;generalize w.alloc (.cells #[.string (str e.path),.int .i64 e.kind,.int .i64 e.size,.slice x e.chunks.length cc] 50)=w0 at *;have HW0:=aA (show w.heap.size≤w0.heap.size by omega)
 have HZ0:=aA hsz0;clear h hs hr;have hw1:w.heap.size+1=w0.heap.size:=hsz0.symm;clear hsz0;rw[hw1]at HM ⊢;clear hw1;generalize w.heap.size=bk at F0 hlt0 ⊢;go_loopw [5,6] (fun v i wr=>∃ j:Nat,j≤es.length∧i=.int .i64 j∧Hid (LE w0 wr v (iH (es.take j) e))∧Hid (∃ g,v.ownBlock=some g)∧Hid (Below w0.heap.size w0 wr)) (fun _ i _=>es.length - (intOf i).toNat)
 case atStart=>exact ⟨0,Nat.zero_le _,rfl,HM,aA ⟨_,rfl⟩,aA (aC _ _)⟩
 case round =>
  obtain ⟨j,hj,rfl,HG,HOb,HW⟩:=hrel;obtain ⟨lv,lc,rfl⟩:=HG.out.shape;have hrl:=wA (es.take j) e;have htl:=gP hj;have hsz:=HW.out.size;have F1:=(HW.out.cell (p:=⟨bk,0+1,none⟩) hlt0).trans F0.out.2.1;have F2:=(HW.out.cell (p:=⟨bk,0,none⟩) hlt0).trans F0.out.1;by_cases hlt:j<es.length
  ·obtain ⟨b,off,y,xx,c2,rfl,hb,he,c0,c1,c2,c3,hr⟩:=HA.out.at hlt
   have HX:=aA he;have HRc:=aA hr;have hsm:=HS.out y (List.mem_of_getElem? he);have HD:=aA (And.intro c0 (And.intro c1 (And.intro c2 c3)));have c0:=(HW.out.cell (p:=⟨b,off+j * 4,none⟩) hb).trans c0;have c1:=(HW.out.cell (p:=⟨b,off+j * 4+1,none⟩) hb).trans c1;have c2:=(HW.out.cell (p:=⟨b,off+j * 4+2,none⟩) hb).trans c2;have c3:=(HW.out.cell (p:=⟨b,off+j * 4+3,none⟩) hb).trans c3;have hm1:(iH (es.take j) e).length+1≤maxLen:=by unfold maxLen;omega
   have hm1':((iH (es.take j) e).length+1) * 56≤140737488355328:=by omega
   clear he hr htl hrl;by_cases hq:y.path=e.path
   ·have hq2:=gS hq
    have HO:=aA (zv3 HX.out (show iS e y=false from by simp[iS,hq]))
    clear hq;go_wp2_with fail
    go_quiet (first | (go_at_call 164;refine Calls.quiet_of ((dI bk 0 e.kind _ ?_).mono (fun r w' ⟨he,hw⟩=>⟨by rw[HDk.out]at he;exact he,0,hw⟩));exact F1) | (go_at_call 220;exact Calls.quiet_of ((iK _ _ _ (by rw[aK];omega) (by rw[aK];omega)).mono (fun r w' ⟨he,hw⟩=>⟨by rw[aT,aT,HBl.out]at he;exact he,0,hw⟩))))
    go_wp2_with fail
    go_roundw
    case rel=>exact ⟨j+1,by omega,by go_num,aA (by rw[HO.out];exact HG.out.drewN nq),HOb,aA (below_drewN HW.out nq)⟩
    case measure=>simp[intOf];omega
   ·have hq2:=jA hq
    cases hd:bZ e.kind
    ·cases hbl:bD y.path e.path
     ·have HO:=aA (zo6 HX.out (show iS e y=true from by simp[iS,hq,hd,hbl]))
      have HDk:=aA hd;have HBl:=aA hbl;clear hq hd hbl;go_wp2_with fail
      go_quiet (first | (go_at_call 164;refine Calls.quiet_of ((dI bk 0 e.kind _ ?_).mono (fun r w' ⟨he,hw⟩=>⟨by rw[HDk.out]at he;exact he,0,hw⟩));exact F1) | (go_at_call 220;exact Calls.quiet_of ((iK _ _ _ (by rw[aK];omega) (by rw[aK];omega)).mono (fun r w' ⟨he,hw⟩=>⟨by rw[aT,aT,HBl.out]at he;exact he,0,hw⟩))))
      have HW2:=aA (below_drewN HW.out nq);have HG2:=aA (HG.out.drewN nq);clear HG c0 c1 c2 c3 F1 F2;generalize wr.drewN nq=W at HW2 HG2 ⊢;obtain ⟨d0,d1,d2,d3⟩:=HD.out;have c0:=(HW2.out.cell (p:=⟨b,off+j * 4,none⟩) hb).trans d0;have c1:=(HW2.out.cell (p:=⟨b,off+j * 4+1,none⟩) hb).trans d1;have c2:=(HW2.out.cell (p:=⟨b,off+j * 4+2,none⟩) hb).trans d2;have c3:=(HW2.out.cell (p:=⟨b,off+j * 4+3,none⟩) hb).trans d3;have hsz2:=HW2.out.size;obtain ⟨rs,g1,g2,g3⟩:=HG2.out;have G1:=aA g1;have G2:=aA g2;have G3:=aA g3;clear g1 g2 g3 HG2 d0 d1 d2 d3;go_wp2_with (at_builtin;refine dB rfl (.tmp 38) (.tmp 43) 35 rfl w0.heap.size 50 i1 (.agg #[.string ⟨#[]⟩,.int .i64 0,.int .i64 0,.slice none 0 0]) 4 56 Tryz.underlying35 ki kz0 kz1 kz2 rfl (by decide) _ _ _ rfl G2.out _ rfl rfl rfl (by intro u hu;simp at hu;rcases hu with rfl | rfl | rfl | rfl <;> rfl) hm1 hm1' (by omega) ?_;intro av3 cv3 w3 hown2 hkept;have O3:=aA hown2;have K3:=aA hkept;clear hown2 hkept)
      go_roundw
      case rel =>
       refine ⟨j+1,by omega,by go_num,aA ?_,aA ?_,aA ?_⟩
       ·rw[HO.out]
        exact LE.push G1.out rfl G3.out HRc.out O3.out
       ·obtain ⟨g5,h5,_⟩:=iF O3.out (.inl (by omega))
        exact ⟨g5,by rw[h5];rfl⟩
       ·exact HW2.out.trans (K3.out.below (by omega) (fun k hk hx=>by have:=(G2.out.lt k hx).1;omega))
      case measure=>simp[intOf];omega
     ·have HO:=aA (zv3 HX.out (show iS e y=false from by simp[iS,hq,hd,hbl]))
      have HDk:=aA hd;have HBl:=aA hbl;clear hq hd hbl;go_wp2_with fail
      go_quiet (first | (go_at_call 164;refine Calls.quiet_of ((dI bk 0 e.kind _ ?_).mono (fun r w' ⟨he,hw⟩=>⟨by rw[HDk.out]at he;exact he,0,hw⟩));exact F1) | (go_at_call 220;exact Calls.quiet_of ((iK _ _ _ (by rw[aK];omega) (by rw[aK];omega)).mono (fun r w' ⟨he,hw⟩=>⟨by rw[aT,aT,HBl.out]at he;exact he,0,hw⟩))))
      go_wp2_with fail
      go_roundw
      case rel=>exact ⟨j+1,by omega,by go_num,aA (by rw[HO.out];exact HG.out.drewN nq),HOb,aA (below_drewN HW.out nq)⟩
      case measure=>simp[intOf];omega
    ·have HO:=aA (zo6 HX.out (show iS e y=true from by simp[iS,hq,hd]))
     have HDk:=aA hd;clear hq hd;go_wp2_with fail
     go_quiet (first | (go_at_call 164;refine Calls.quiet_of ((dI bk 0 e.kind _ ?_).mono (fun r w' ⟨he,hw⟩=>⟨by rw[HDk.out]at he;exact he,0,hw⟩));exact F1) | (go_at_call 220;exact Calls.quiet_of ((iK _ _ _ (by rw[aK];omega) (by rw[aK];omega)).mono (fun r w' ⟨he,hw⟩=>⟨by rw[aT,aT,HBl.out]at he;exact he,0,hw⟩))))
     have HW2:=aA (below_drewN HW.out nq);have HG2:=aA (HG.out.drewN nq);clear HG c0 c1 c2 c3 F1 F2;generalize wr.drewN nq=W at HW2 HG2 ⊢;obtain ⟨d0,d1,d2,d3⟩:=HD.out;have c0:=(HW2.out.cell (p:=⟨b,off+j * 4,none⟩) hb).trans d0;have c1:=(HW2.out.cell (p:=⟨b,off+j * 4+1,none⟩) hb).trans d1;have c2:=(HW2.out.cell (p:=⟨b,off+j * 4+2,none⟩) hb).trans d2;have c3:=(HW2.out.cell (p:=⟨b,off+j * 4+3,none⟩) hb).trans d3;have hsz2:=HW2.out.size;obtain ⟨rs,g1,g2,g3⟩:=HG2.out;have G1:=aA g1;have G2:=aA g2;have G3:=aA g3;clear g1 g2 g3 HG2 d0 d1 d2 d3;go_wp2_with (at_builtin;refine dB rfl (.tmp 38) (.tmp 43) 35 rfl w0.heap.size 50 i1 (.agg #[.string ⟨#[]⟩,.int .i64 0,.int .i64 0,.slice none 0 0]) 4 56 Tryz.underlying35 ki kz0 kz1 kz2 rfl (by decide) _ _ _ rfl G2.out _ rfl rfl rfl (by intro u hu;simp at hu;rcases hu with rfl | rfl | rfl | rfl <;> rfl) hm1 hm1' (by omega) ?_;intro av3 cv3 w3 hown2 hkept;have O3:=aA hown2;have K3:=aA hkept;clear hown2 hkept)
     go_roundw
     case rel =>
      refine ⟨j+1,by omega,by go_num,aA ?_,aA ?_,aA ?_⟩
      ·rw[HO.out]
       exact LE.push G1.out rfl G3.out HRc.out O3.out
      ·obtain ⟨g5,h5,_⟩:=iF O3.out (.inl (by omega))
       exact ⟨g5,by rw[h5];rfl⟩
      ·exact HW2.out.trans (K3.out.below (by omega) (fun k hk hx=>by have:=(G2.out.lt k hx).1;omega))
     case measure=>simp[intOf];omega
  ·have hE:es.take j=es:=List.take_of_length_le (by omega)
   rw[hE]at HG HOb hrl htl ⊢;clear hE;have HBS:=aA (zaa HS.out e);have hbl:(iH es e).length<1048576:=by omega
   have HPU:=aA (show dC es e=dV (iH es e) e from rfl)
   generalize iH es e=bs at *;obtain ⟨g5,h5,h6⟩:∃ g,lv=some ⟨g,0,none⟩∧bs.length≤lc:=by
    obtain ⟨rs,_,h1,_⟩:=HG.out;exact iF h1 (.inr HOb.out)
   subst h5;have HRd:=aA ((HG.out.se HW.out).rd);clear hrl htl;go_wp2_with fail
   obtain ⟨W1,hW1⟩:∃ W1,W1=wr:=⟨_,rfl⟩;subst hW1;have hlt1:bk<W1.heap.size:=by omega
   go_loopw [7] (fun i w2=>∃ k:Nat,k≤bs.length∧i=.int .i64 k∧Hid ((bs.take k).all (fun x=>Op.bytesLess x.path e.path)=true)∧Hid (Below W1.heap.size W1 w2)) (fun i _=>bs.length - (intOf i).toNat)
   case atStart=>exact ⟨0,Nat.zero_le _,rfl,aA (by simp),aA (Below.refl _ _)⟩
   case round =>
    obtain ⟨k,hk,rfl,HL,HW2⟩:=hrel;have F3:=(HW2.out.cell (p:=⟨bk,0,none⟩) hlt1).trans F2;by_cases hlt:k<bs.length
    ·obtain ⟨b,off,y,xx,c2,hbb,hb,he,c0,c1,c2,c3,hr⟩:=HRd.out.at hlt
     simp only[Option.some.injEq,Addr.mk.injEq,and_true]at hbb;obtain ⟨rfl,rfl⟩:=hbb;have c0:=(HW2.out.cell (p:=⟨g5,0+k * 4,none⟩) hb).trans c0;rw[Nat.zero_add]at c0;have HX:=aA he;clear he hr c1 c2 c3;cases hlo:Op.bytesLess (str y.path).toList (str e.path).toList
     ·have HLk:=aA (zfc hk HL.out (fun y' hy'=>by rw[HX.out]at hy';cases hy';rw[aN,aN]at hlo;exact hlo))
      go_wp2_with fail
      go_quiet (fail)
      have HWk:=aA (below_drewN HW2.out nq);clear c0 HW2 F3;generalize wr.drewN nq=W2 at HWk ⊢;have HPU2:Hid (dC es e=bs.take k++e :: bs.drop k):=by have:=HPU.out;unfold dV at this;rw[HLk.out]at this;exact this
      obtain ⟨rs,g1,g2,g3⟩:=HG.out;have G1:=aA g1;have G2:=aA g2;have G3:=aA g3;have hrsl:rs.length=bs.length:=by rw[←g1,List.length_map]
      clear g1 g2 g3 HG HRd;have hsW:=HWk.out.size;have OWN0:Hid ((W2.alloc (.cells #[] 50)).ownsRow W2.heap.size 50 4 (.slice (some ⟨W2.heap.size,0,none⟩) 0 0) 0 []):=World.ownsRow_made W2 #[] 0 (Nat.le_refl _) (Nat.zero_le _) rfl;have NEWS0:Hid (∀ j u,(aY (rs.take k))[j]?=some u→(W2.alloc (.cells #[] 50)).cell? ((⟨g5,0,none⟩:Addr).add j)=some u):=aA (by
       have:=vH (k:=0) G2.out (aB HWk.out (aC W2 (.cells #[] 50))) (aY (rs.take k)) (fun j u hj=>by
        rw[←xQ]at hj;rw[Nat.zero_mul,Nat.zero_add];rw[List.getElem?_take]at hj;split at hj
        ·exact hj
        ·cases hj)
       simpa using this)
      have hln0:(aY (rs.take k)).length=k * 4:=by rw[fE,List.length_take];congr 1;omega
      have hm0:0+k≤maxLen:=by unfold maxLen;omega
      have hm0':(0+k) * 56≤140737488355328:=by omega
      have hkc:(k:Int)≤(lc:Int):=by omega
      go_wp2_with (at_builtin;refine eW rfl (.tmp 61) (.tmp 64) 35 rfl W2.heap.size 50 i1 (.agg #[.string ⟨#[]⟩,.int .i64 0,.int .i64 0,.slice none 0 0]) 4 56 Tryz.underlying35 ki kz0 kz1 kz2 rfl (by decide) (.slice (some ⟨W2.heap.size,0,none⟩) 0 0) 0 [] rfl OWN0.out ⟨g5,0,none⟩ k lc (aY (rs.take k)) rfl hln0 NEWS0.out (kF _) k (by simp) hm0 hm0' (by simp) ?_;intro av3 cv3 w3 hown3 hk3;have O3:=aA hown3;have K3:=aA hk3;clear hown3 hk3)
      have BW3:=aA ((aC W2 (.cells #[] 50)).trans (K3.out.below (by simp) (fun q hq hS=>by simp[Value.ownBlock]at hS;omega)))
      have BW2:=aA (aB HW.out HWk.out);have B3:=aA (aB BW2.out BW3.out);have hs3:=BW3.out.size;have KC:Hid (∀ w5:World,Below W2.heap.size W2 w5→w5.cell? ⟨bk,0,none⟩=some (.string (str e.path))∧w5.cell? ⟨bk,1,none⟩=some (.int .i64 e.kind)∧w5.cell? ⟨bk,2,none⟩=some (.int .i64 e.size)∧w5.cell? ⟨bk,3,none⟩=some (.slice x e.chunks.length cc)):=fun w5 hb5=>⟨((aB BW2.out hb5).cell (p:=⟨bk,0,none⟩) hlt0).trans F0.out.1,((aB BW2.out hb5).cell (p:=⟨bk,1,none⟩) hlt0).trans F0.out.2.1,((aB BW2.out hb5).cell (p:=⟨bk,2,none⟩) hlt0).trans F0.out.2.2.1,((aB BW2.out hb5).cell (p:=⟨bk,3,none⟩) hlt0).trans F0.out.2.2.2⟩
      have p0:=(B3.out.cell (p:=⟨bk,0,none⟩) hlt0).trans F0.out.1;have p1:=(B3.out.cell (p:=⟨bk,1,none⟩) hlt0).trans F0.out.2.1;have p2:=(B3.out.cell (p:=⟨bk,2,none⟩) hlt0).trans F0.out.2.2.1;have p3:=(B3.out.cell (p:=⟨bk,3,none⟩) hlt0).trans F0.out.2.2.2;have OWN1:Hid ((w3.alloc (.cells #[.string (str e.path),.int .i64 e.kind,.int .i64 e.size,.slice x e.chunks.length cc] 50)).drew.ownsRow W2.heap.size 50 4 (.slice av3 k cv3) k ([]++aY (rs.take k))):=aI O3.out (aC _ _).drew;have NEWS1:Hid (∀ j u,(cM ⟨e,x,cc⟩)[j]?=some u→(w3.alloc (.cells #[.string (str e.path),.int .i64 e.kind,.int .i64 e.size,.slice x e.chunks.length cc] 50)).drew.cell? ((⟨w3.heap.size,0,none⟩:Addr).add j)=some u):=xG (t:=50) rfl
      have hnl:(aY (rs.drop k)).length=(bs.length - k) * 4:=by rw[fE,List.length_drop,hrsl]
      have hm1:k+1≤maxLen:=by unfold maxLen;omega
      have hm1':(k+1) * 56≤140737488355328:=by omega
      have hk1':k+1+(bs.length - k)=bs.length+1:=by omega
      have hm2:k+1+(bs.length - k)≤maxLen:=by unfold maxLen;omega
      have hm2':(k+1+(bs.length - k)) * 56≤140737488355328:=by omega
      have HLn:=aA (show bs.length+1=(bs.take k++e :: bs.drop k).length from by simp;omega)
      have HSm:=aA (show aV (bs.take k++e :: bs.drop k) from fun y hy=>by
       rcases List.mem_append.1 hy with hy | hy
       ·exact HBS.out y (List.mem_of_mem_take hy)
       ·rcases List.mem_cons.1 hy with rfl | hy
        ·exact ⟨hp,hcl⟩
        ·exact HBS.out y (List.mem_of_mem_drop hy))
      have hkc2:(k:Int)≤(bs.length:Int):=by omega
      have hbc:(bs.length:Int)≤(lc:Int):=by omega
      by_cases hck:lc=k
      ·exact absurd hck (by omega)
      ·have hck2:¬ k=lc:=fun e=>hck e.symm
       have NEWS2:Hid (∀ w5:World,Below W2.heap.size W2 w5→∀ j u,(aY (rs.drop k))[j]?=some u→w5.cell? ((⟨g5,k * 4,none⟩:Addr).add j)=some u):=fun w5 hb5=>vH (k:=k) G2.out (aB HWk.out hb5) (aY (rs.drop k)) (fun j u hj=>by rw[←sN,List.getElem?_drop]at hj;exact hj)
       go_region_held3 (fun w'=>w'.cell? ⟨bk,0,none⟩=some (.string (str e.path))∧w'.cell? ⟨bk,1,none⟩=some (.int .i64 e.kind)∧w'.cell? ⟨bk,2,none⟩=some (.int .i64 e.size)∧w'.cell? ⟨bk,3,none⟩=some (.slice x e.chunks.length cc)) (first | exact KC.out _ BB4.out | exact KC.out _ BB5.out | exact KC.out _ B6.out | go_keep)
        ((
         first
         | (refine aZ (by rfl) (.tmp 66) (.tmp 68) 35 (by rfl) W2.heap.size 50 i1 (.agg #[.string ⟨#[]⟩,.int .i64 0,.int .i64 0,.slice none 0 0]) 4 56 Tryz.underlying35 ki kz0 kz1 kz2 rfl (by decide) (.slice av3 k cv3) k ([]++aY (rs.take k)) (by rfl) OWN1.out ⟨w3.heap.size,0,none⟩ 1 1 (cM ⟨e,x,cc⟩) (by rfl) (by rfl) NEWS1.out (kF [⟨e,x,cc⟩]) (k+1) rfl hm1 hm1' (by simp;omega) ?_;intro av4 cv4 w4 hown4 hk4;have O4:=aA hown4;have BB4:=aA (BW3.out.trans ((((aD.refl (fun q=>(Value.slice av3 k cv3).ownBlock=some q) w3).alloc _).drew.trans hk4).below hs3 (fun q hq hS=>by have:=(O3.out.lt q hS).1;omega)));clear hown4 hk4)
         | (refine aZ (by rfl) (.tmp 69) (.tmp 72) 35 (by rfl) W2.heap.size 50 i1 (.agg #[.string ⟨#[]⟩,.int .i64 0,.int .i64 0,.slice none 0 0]) 4 56 Tryz.underlying35 ki kz0 kz1 kz2 rfl (by decide) (.slice av4 (k+1) cv4) (k+1) (([]++aY (rs.take k))++cM ⟨e,x,cc⟩) (by rfl) O4.out ⟨g5,k * 4,none⟩ (bs.length - k) (lc - k) (aY (rs.drop k)) (by rfl) hnl (NEWS2.out w4 BB4.out) (kF _) (bs.length+1) hk1' hm2 hm2' BB4.out.size ?_;intro av5 cv5 w5 hown5 hk5;have O5:=aA hown5;have BB5:=aA (BB4.out.trans (hk5.below BB4.out.size (fun q hq hS=>by have:=(O4.out.lt q hS).1;omega)));have RD5:=aA ((zx0 G1.out hk rfl G3.out HRx.out (aB BW2.out BB5.out) hown5).rd);clear hown5 hk5)
         | (go_at_call 119;refine (jF av5 cv5 (bs.length+1) _ w5 RD5.out HLn.out (by rw[←HLn.out];omega) HSm.out).mono ?_;rintro r w6 ⟨g6,cv6,rfl,hcv6,hG6,hb6⟩;have GG6:=aA (hG6.mono BB5.out.size);have B6:=aA (aB BB5.out hb6);clear hG6 hb6)))
       have hpl:(dC es e).length=bs.length+1:=by rw[HPU2.out];exact HLn.out.symm
       have HPL:=aA hpl;clear hpl;go_wp2_with fail
       go_ret
       have hz0:=HW0.out;have hz1:=BW2.out.size;exact ⟨g6,cv6,by rw[HPL.out];rfl,by rw[HPL.out,HPU2.out];exact GG6.out.mono (by omega),aB B0.out (aB BW2.out B6.out)⟩
     ·have HLk:=aA (show (bs.take (k+1)).all (fun x=>Op.bytesLess x.path e.path)=true from by
       rw[aN,aN]at hlo;rw[bY HX.out];simp only[List.all_append,HL.out,List.all_cons,hlo,List.all_nil,Bool.and_self])
      go_wp2_with fail
      go_quiet (fail)
      go_wp2_with fail
      go_roundw
      case rel=>exact ⟨k+1,by omega,by go_num,HLk,aA (below_drewN HW2.out nq)⟩
      case measure=>simp[intOf];omega
    ·have HLk:=aA (zfc hk HL.out (fun y' hy'=>by have:=(List.getElem?_eq_some_iff.1 hy').1;omega))
     go_wp2_with fail
     go_quiet (fail)
     have HWk:=aA (below_drewN HW2.out nq);clear HW2 F3;generalize wr.drewN nq=W2 at HWk ⊢;have HPU2:Hid (dC es e=bs.take k++e :: bs.drop k):=by have:=HPU.out;unfold dV at this;rw[HLk.out]at this;exact this
     obtain ⟨rs,g1,g2,g3⟩:=HG.out;have G1:=aA g1;have G2:=aA g2;have G3:=aA g3;have hrsl:rs.length=bs.length:=by rw[←g1,List.length_map]
     clear g1 g2 g3 HG HRd;have hsW:=HWk.out.size;have OWN0:Hid ((W2.alloc (.cells #[] 50)).ownsRow W2.heap.size 50 4 (.slice (some ⟨W2.heap.size,0,none⟩) 0 0) 0 []):=World.ownsRow_made W2 #[] 0 (Nat.le_refl _) (Nat.zero_le _) rfl;have NEWS0:Hid (∀ j u,(aY (rs.take k))[j]?=some u→(W2.alloc (.cells #[] 50)).cell? ((⟨g5,0,none⟩:Addr).add j)=some u):=aA (by
      have:=vH (k:=0) G2.out (aB HWk.out (aC W2 (.cells #[] 50))) (aY (rs.take k)) (fun j u hj=>by
       rw[←xQ]at hj;rw[Nat.zero_mul,Nat.zero_add];rw[List.getElem?_take]at hj;split at hj
       ·exact hj
       ·cases hj)
      simpa using this)
     have hln0:(aY (rs.take k)).length=k * 4:=by rw[fE,List.length_take];congr 1;omega
     have hm0:0+k≤maxLen:=by unfold maxLen;omega
     have hm0':(0+k) * 56≤140737488355328:=by omega
     have hkc:(k:Int)≤(lc:Int):=by omega
     go_wp2_with (at_builtin;refine eW rfl (.tmp 61) (.tmp 64) 35 rfl W2.heap.size 50 i1 (.agg #[.string ⟨#[]⟩,.int .i64 0,.int .i64 0,.slice none 0 0]) 4 56 Tryz.underlying35 ki kz0 kz1 kz2 rfl (by decide) (.slice (some ⟨W2.heap.size,0,none⟩) 0 0) 0 [] rfl OWN0.out ⟨g5,0,none⟩ k lc (aY (rs.take k)) rfl hln0 NEWS0.out (kF _) k (by simp) hm0 hm0' (by simp) ?_;intro av3 cv3 w3 hown3 hk3;have O3:=aA hown3;have K3:=aA hk3;clear hown3 hk3)
     have BW3:=aA ((aC W2 (.cells #[] 50)).trans (K3.out.below (by simp) (fun q hq hS=>by simp[Value.ownBlock]at hS;omega)))
     have BW2:=aA (aB HW.out HWk.out);have B3:=aA (aB BW2.out BW3.out);have hs3:=BW3.out.size;have KC:Hid (∀ w5:World,Below W2.heap.size W2 w5→w5.cell? ⟨bk,0,none⟩=some (.string (str e.path))∧w5.cell? ⟨bk,1,none⟩=some (.int .i64 e.kind)∧w5.cell? ⟨bk,2,none⟩=some (.int .i64 e.size)∧w5.cell? ⟨bk,3,none⟩=some (.slice x e.chunks.length cc)):=fun w5 hb5=>⟨((aB BW2.out hb5).cell (p:=⟨bk,0,none⟩) hlt0).trans F0.out.1,((aB BW2.out hb5).cell (p:=⟨bk,1,none⟩) hlt0).trans F0.out.2.1,((aB BW2.out hb5).cell (p:=⟨bk,2,none⟩) hlt0).trans F0.out.2.2.1,((aB BW2.out hb5).cell (p:=⟨bk,3,none⟩) hlt0).trans F0.out.2.2.2⟩
     have p0:=(B3.out.cell (p:=⟨bk,0,none⟩) hlt0).trans F0.out.1;have p1:=(B3.out.cell (p:=⟨bk,1,none⟩) hlt0).trans F0.out.2.1;have p2:=(B3.out.cell (p:=⟨bk,2,none⟩) hlt0).trans F0.out.2.2.1;have p3:=(B3.out.cell (p:=⟨bk,3,none⟩) hlt0).trans F0.out.2.2.2;have OWN1:Hid ((w3.alloc (.cells #[.string (str e.path),.int .i64 e.kind,.int .i64 e.size,.slice x e.chunks.length cc] 50)).drew.ownsRow W2.heap.size 50 4 (.slice av3 k cv3) k ([]++aY (rs.take k))):=aI O3.out (aC _ _).drew;have NEWS1:Hid (∀ j u,(cM ⟨e,x,cc⟩)[j]?=some u→(w3.alloc (.cells #[.string (str e.path),.int .i64 e.kind,.int .i64 e.size,.slice x e.chunks.length cc] 50)).drew.cell? ((⟨w3.heap.size,0,none⟩:Addr).add j)=some u):=xG (t:=50) rfl
     have hnl:(aY (rs.drop k)).length=(bs.length - k) * 4:=by rw[fE,List.length_drop,hrsl]
     have hm1:k+1≤maxLen:=by unfold maxLen;omega
     have hm1':(k+1) * 56≤140737488355328:=by omega
     have hk1':k+1+(bs.length - k)=bs.length+1:=by omega
     have hm2:k+1+(bs.length - k)≤maxLen:=by unfold maxLen;omega
     have hm2':(k+1+(bs.length - k)) * 56≤140737488355328:=by omega
     have HLn:=aA (show bs.length+1=(bs.take k++e :: bs.drop k).length from by simp;omega)
     have HSm:=aA (show aV (bs.take k++e :: bs.drop k) from fun y hy=>by
      rcases List.mem_append.1 hy with hy | hy
      ·exact HBS.out y (List.mem_of_mem_take hy)
      ·rcases List.mem_cons.1 hy with rfl | hy
       ·exact ⟨hp,hcl⟩
       ·exact HBS.out y (List.mem_of_mem_drop hy))
     have hkc2:(k:Int)≤(bs.length:Int):=by omega
     have hbc:(bs.length:Int)≤(lc:Int):=by omega
     by_cases hck:lc=k
     ·obtain rfl:k=lc:=hck.symm
      have hck3:k=bs.length:=by omega
      have hnl0:(aY (rs.drop k)).length=0 * 4:=by rw[fE,List.length_drop,hrsl];omega
      have hk0:k+1+0=bs.length+1:=by omega
      have hm3:k+1+0≤maxLen:=by omega
      have hm3':(k+1+0) * 56≤140737488355328:=by omega
      have HCK:=aA hck3;clear hck3;have NEWS2:Hid (∀ w5:World,Below W2.heap.size W2 w5→∀ j u,(aY (rs.drop k))[j]?=some u→w5.cell? ((⟨g5,0,none⟩:Addr).add j)=some u):=fun w5 hb5 j u hj=>by rw[←sN,List.drop_eq_nil_of_le (by rw[fE];omega)]at hj;simp at hj
      go_region_held3 (fun w'=>w'.cell? ⟨bk,0,none⟩=some (.string (str e.path))∧w'.cell? ⟨bk,1,none⟩=some (.int .i64 e.kind)∧w'.cell? ⟨bk,2,none⟩=some (.int .i64 e.size)∧w'.cell? ⟨bk,3,none⟩=some (.slice x e.chunks.length cc)) (first | exact KC.out _ BB4.out | exact KC.out _ BB5.out | exact KC.out _ B6.out | go_keep)
       ((
        first
        | (refine aZ (by rfl) (.tmp 66) (.tmp 68) 35 (by rfl) W2.heap.size 50 i1 (.agg #[.string ⟨#[]⟩,.int .i64 0,.int .i64 0,.slice none 0 0]) 4 56 Tryz.underlying35 ki kz0 kz1 kz2 rfl (by decide) (.slice av3 k cv3) k ([]++aY (rs.take k)) (by rfl) OWN1.out ⟨w3.heap.size,0,none⟩ 1 1 (cM ⟨e,x,cc⟩) (by rfl) (by rfl) NEWS1.out (kF [⟨e,x,cc⟩]) (k+1) rfl hm1 hm1' (by simp;omega) ?_;intro av4 cv4 w4 hown4 hk4;have O4:=aA hown4;have BB4:=aA (BW3.out.trans ((((aD.refl (fun q=>(Value.slice av3 k cv3).ownBlock=some q) w3).alloc _).drew.trans hk4).below hs3 (fun q hq hS=>by have:=(O3.out.lt q hS).1;omega)));clear hown4 hk4)
        | (refine aZ (by rfl) (.tmp 69) (.tmp 72) 35 (by rfl) W2.heap.size 50 i1 (.agg #[.string ⟨#[]⟩,.int .i64 0,.int .i64 0,.slice none 0 0]) 4 56 Tryz.underlying35 ki kz0 kz1 kz2 rfl (by decide) (.slice av4 (k+1) cv4) (k+1) (([]++aY (rs.take k))++cM ⟨e,x,cc⟩) (by rfl) O4.out ⟨g5,0,none⟩ 0 0 (aY (rs.drop k)) (by rfl) hnl0 (NEWS2.out w4 BB4.out) (kF _) (bs.length+1) hk0 hm3 hm3' BB4.out.size ?_;intro av5 cv5 w5 hown5 hk5;have O5:=aA hown5;have BB5:=aA (BB4.out.trans (hk5.below BB4.out.size (fun q hq hS=>by have:=(O4.out.lt q hS).1;omega)));have RD5:=aA ((zx0 G1.out hk rfl G3.out HRx.out (aB BW2.out BB5.out) hown5).rd);clear hown5 hk5)
        | (go_at_call 119;refine (jF av5 cv5 (bs.length+1) _ w5 RD5.out HLn.out (by rw[←HLn.out];omega) HSm.out).mono ?_;rintro r w6 ⟨g6,cv6,rfl,hcv6,hG6,hb6⟩;have GG6:=aA (hG6.mono BB5.out.size);have B6:=aA (aB BB5.out hb6);clear hG6 hb6)))
      have hpl:(dC es e).length=bs.length+1:=by rw[HPU2.out];exact HLn.out.symm
      have HPL:=aA hpl;clear hpl;go_wp2_with fail
      go_ret
      have hz0:=HW0.out;have hz1:=BW2.out.size;exact ⟨g6,cv6,by rw[HPL.out];rfl,by rw[HPL.out,HPU2.out];exact GG6.out.mono (by omega),aB B0.out (aB BW2.out B6.out)⟩
     ·have hck2:¬ k=lc:=fun e=>hck e.symm
      have NEWS2:Hid (∀ w5:World,Below W2.heap.size W2 w5→∀ j u,(aY (rs.drop k))[j]?=some u→w5.cell? ((⟨g5,k * 4,none⟩:Addr).add j)=some u):=fun w5 hb5=>vH (k:=k) G2.out (aB HWk.out hb5) (aY (rs.drop k)) (fun j u hj=>by rw[←sN,List.getElem?_drop]at hj;exact hj)
      go_region_held3 (fun w'=>w'.cell? ⟨bk,0,none⟩=some (.string (str e.path))∧w'.cell? ⟨bk,1,none⟩=some (.int .i64 e.kind)∧w'.cell? ⟨bk,2,none⟩=some (.int .i64 e.size)∧w'.cell? ⟨bk,3,none⟩=some (.slice x e.chunks.length cc)) (first | exact KC.out _ BB4.out | exact KC.out _ BB5.out | exact KC.out _ B6.out | go_keep)
       ((
        first
        | (refine aZ (by rfl) (.tmp 66) (.tmp 68) 35 (by rfl) W2.heap.size 50 i1 (.agg #[.string ⟨#[]⟩,.int .i64 0,.int .i64 0,.slice none 0 0]) 4 56 Tryz.underlying35 ki kz0 kz1 kz2 rfl (by decide) (.slice av3 k cv3) k ([]++aY (rs.take k)) (by rfl) OWN1.out ⟨w3.heap.size,0,none⟩ 1 1 (cM ⟨e,x,cc⟩) (by rfl) (by rfl) NEWS1.out (kF [⟨e,x,cc⟩]) (k+1) rfl hm1 hm1' (by simp;omega) ?_;intro av4 cv4 w4 hown4 hk4;have O4:=aA hown4;have BB4:=aA (BW3.out.trans ((((aD.refl (fun q=>(Value.slice av3 k cv3).ownBlock=some q) w3).alloc _).drew.trans hk4).below hs3 (fun q hq hS=>by have:=(O3.out.lt q hS).1;omega)));clear hown4 hk4)
        | (refine aZ (by rfl) (.tmp 69) (.tmp 72) 35 (by rfl) W2.heap.size 50 i1 (.agg #[.string ⟨#[]⟩,.int .i64 0,.int .i64 0,.slice none 0 0]) 4 56 Tryz.underlying35 ki kz0 kz1 kz2 rfl (by decide) (.slice av4 (k+1) cv4) (k+1) (([]++aY (rs.take k))++cM ⟨e,x,cc⟩) (by rfl) O4.out ⟨g5,k * 4,none⟩ (bs.length - k) (lc - k) (aY (rs.drop k)) (by rfl) hnl (NEWS2.out w4 BB4.out) (kF _) (bs.length+1) hk1' hm2 hm2' BB4.out.size ?_;intro av5 cv5 w5 hown5 hk5;have O5:=aA hown5;have BB5:=aA (BB4.out.trans (hk5.below BB4.out.size (fun q hq hS=>by have:=(O4.out.lt q hS).1;omega)));have RD5:=aA ((zx0 G1.out hk rfl G3.out HRx.out (aB BW2.out BB5.out) hown5).rd);clear hown5 hk5)
        | (go_at_call 119;refine (jF av5 cv5 (bs.length+1) _ w5 RD5.out HLn.out (by rw[←HLn.out];omega) HSm.out).mono ?_;rintro r w6 ⟨g6,cv6,rfl,hcv6,hG6,hb6⟩;have GG6:=aA (hG6.mono BB5.out.size);have B6:=aA (aB BB5.out hb6);clear hG6 hb6)))
      have hpl:(dC es e).length=bs.length+1:=by rw[HPU2.out];exact HLn.out.symm
      have HPL:=aA hpl;clear hpl;go_wp2_with fail
      go_ret
      have hz0:=HW0.out;have hz1:=BW2.out.size;exact ⟨g6,cv6,by rw[HPL.out];rfl,by rw[HPL.out,HPU2.out];exact GG6.out.mono (by omega),aB B0.out (aB BW2.out B6.out)⟩
theorem zE {P:Program} {wr:World} {ops:Array Oper} {rest:List Oper} {o:Oper} {a:Act} {Q:Exit→Act→World→Prop} (hgd:o.guard=none) (s x:Operand) (t:TypeId)
  (ho:o.op=.call { callee:=.builtin .append,args:=#[s,x],argTypes:=#[t,t] })
  (e:TypeId) (i:TypeInfo) (k:IntKind) (bytes:Nat) (hu:P.underlying t=some (.slice e)) (hi:P.info? e=some i) (hz:i.zero=some (.int k 0))
  (hsize:i.size=1) (hby:i.bytes=bytes) (hs:a.eval s=.slice none 0 0)
  (xa:Option Addr) (m cap:Nat) (zs:List Int) (hx:a.eval x=.slice xa m cap) (hm:m=zs.length) (hr:aP k wr xa zs)
  (h63:0+m≤maxLen) (hbytes:(0+m) * bytes≤140737488355328)
  (h:∀ av cv w',w'.ownsRow wr.heap.size e 1 (.slice av m cv) m (zs.map (Value.int k))→Below wr.heap.size wr w'→wpList P ops Q rest (a.put o.dst (.slice av m cv)) w') :
  wpList P ops Q (o :: rest) a wr:=by
 cases xa with
 | some ad =>
  refine wpList_append_own _ hgd s x t ho wr.heap.size e i (.int k 0) 1 bytes hu hi hz hsize hby rfl (by decide) _ 0 [] hs (World.ownsRow_nil _ _ _ _) ad m cap (zs.map (Value.int k)) hx (by simp[hm]) (fun j u hj=>?_) (uN _ _) h63 hbytes (Nat.le_refl _) ?_
  ·have h0:zs≠[]:=fun e=>by subst e;simp at hj
   obtain ⟨b,off,e1,hb,hc⟩:=hr h0;simp only[Option.some.injEq]at e1;subst e1;exact qW hc j u hj
  ·intro v' w' ho' hg _
   rw[List.nil_append,Nat.zero_add]at ho';obtain ⟨av,cv,rfl⟩:=bH ho';exact h av cv w' ho' ⟨hg.os,hg.tape,hg.output,hg.size,fun q hq=>hg.block q hq (fun e=>by simp[Value.ownBlock]at e)⟩
 | none =>
  have h0:zs=[]:=by
   by_cases h0:zs=[]
   ·exact h0
   ·obtain ⟨b,off,e1,_⟩:=hr h0;cases e1
  subst h0;simp only[List.length_nil]at hm;subst hm;have hrun:(Builtin.append_ #[t,t] o.type #[.slice none 0 0,.slice none 0 cap]).run P wr=.ok (.slice none 0 0) wr:=by
   simp[Builtin.append_,run_underlying hu,sizeOf,typeInfo,hi,Builtin.lenOf,Builtin.firstCells]
  refine wpList_plain hgd fun K hK=>?_
  unfold Oper.wp execOp;simp only[ho,resolve,invoke,builtin,Sem.run_bind,Sem.run_pure,Result.andThen_ok,List.map_toArray,List.map_cons,List.map_nil,hs,hx,hrun];exact hK _ _ (h _ _ wr (World.ownsRow_nil _ _ _ _) (Below.refl _ _))
theorem za3 (z:Int) (x:Option Addr) (c:Nat) (zs:List Int) (w:World) (h:aP .i64 w x zs) (hc:zs.length≤1048576) :
  Calls Tryz.prog 135 #[.agg #[.int .i64 z,.slice x zs.length c]] w fun r w'=>∃ av cv,r=.returned (.slice av zs.length cv)∧w'.ownsRow w.heap.size 2 1 (.slice av zs.length cv) zs.length (zs.map (Value.int .i64))∧Below w.heap.size w w':=by
 obtain ⟨i0,hi0,hz0,hz1,hz2⟩:=info_parts Tryz.infoI64;have HR:=aA (h.below (aC w (.cells #[.int .i64 z,.slice x zs.length c] 86)));have hm0:0+zs.length≤maxLen:=by unfold maxLen;omega
 have hm1:(0+zs.length) * 8≤140737488355328:=by omega
 clear h;go_enter Tryz.func135,Tryz.ntmps135;go_wp2_with (at_builtin;refine zE rfl (.const (.slice none 0 0)) (.tmp 4) 48 rfl 2 i0 .i64 8 Tryz.underlying48 hi0 hz0 hz1 hz2 rfl x zs.length c zs rfl rfl HR.out hm0 hm1 ?_;intro av cv w1 hown1 hk1;have O1:=aA hown1;have B1:=aA hk1;clear hown1 hk1)
 go_ret
 exact ⟨av,cv,rfl,bF O1.out (by simp),aB (aC _ _) B1.out⟩
theorem Tryz.infoIt:(Tryz.prog.info? 88).map (fun i=>(i.zero,i.size,i.bytes))=some (some (.agg #[.int .i64 0,.slice none 0 0,.string ⟨#[]⟩,.int .i64 0]),4,56):=by kernel_rfl
def bI (r:Rw):List Value:=[.int .i64 r.e.size,.slice r.a r.e.chunks.length r.c,.string (str r.e.path),.int .i64 r.e.kind]
def fQ (rs:List Rw):List Value:=rs.flatMap bI
theorem tK (a b:List Rw):fQ (a++b)=fQ a++fQ b:=by simp[fQ]
theorem rT:∀ (rs:List Rw) (i q:Nat) (r:Rw),rs[i]?=some r→q<4→(fQ rs)[i * 4+q]?=(bI r)[q]?
 | [],i,q,r,h,_=>by simp at h
 | x :: rs,0,q,r,h,hq=>by
  simp only[List.getElem?_cons_zero,Option.some.injEq]at h;subst h;simp only[fQ,List.flatMap_cons,Nat.zero_mul,Nat.zero_add];rw[List.getElem?_append_left (by simp[bI];omega)]
 | x :: rs,i+1,q,r,h,hq=>by
  have:=rT rs i q r (by simpa using h) hq
  rw[←this];simp only[fQ,List.flatMap_cons];rw[List.getElem?_append_right (by simp[bI];omega)]
  congr 1
  simp[bI];omega
theorem nG (rs:List Rw):∀ u∈fQ rs,u.oneCell'=true:=by
 intro u hu;simp only[fQ,List.mem_flatMap]at hu;obtain ⟨r,_,hr⟩:=hu;simp only[bI,List.mem_cons,List.not_mem_nil,or_false]at hr;rcases hr with rfl | rfl | rfl | rfl <;> rfl
def RdI (w:World) (a:Option Addr) (es:List En):Prop :=
 es≠[]→∃ (b off:Nat) (A:Nat→Option Addr) (C:Nat→Nat),a=some ⟨b,off,none⟩∧b<w.heap.size∧∀ i e,es[i]?=some e →
  w.cell? ⟨b,off+i * 4,none⟩=some (.int .i64 e.size)∧w.cell? ⟨b,off+i * 4+1,none⟩=some (.slice (A i) e.chunks.length (C i))∧w.cell? ⟨b,off+i * 4+2,none⟩=some (.string (str e.path)) ∧
  w.cell? ⟨b,off+i * 4+3,none⟩=some (.int .i64 e.kind)∧aP .i64 w (A i) e.chunks
theorem RdI.below {w w':World} {a:Option Addr} {es:List En} (h:RdI w a es) (hk:Below w.heap.size w w'):RdI w' a es:=by
 intro hz;obtain ⟨b,off,A,C,e,hb,hc⟩:=h hz;refine ⟨b,off,A,C,e,Nat.lt_of_lt_of_le hb hk.size,fun i x hx=>?_⟩
 obtain ⟨c0,c1,c2,c3,r⟩:=hc i x hx;exact ⟨(hk.cell (p:=⟨b,off+i * 4,none⟩) hb).trans c0,(hk.cell (p:=⟨b,off+i * 4+1,none⟩) hb).trans c1,(hk.cell (p:=⟨b,off+i * 4+2,none⟩) hb).trans c2,(hk.cell (p:=⟨b,off+i * 4+3,none⟩) hb).trans c3,r.below hk⟩
theorem RdI.at {w:World} {a:Option Addr} {es:List En} (h:RdI w a es) {k:Nat} (hk:k<es.length) :
  ∃ b off e x c,a=some ⟨b,off,none⟩∧b<w.heap.size∧es[k]?=some e∧w.cell? ⟨b,off+k * 4,none⟩=some (.int .i64 e.size)∧w.cell? ⟨b,off+k * 4+1,none⟩=some (.slice x e.chunks.length c)∧w.cell? ⟨b,off+k * 4+2,none⟩=some (.string (str e.path)) ∧
   w.cell? ⟨b,off+k * 4+3,none⟩=some (.int .i64 e.kind)∧aP .i64 w x e.chunks:=by
 obtain ⟨b,off,A,C,e,hb,hc⟩:=h (by intro e;simp[e]at hk)
 have hx:es[k]?=some es[k]:=List.getElem?_eq_getElem hk;obtain ⟨c0,c1,c2,c3,r⟩:=hc k _ hx;exact ⟨b,off,es[k],A k,C k,e,hb,hx,c0,c1,c2,c3,r⟩
def LI (w0 w:World) (v:Value) (es:List En):Prop :=
 ∃ rs:List Rw,rs.map Rw.e=es∧w.ownsRow w0.heap.size 88 4 v es.length (fQ rs)∧∀ r∈rs,aP .i64 w0 r.a r.e.chunks
theorem LI.shape {w0 w:World} {v:Value} {es:List En} (h:LI w0 w v es):∃ a c,v=.slice a es.length c:=by
 obtain ⟨rs,_,h1,_⟩:=h;exact bH h1
theorem LI.nil (w0 w:World):LI w0 w (.slice none 0 0) [] :=
 ⟨[],rfl,World.ownsRow_nil _ _ _ _,fun r hr=>by simp at hr⟩
theorem LI.below {w0 w w':World} {v:Value} {es:List En} (h:LI w0 w v es) (hk:Below w.heap.size w w'):LI w0 w' v es:=by
 obtain ⟨rs,he,h1,h2⟩:=h;exact ⟨rs,he,aI h1 hk,h2⟩
theorem LI.push {w0 w2:World} {v':Value} {es:List En} {rs:List Rw} {e:En} {a:Option Addr} {c m:Nat} (he:rs.map Rw.e=es) (hm:m=es.length)
  (h2:∀ r∈rs,aP .i64 w0 r.a r.e.chunks) (hr:aP .i64 w0 a e.chunks)
  (hv':w2.ownsRow w0.heap.size 88 4 v' (m+1) (fQ rs++bI ⟨e,a,c⟩)):LI w0 w2 v' (es ++ [e]):=by
 subst hm;refine ⟨rs ++ [⟨e,a,c⟩],by rw[List.map_append,he];rfl,?_,fun r hx=>?_⟩
 ·rw[tK,List.length_append]
  simpa [fQ] using hv'
 ·rcases List.mem_append.1 hx with hx | hx
  ·exact h2 r hx
  ·simp only[List.mem_singleton]at hx
   subst hx;exact hr
theorem LI.rd {w0 w:World} {a:Option Addr} {n c:Nat} {es:List En} (h:LI w0 w (.slice a n c) es) (hb:Below w0.heap.size w0 w):RdI w a es:=by
 intro hz;obtain ⟨rs,he,h1,h2⟩:=h;have h0:0<es.length:=List.length_pos_iff.2 hz;have hl:rs.length=es.length:=by rw[←he,List.length_map]
 rcases h1.2 with ⟨_,h0'⟩ | ⟨g,cap,cur,h',hb',hh,hnc,hcm,hcs,htake⟩
 ·omega
 ·simp only[Value.slice.injEq]at h'
  obtain ⟨rfl,rfl,rfl⟩:=h';refine ⟨g,0,fun i=>(rs[i]?.map Rw.a).getD none,fun i=>(rs[i]?.map Rw.c).getD 0,rfl,(h1.lt g rfl).2,fun i e hi=>?_⟩
  have hi0:i<es.length:=(List.getElem?_eq_some_iff.1 hi).1;obtain ⟨r,hr⟩:∃ r,rs[i]?=some r:=⟨rs[i]'(by omega),List.getElem?_eq_getElem (by omega)⟩
  have hre:r.e=e:=by
   have:(rs.map Rw.e)[i]?=some r.e:=by rw[List.getElem?_map,hr];rfl
   rw[he,hi]at this;exact (Option.some.inj this).symm
  have hc:=fun q hq=>(h1.cellAt (i * 4+q) (by omega)).trans (rT rs i q r hr hq)
  simp only[hr,Option.map_some,Option.getD_some,Nat.zero_add];rw[←hre];exact ⟨hc 0 (by decide),hc 1 (by decide),hc 2 (by decide),hc 3 (by decide),(h2 r (List.mem_of_getElem? hr)).below hb⟩
theorem RdI.fresh {w:World} {e:En} {x:Option Addr} {c:Nat} {t:TypeId} (h:aP .i64 w x e.chunks):RdI (w.alloc (.cells #[.int .i64 e.size,.slice x e.chunks.length c,.string (str e.path),.int .i64 e.kind] t)) (some ⟨w.heap.size,0,none⟩) [e]:=by
 intro _;obtain ⟨f0,f1,f2,f3⟩:=cI.new w (.int .i64 e.size) (.slice x e.chunks.length c) (.string (str e.path)) (.int .i64 e.kind) t;refine ⟨w.heap.size,0,fun _=>x,fun _=>c,rfl,by simp,fun i y hy=>?_⟩
 have hi:i=0:=by
  have:=(List.getElem?_eq_some_iff.1 hy).1;simp at this
  exact this
 subst hi;simp only[List.getElem?_cons_zero,Option.some.injEq]at hy;subst hy;simp only[Nat.zero_mul,Nat.add_zero,Nat.zero_add];exact ⟨f0,f1,f2,f3,h.below (aC _ _)⟩
theorem jO (a:Option Addr) (c n:Nat) (es:List En) (w:World) (h:RdI w a es) (hn:n=es.length) (hl:es.length≤1048576) (hs:aV es) :
  Calls Tryz.prog 91 #[.slice a n c] w fun r w'=>∃ av cv,r=.returned (.slice av n cv)∧GE w.heap.size w'.heap.size w' (.slice av n cv) es∧Below w.heap.size w w':=by
 subst hn;obtain ⟨i1,ki,kz0,kz1,kz2⟩:=info_parts Tryz.infoEn;have HA:=aA h;have HS:=aA hs;clear h hs;go_enter Tryz.func91,Tryz.ntmps91;go_wp2_with fail
 go_loopw [3,8] (fun v i wr=>∃ j:Nat,j≤es.length∧i=.int .i64 j∧Hid (GE w.heap.size wr.heap.size wr v (es.take j))∧Hid (Below w.heap.size w wr)) (fun _ i _=>es.length - (intOf i).toNat)
 case atStart=>exact ⟨0,Nat.zero_le _,rfl,aA (GE.nil _ _ _),aA (Below.refl _ _)⟩
 case round =>
  obtain ⟨j,hj,rfl,HG,HW⟩:=hrel;obtain ⟨lv,lc,hv⟩:=HG.out.shape;rw[gP hj]at hv;subst hv;have HA1:=aA (HA.out.below HW.out);have hsz:=HW.out.size;by_cases hlt:j<es.length
  ·obtain ⟨b,off,e,x,cc,rfl,hb,he,c0,c1,c2,c3,hr⟩:=HA1.out.at hlt
   have HX:=aA he;have HRc:=aA (hr.below (aC wr (.cells #[.int .i64 e.size,.slice x e.chunks.length cc,.string (str e.path),.int .i64 e.kind] 88)));have hsm:=HS.out e (List.mem_of_getElem? he);have BW2:=aA (aC wr (.cells #[.int .i64 e.size,.slice x e.chunks.length cc,.string (str e.path),.int .i64 e.kind] 88));have F4:=aA (cI.new wr (.int .i64 e.size) (.slice x e.chunks.length cc) (.string (str e.path)) (.int .i64 e.kind) 88);clear he hr;obtain ⟨rs,g1,g2,g3,g4,g5,g6⟩:=HG.out;have G1:=aA g1;have G2:=aA g2;have G3:=aA g3;have G4:=aA g4;clear g1 g2 g3 g4 g5 g6 HG
   have hj1:(es.take j).length=j:=gP hj;have hm1:j+1≤maxLen:=by unfold maxLen;omega
   have hm1':(j+1) * 56≤140737488355328:=by omega
   have G2':Hid (wr.ownsRow w.heap.size 50 4 (.slice lv j lc) j (aY rs)):=by have:=G2.out;rw[hj1]at this;exact this
   have HJ:=aA hj1;clear hj1;go_wp2_with fail
   clear c0 c1 c2 c3;have hbk:wr.heap.size<(wr.alloc (.cells #[.int .i64 e.size,.slice x e.chunks.length cc,.string (str e.path),.int .i64 e.kind] 88)).heap.size:=F4.out.lt;generalize wr.alloc (.cells #[.int .i64 e.size,.slice x e.chunks.length cc,.string (str e.path),.int .i64 e.kind] 88)=W2 at *;obtain ⟨bk,hbke⟩:∃ bk,bk=wr.heap.size:=⟨_,rfl⟩;rw[←hbke]at F4 hbk ⊢;have HBK:=aA hbke;clear hbke;have KC:Hid (∀ w':World,Below W2.heap.size W2 w'→w'.cell? ⟨bk,0,none⟩=some (.int .i64 e.size)∧w'.cell? ⟨bk,1,none⟩=some (.slice x e.chunks.length cc)∧w'.cell? ⟨bk,2,none⟩=some (.string (str e.path))∧w'.cell? ⟨bk,3,none⟩=some (.int .i64 e.kind)):=aA (fun w' hb'=>F4.out.below hb')
   have KD:Hid (∀ w2 w3:World,Below W2.heap.size W2 w2→aD (fun q=>(Value.slice lv j lc).ownBlock=some q) w2 w3→w3.cell? ⟨bk,0,none⟩=some (.int .i64 e.size)∧w3.cell? ⟨bk,1,none⟩=some (.slice x e.chunks.length cc)∧w3.cell? ⟨bk,2,none⟩=some (.string (str e.path))∧w3.cell? ⟨bk,3,none⟩=some (.int .i64 e.kind)):=aA (fun w2 w3 hb' hk'=>by
    have hn:¬ (Value.slice lv j lc).ownBlock=some bk:=fun hq=>by have:=(G2'.out.lt bk hq).2;have:=HBK.out;omega
    have hlt2:bk<w2.heap.size:=Nat.lt_of_lt_of_le hbk hb'.size;obtain ⟨q0,q1,q2,q3⟩:=KC.out w2 hb';exact ⟨(hk'.cell (p:=⟨bk,0,none⟩) hlt2 hn).trans q0,(hk'.cell (p:=⟨bk,1,none⟩) hlt2 hn).trans q1,(hk'.cell (p:=⟨bk,2,none⟩) hlt2 hn).trans q2,(hk'.cell (p:=⟨bk,3,none⟩) hlt2 hn).trans q3⟩)
   obtain ⟨f0,f1,f2,f3⟩:=F4.out;go_region_held3 (fun w'=>w'.cell? ⟨bk,0,none⟩=some (.int .i64 e.size)∧w'.cell? ⟨bk,1,none⟩=some (.slice x e.chunks.length cc)∧w'.cell? ⟨bk,2,none⟩=some (.string (str e.path))∧w'.cell? ⟨bk,3,none⟩=some (.int .i64 e.kind)) (first | exact KC.out _ BB1.out | exact KC.out _ BB2.out | exact KD.out _ _ BB2.out K3.out | go_keep)
    ((
     first
     | (go_at_call 84;refine (pR _ _ (by rw[aK];omega)).mono ?_;rintro r w1 ⟨rfl,hb1⟩;have BB1:=aA ((Below.refl W2.heap.size W2).drew.trans hb1);clear hb1)
     | (go_at_call 135;refine (za3 _ _ _ _ _ (HRc.out.below BB1.out) hsm.2).mono ?_;rintro r w2 ⟨av2,cv2,rfl,ho2,hb2⟩;have O2:=aA ho2;have BB2:=aA (aB BB1.out hb2);clear ho2 hb2)
     | (refine aZ (by rfl) (.tmp 12) (.tmp 25) 35 (by rfl) w.heap.size 50 i1 (.agg #[.string ⟨#[]⟩,.int .i64 0,.int .i64 0,.slice none 0 0]) 4 56 Tryz.underlying35 ki kz0 kz1 kz2 rfl (by decide) (.slice lv j lc) j (aY rs) (by rfl) ((aI G2'.out (aB BW2.out BB2.out)).alloc _) ⟨w2.heap.size,0,none⟩ 1 1 (cM ⟨e,av2,cv2⟩) (by rfl) (by rfl) (xG rfl) (kF [⟨e,av2,cv2⟩]) (j+1) rfl hm1 hm1' (by have:=BW2.out.size;have:=BB2.out.size;simp;omega) ?_;intro av3 cv3 w3 hown3 hk3;have O3:=aA hown3;have K3:=aA (((aD.refl (fun q=>(Value.slice lv j lc).ownBlock=some q) w2).alloc _).trans hk3);clear hown3 hk3)))
   go_wp2_with fail
   go_roundw
   case rel =>
    have hs1:=BW2.out.size;have hs2:=BB1.out.size;have hs3:=BB2.out.size;refine ⟨j+1,by omega,by go_num,aA ?_,aA ?_⟩
    ·rw[bY HX.out]
     exact GE.push G1.out G2.out G3.out G4.out hsz (aB BW2.out BB2.out) (bF O2.out (by omega)) (by rw[HJ.out];exact O3.out) K3.out
    ·exact (aB HW.out (aB BW2.out BB2.out)).trans (K3.out.below (by omega) (fun k hk hx=>by have:=(G2'.out.lt k hx).1;omega))
   case measure=>simp[intOf];omega
  ·have hje:j=es.length:=by omega
   have HE:=aA (show es.take j=es from List.take_of_length_le (by omega))
   have HG2:Hid (GE w.heap.size wr.heap.size wr (.slice lv j lc) es):=by have:=HG.out;rw[HE.out]at this;exact this
   clear HG HE;subst hje;go_wp2_with fail
   go_ret
   exact ⟨_,_,rfl,HG2.out,HW.out⟩
end Go.Proofs.YtolnlfnndnpiiaaGreat
namespace Go.Proofs.YtolnlfnndnpiiaaGreat
open Go.RowKit Go.Maps
theorem En.same {e f:En} (h0:e.path=f.path) (h1:e.kind=f.kind) (h2:e.size=f.size) (h3:e.chunks=f.chunks):e=f:=by
 cases e;cases f;simp_all
theorem zfo {es fs:List En} {j:Nat} {e f:En} (he:es[j]?=some e) (hf:fs[j]?=some f) (h:e≠f):decide (es=fs)=false:=by
 apply decide_eq_false
 intro e1;rw[e1,hf]at he;exact h (Option.some.inj he).symm
theorem zpi {α:Type} {es fs:List α} {j:Nat} {e f:α} (he:es[j]?=some e) (hf:fs[j]?=some f) (h:es.take j=fs.take j) (hx:e=f):es.take (j+1)=fs.take (j+1):=by
 rw[bY he,bY hf,h,hx]
theorem zef {α:Type} {es fs:List α} {j:Nat} (h:es.take j=fs.take j) (h1:es.length≤j) (h2:fs.length≤j):es=fs:=by
 rwa [List.take_of_length_le h1,List.take_of_length_le h2]at h
end Go.Proofs.YtolnlfnndnpiiaaGreat
namespace Go.Proofs.YtolnlfnndnpiiaaGreat
open Go.ChangeShapes Go.WideShapes Go.ChangeAt Go.RowKit
def mI (w:World) (b:Nat) (u0 u1 u2 u3:Value):Prop:=cI w b u0 u1 u2 u3∧∀ i,w.frozen? ⟨b,i,none⟩=false
theorem mI.new (w:World) (u0 u1 u2 u3:Value) (t:TypeId):mI (w.alloc (.cells #[u0,u1,u2,u3] t)) w.heap.size u0 u1 u2 u3:=⟨cI.new w u0 u1 u2 u3 t,fun i=>by simp⟩
theorem mI.below {w w':World} {b:Nat} {u0 u1 u2 u3:Value} (h:mI w b u0 u1 u2 u3) (hk:Below w.heap.size w w'):mI w' b u0 u1 u2 u3 :=
 ⟨h.1.below hk,fun i=>(hk.frozen (p:=⟨b,i,none⟩) h.1.lt).trans (h.2 i)⟩
end Go.Proofs.YtolnlfnndnpiiaaGreat
