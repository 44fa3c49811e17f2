/-
  Texts put together: EntW EntP IteC.
-/
import Derived.Test.YtgaeikgoknoamaaGreatKKeeps4
import Derived.Test.YtgaeikgoknoamaaGreatKKeeps2
set_option linter.unusedVariables false
set_option maxHeartbeats 3200000
set_option maxRecDepth 100000
namespace Go.Proofs.YtgaeikgoknoamaaGreat
open Go.RowKit Go.Maps
attribute [local go_sem ↓] Go.wp_at_zero Go.wp_at_succ
def kF (p:Bs) (also:Bool) (e:En):Bool:=bG e.path p||(also&&decide (e.path=p))
def bO (es:List En) (p:Bs) (also:Bool):List En:=es.filter fun e=>!(kF p also e)
theorem uX {es:List En} {p:Bs} {also:Bool} {k:Nat} {e:En} (he:es[k]?=some e) (h:kF p also e=false):bO (es.take (k+1)) p also=bO (es.take k) p also ++ [e]:=by
 rw[cT he];simp[bO,h]
theorem oF {es:List En} {p:Bs} {also:Bool} {k:Nat} {e:En} (he:es[k]?=some e) (h:kF p also e=true):bO (es.take (k+1)) p also=bO (es.take k) p also:=by
 rw[cT he];simp[bO,h]
theorem wI (es:List En) (p:Bs) (also:Bool):(bO es p also).length≤es.length:=List.length_filter_le _ _
theorem yQ {es:List En} (h:cG es) (p:Bs) (also:Bool):cG (bO es p also):=fun e he=>h e (List.mem_filter.1 he).1
def LE (w0 w:World) (v:Value) (es:List En):Prop :=
 ∃ rs:List Rw,rs.map Rw.e=es∧w.ownsRow w0.heap.size 87 4 v es.length (aZ rs)∧∀ r∈rs,aO .i64 w0 r.a r.e.chunks
theorem LE.se {w0 w:World} {v:Value} {es:List En} (h:LE w0 w v es) (hb:Below w0.heap.size w0 w):SE w0.heap.size w v es:=by
 obtain ⟨rs,he,h1,h2⟩:=h;exact ⟨rs,he,h1,fun r hr=>(h2 r hr).below hb⟩
theorem LE.shape {w0 w:World} {v:Value} {es:List En} (h:LE w0 w v es):∃ a c,v=.slice a es.length c:=by
 obtain ⟨rs,_,h1,_⟩:=h;exact aQ h1
theorem LE.made (w:World):LE w (w.alloc (.cells #[] 87)) (.slice (some ⟨w.heap.size,0,none⟩) 0 0) [] :=
 ⟨[],rfl,World.ownsRow_made w #[] 0 (Nat.le_refl _) (Nat.zero_le _) rfl,fun r hr=>by simp at hr⟩
theorem LE.push {w0 w2:World} {v':Value} {es:List En} {rs:List Rw} {e:En} {a:Option Addr} {c m:Nat} (he:rs.map Rw.e=es) (hm:m=es.length)
  (h2:∀ r∈rs,aO .i64 w0 r.a r.e.chunks) (hr:aO .i64 w0 a e.chunks)
  (hv':w2.ownsRow w0.heap.size 87 4 v' (m+1) (aZ rs++cA ⟨e,a,c⟩)):LE w0 w2 v' (es ++ [e]):=by
 subst hm;refine ⟨rs ++ [⟨e,a,c⟩],by rw[List.map_append,he];rfl,?_,fun r hx=>?_⟩
 ·rw[oP,List.length_append]
  simpa [aZ] using hv'
 ·rcases List.mem_append.1 hx with hx | hx
  ·exact h2 r hx
  ·simp only[List.mem_singleton]at hx
   subst hx;exact hr
theorem zm4 (a:Option Addr) (c n:Nat) (es:List En) (p:Bs) (also:Bool) (w:World) (h:RdE w a es) (hn:n=es.length) (hl:es.length≤1048576) (hs:cG es) (hp:p.length≤1048576) :
  Calls Tryz.prog 271 #[.slice a n c,.string (str p),.bool also] w fun r w'=>∃ g cv,r=.returned (.slice (some ⟨g,0,none⟩) (bO es p also).length cv)∧GE w.heap.size w'.heap.size w' (.slice (some ⟨g,0,none⟩) (bO es p also).length cv) (bO es p also)∧Below w.heap.size w w':=by
 subst hn;obtain ⟨i1,ki,kz0,kz1,kz2⟩:=info_parts Tryz.infoEn;have HA:=aA h;have HS:=aA hs;clear h hs;cases also
 case false =>
  go_enter Tryz.func271,Tryz.ntmps271;go_wp2_with fail
  go_loopw [7,8] (fun v i wr=>∃ j:Nat,j≤es.length∧i=.int .i64 j∧Hid (LE w wr v (bO (es.take j) p false))∧Hid (∃ g,v.ownBlock=some g)∧Hid (Below w.heap.size w wr)) (fun _ i _=>es.length - (intOf i).toNat)
  case atStart=>exact ⟨0,Nat.zero_le _,rfl,aA (LE.made w),aA ⟨_,rfl⟩,aA (aC _ _)⟩
  case round =>
   obtain ⟨j,hj,rfl,HG,HOb,HW⟩:=hrel;obtain ⟨lv,lc,rfl⟩:=HG.out.shape;have hrl:=wI (es.take j) p false;have htl:=gN hj;have hsz:=HW.out.size;by_cases hlt:j<es.length
   ·obtain ⟨b,off,e,x,cc,rfl,hb,he,c0,c1,c2,c3,hr⟩:=HA.out.at hlt
    have HX:=aA he;have HRc:=aA hr;have hsm:=HS.out e (List.mem_of_getElem? he);have c0:=(HW.out.cell (p:=⟨b,off+j * 4,none⟩) hb).trans c0;have c1:=(HW.out.cell (p:=⟨b,off+j * 4+1,none⟩) hb).trans c1;have c2:=(HW.out.cell (p:=⟨b,off+j * 4+2,none⟩) hb).trans c2;have c3:=(HW.out.cell (p:=⟨b,off+j * 4+3,none⟩) hb).trans c3;have hm1:(bO (es.take j) p false).length+1≤maxLen:=by unfold maxLen;omega
    have hm1':((bO (es.take j) p false).length+1) * 56≤140737488355328:=by omega
    clear he hr htl hrl;cases hbl:bG e.path p
    ·have HBl:=aA hbl
     clear hbl;have HO:=aA (uX HX.out (show kF p false e=false from by simp[kF,HBl.out]))
     obtain ⟨rs,g1,g2,g3⟩:=HG.out;have G1:=aA g1;have G2:=aA g2;have G3:=aA g3;clear g1 g2 g3 HG;go_wp2_with (first | (go_at_call 220;refine (gS _ _ _ (by rw[aP];omega) (by rw[aP];omega)).mono ?_;rintro r w' ⟨rfl,rfl⟩;rw[bD,bD,HBl.out]) | (at_builtin;refine dQ rfl (.tmp 35) (.tmp 40) 40 rfl w.heap.size 87 i1 (.agg #[.string ⟨#[]⟩,.int .i64 0,.int .i64 0,.slice none 0 0]) 4 56 Tryz.underlying40 ki kz0 kz1 kz2 rfl (by decide) _ _ _ rfl G2.out _ rfl rfl rfl (by intro u hu;simp at hu;rcases hu with rfl | rfl | rfl | rfl <;> rfl) hm1 hm1' (by omega) ?_;intro av3 cv3 w3 hown2 hkept;have O3:=aA hown2;have K3:=aA hkept;clear hown2 hkept))
     go_roundw
     case rel =>
      refine ⟨j+1,by omega,by go_num,aA ?_,aA ?_,aA ?_⟩
      ·rw[HO.out]
       exact LE.push G1.out rfl G3.out HRc.out O3.out
      ·obtain ⟨g5,h5,_⟩:=jO O3.out (.inl (by omega))
       exact ⟨g5,by rw[h5];rfl⟩
      ·exact HW.out.trans (K3.out.below (by omega) (fun k hk hx=>by have:=(G2.out.lt k hx).1;omega))
     case measure=>simp[intOf];omega
    ·have HBl:=aA hbl
     clear hbl;have HO:=aA (oF HX.out (show kF p false e=true from by simp[kF,HBl.out]))
     go_wp2_with (go_at_call 220;refine (gS _ _ _ (by rw[aP];omega) (by rw[aP];omega)).mono ?_;rintro r w' ⟨rfl,rfl⟩;rw[bD,bD,HBl.out])
     go_roundw
     case rel=>exact ⟨j+1,by omega,by go_num,aA (by rw[HO.out];exact HG.out),HOb,HW⟩
     case measure=>simp[intOf];omega
   ·have hE:es.take j=es:=List.take_of_length_le (by omega)
    rw[hE]at HG hrl htl ⊢;clear hE;have HC:=aA (iN lv lc (bO es p false).length (bO es p false) wr ((HG.out.se HW.out).rd) rfl (by omega) (yQ HS.out p false))
    clear HG hrl htl;go_wp2_with fail
    refine HC.out.mono ?_;rintro r w3 ⟨g,cv,rfl,hcv,hG,hb3⟩;have GG:=aA (hG.mono hsz);have B3:=aA (aB HW.out hb3);clear hG hb3;go_wp2_with fail
    go_ret
    exact ⟨_,_,rfl,GG.out,B3.out⟩
 case true =>
  go_enter Tryz.func271,Tryz.ntmps271;go_wp2_with fail
  go_loopw [7,8] (fun v i wr=>∃ j:Nat,j≤es.length∧i=.int .i64 j∧Hid (LE w wr v (bO (es.take j) p true))∧Hid (∃ g,v.ownBlock=some g)∧Hid (Below w.heap.size w wr)) (fun _ i _=>es.length - (intOf i).toNat)
  case atStart=>exact ⟨0,Nat.zero_le _,rfl,aA (LE.made w),aA ⟨_,rfl⟩,aA (aC _ _)⟩
  case round =>
   obtain ⟨j,hj,rfl,HG,HOb,HW⟩:=hrel;obtain ⟨lv,lc,rfl⟩:=HG.out.shape;have hrl:=wI (es.take j) p true;have htl:=gN hj;have hsz:=HW.out.size;by_cases hlt:j<es.length
   ·obtain ⟨b,off,e,x,cc,rfl,hb,he,c0,c1,c2,c3,hr⟩:=HA.out.at hlt
    have HX:=aA he;have HRc:=aA hr;have hsm:=HS.out e (List.mem_of_getElem? he);have c0:=(HW.out.cell (p:=⟨b,off+j * 4,none⟩) hb).trans c0;have c1:=(HW.out.cell (p:=⟨b,off+j * 4+1,none⟩) hb).trans c1;have c2:=(HW.out.cell (p:=⟨b,off+j * 4+2,none⟩) hb).trans c2;have c3:=(HW.out.cell (p:=⟨b,off+j * 4+3,none⟩) hb).trans c3;have hm1:(bO (es.take j) p true).length+1≤maxLen:=by unfold maxLen;omega
    have hm1':((bO (es.take j) p true).length+1) * 56≤140737488355328:=by omega
    clear he hr htl hrl;cases hbl:bG e.path p
    ·have HBl:=aA hbl
     clear hbl;by_cases hq:e.path=p
     ·have hq2:=kN hq
      have HQ:=aA hq;clear hq;have HO:=aA (oF HX.out (show kF p true e=true from by simp[kF,HQ.out]))
      go_wp2_with (go_at_call 220;refine (gS _ _ _ (by rw[aP];omega) (by rw[aP];omega)).mono ?_;rintro r w' ⟨rfl,rfl⟩;rw[bD,bD,HBl.out])
      go_roundw
      case rel=>exact ⟨j+1,by omega,by go_num,aA (by rw[HO.out];exact HG.out),HOb,HW⟩
      case measure=>simp[intOf];omega
     ·have hq2:=mE hq
      have HQ:=aA hq;clear hq;have HO:=aA (uX HX.out (show kF p true e=false from by simp[kF,HBl.out];exact HQ.out))
      obtain ⟨rs,g1,g2,g3⟩:=HG.out;have G1:=aA g1;have G2:=aA g2;have G3:=aA g3;clear g1 g2 g3 HG;go_wp2_with (first | (go_at_call 220;refine (gS _ _ _ (by rw[aP];omega) (by rw[aP];omega)).mono ?_;rintro r w' ⟨rfl,rfl⟩;rw[bD,bD,HBl.out]) | (at_builtin;refine dQ rfl (.tmp 35) (.tmp 40) 40 rfl w.heap.size 87 i1 (.agg #[.string ⟨#[]⟩,.int .i64 0,.int .i64 0,.slice none 0 0]) 4 56 Tryz.underlying40 ki kz0 kz1 kz2 rfl (by decide) _ _ _ rfl G2.out _ rfl rfl rfl (by intro u hu;simp at hu;rcases hu with rfl | rfl | rfl | rfl <;> rfl) hm1 hm1' (by omega) ?_;intro av3 cv3 w3 hown2 hkept;have O3:=aA hown2;have K3:=aA hkept;clear hown2 hkept))
      go_roundw
      case rel =>
       refine ⟨j+1,by omega,by go_num,aA ?_,aA ?_,aA ?_⟩
       ·rw[HO.out]
        exact LE.push G1.out rfl G3.out HRc.out O3.out
       ·obtain ⟨g5,h5,_⟩:=jO O3.out (.inl (by omega))
        exact ⟨g5,by rw[h5];rfl⟩
       ·exact HW.out.trans (K3.out.below (by omega) (fun k hk hx=>by have:=(G2.out.lt k hx).1;omega))
      case measure=>simp[intOf];omega
    ·have HBl:=aA hbl
     clear hbl;have HO:=aA (oF HX.out (show kF p true e=true from by simp[kF,HBl.out]))
     go_wp2_with (go_at_call 220;refine (gS _ _ _ (by rw[aP];omega) (by rw[aP];omega)).mono ?_;rintro r w' ⟨rfl,rfl⟩;rw[bD,bD,HBl.out])
     go_roundw
     case rel=>exact ⟨j+1,by omega,by go_num,aA (by rw[HO.out];exact HG.out),HOb,HW⟩
     case measure=>simp[intOf];omega
   ·have hE:es.take j=es:=List.take_of_length_le (by omega)
    rw[hE]at HG hrl htl ⊢;clear hE;have HC:=aA (iN lv lc (bO es p true).length (bO es p true) wr ((HG.out.se HW.out).rd) rfl (by omega) (yQ HS.out p true))
    clear HG hrl htl;go_wp2_with fail
    refine HC.out.mono ?_;rintro r w3 ⟨g,cv,rfl,hcv,hG,hb3⟩;have GG:=aA (hG.mono hsz);have B3:=aA (aB HW.out hb3);clear hG hb3;go_wp2_with fail
    go_ret
    exact ⟨_,_,rfl,GG.out,B3.out⟩
def jB (e x:En):Bool:=!(decide (x.path=e.path))&&(bX e.kind||!(bG x.path e.path))
def iL (es:List En) (e:En):List En:=es.filter (jB e)
theorem zv4 {es:List En} {e x:En} {k:Nat} (he:es[k]?=some x) (h:jB e x=true):iL (es.take (k+1)) e=iL (es.take k) e ++ [x]:=by
 rw[cT he];simp[iL,h]
theorem zi2 {es:List En} {e x:En} {k:Nat} (he:es[k]?=some x) (h:jB e x=false):iL (es.take (k+1)) e=iL (es.take k) e:=by
 rw[cT he];simp[iL,h]
theorem vE (es:List En) (e:En):(iL es e).length≤es.length:=List.length_filter_le _ _
theorem zy7 {es:List En} (h:cG es) (e:En):cG (iL es e):=fun x hx=>h x (List.mem_filter.1 hx).1
def lV (es:List En) (p:Bs):Nat:=(es.takeWhile fun x=>Op.bytesLess x.path p).length
def gI (rs:List En) (e:En):List En:=rs.take (lV rs e.path)++e :: rs.drop (lV rs e.path)
def dC (es:List En) (e:En):List En:=gI (iL es e) e
theorem zka {bs:List En} {p:Bs} {k:Nat} (hk:k≤bs.length) (h1:(bs.take k).all (fun x=>Op.bytesLess x.path p)=true) (h2:∀ y,bs[k]?=some y→Op.bytesLess y.path p=false):lV bs p=k:=by
 have e:bs=bs.take k++bs.drop k:=(List.take_append_drop k bs).symm;have hd:(bs.drop k).takeWhile (fun x=>Op.bytesLess x.path p)=[]:=by
  cases hx:bs.drop k with
  | nil=>rfl
  | cons y r =>
   have:bs[k]?=some y:=by
    have h3:=congrArg (fun l=>l[0]?) hx
    simpa using h3
   simp[h2 y this]
 unfold lV
 conv=>lhs;rw[e]
 rw[List.takeWhile_append_of_pos (by intro x hx;exact List.all_eq_true.1 h1 x hx),hd,List.append_nil,List.length_take]
 omega
theorem eK {P:Program} {w:World} {ops:Array Oper} {rest:List Oper} {o:Oper} {a:Act} {Q:Exit→Act→World→Prop} (hgd:o.guard=none) (s x:Operand) (t:TypeId)
  (ho:o.op=.call { callee:=.builtin .append,args:=#[s,x],argTypes:=#[t,t] })
  (base:Nat) (e:TypeId) (i:TypeInfo) (z:Value) (size bytes:Nat) (ht:P.underlying t=some (.slice e)) (hi:P.info? e=some i) (hz:i.zero=some z)
  (hsize:i.size=size) (hby:i.bytes=bytes) (hzs:z.cells.size=size) (hsz:0<size)
  (v:Value) (n:Nat) (xs:List Value) (hs:a.eval s=v) (hown:w.ownsRow base e size v n xs)
  (ad:Addr) (m c:Nat) (news:List Value) (hx:a.eval x=.slice (some ad) m c) (hl:news.length=m * size) (hnews:∀ j u,news[j]?=some u→w.cell? (ad.add j)=some u) (h1:∀ u∈news,u.oneCell'=true)
  (N:Nat) (hN:n+m=N) (h63:n+m≤maxLen) (hbytes:(n+m) * bytes≤140737488355328) (hbase:base≤w.heap.size)
  (h:∀ av cv w',w'.ownsRow base e size (.slice av N cv) N (xs++news)→aD (fun b=>v.ownBlock=some b) w w'→wpList P ops Q rest (a.put o.dst (.slice av N cv)) w') :
  wpList P ops Q (o :: rest) a w:=by
 refine wpList_append_own w hgd s x t ho base e i z size bytes ht hi hz hsize hby hzs hsz v n xs hs hown ad m c news hx hl hnews h1 h63 hbytes hbase fun v' w' h2 h3 _=>?_
 rw[hN]at h2;obtain ⟨av,cv,rfl⟩:=aQ h2;exact h av cv w' h2 ⟨h3.os,h3.tape,h3.output,h3.size,fun q hq hn=>h3.block q hq (fun e=>hn e.symm)⟩
theorem bB {P:Program} {w:World} {ops:Array Oper} {o:Oper} {a:Act} {K:Act→World→Prop} {Q:Exit→Act→World→Prop} {E:Prop} (hgd:o.guard=none) (s x:Operand) (t:TypeId)
  (ho:o.op=.call { callee:=.builtin .append,args:=#[s,x],argTypes:=#[t,t] })
  (base:Nat) (e:TypeId) (i:TypeInfo) (z:Value) (size bytes:Nat) (ht:P.underlying t=some (.slice e)) (hi:P.info? e=some i) (hz:i.zero=some z)
  (hsize:i.size=size) (hby:i.bytes=bytes) (hzs:z.cells.size=size) (hsz:0<size)
  (v:Value) (n:Nat) (xs:List Value) (hs:a.eval s=v) (hown:w.ownsRow base e size v n xs)
  (ad:Addr) (m c:Nat) (news:List Value) (hx:a.eval x=.slice (some ad) m c) (hl:news.length=m * size) (hnews:∀ j u,news[j]?=some u→w.cell? (ad.add j)=some u) (h1:∀ u∈news,u.oneCell'=true)
  (N:Nat) (hN:n+m=N) (h63:n+m≤maxLen) (hbytes:(n+m) * bytes≤140737488355328) (hbase:base≤w.heap.size)
  (h:∀ av cv w',w'.ownsRow base e size (.slice av N cv) N (xs++news)→aD (fun b=>v.ownBlock=some b) w w'→K (a.put o.dst (.slice av N cv)) w') :
  if Region.wanted o (yielded ops a.tmps)=true then Oper.wp P o a w K Q else E:=by
 have hw:Region.wanted o (yielded ops a.tmps)=true:=by simp[Region.wanted,hgd]
 rw[if_pos hw];refine wp_append_own w s x t ho base e i z size bytes ht hi hz hsize hby hzs hsz v n xs hs hown ad m c news hx hl hnews h1 h63 hbytes hbase fun v' w' h2 h3 _=>?_
 rw[hN]at h2;obtain ⟨av,cv,rfl⟩:=aQ h2;exact h av cv w' h2 ⟨h3.os,h3.tape,h3.output,h3.size,fun q hq hn=>h3.block q hq (fun e=>hn e.symm)⟩
theorem eU (b o j:Nat):(⟨b,o,none⟩:Addr).add j=⟨b,o+j,none⟩:=by unfold Addr.add;split <;> simp_all
theorem uG {w w':World} {B g n c k:Nat} {rs:List Rw} (h:w.ownsRow B 87 4 (.slice (some ⟨g,0,none⟩) n c) n (aZ rs)) (hb:Below w.heap.size w w') (l:List Value) (hl:∀ j u,l[j]?=some u→(aZ rs)[k * 4+j]?=some u):∀ j u,l[j]?=some u→w'.cell? ((⟨g,k * 4,none⟩:Addr).add j)=some u:=by
 intro j u hj;rw[eU];have h1:=hl j u hj;have hlt:k * 4+j<(aZ rs).length:=(List.getElem?_eq_some_iff.1 h1).1;rw[hb.cell (p:=⟨g,k * 4+j,none⟩) (h.lt g rfl).2];rcases h.2 with ⟨h',_⟩ | ⟨g',cap,cur,h',hb',hh,hnc,hcm,hcs,htake⟩
 ·simp at h'
 ·have hlen:=h.1
  rw[h.cellAt (k * 4+j) (by rw[hlen]at hlt;exact hlt)]
  exact h1
theorem zM {w0 w5:World} {B:Nat} {rs:List Rw} {bs:List En} {e:En} {x:Option Addr} {cc k n:Nat} {v:Value} (g1:rs.map Rw.e=bs) (hk:k≤bs.length) (hn:n=bs.length+1)
  (g3:∀ r∈rs,aO .i64 w0 r.a r.e.chunks) (hx:aO .i64 w0 x e.chunks) (hb:Below w0.heap.size w0 w5)
  (ho:w5.ownsRow B 87 4 v n ((([]++aZ (rs.take k))++cA ⟨e,x,cc⟩)++aZ (rs.drop k))):SE B w5 v (bs.take k++e :: bs.drop k):=by
 subst hn;refine ⟨rs.take k++⟨e,x,cc⟩ :: rs.drop k,?_,?_,fun r hr=>?_⟩
 ·rw[List.map_append,List.map_cons,List.map_take,List.map_drop,g1]
 ·have e1:(bs.take k++e :: bs.drop k).length=bs.length+1:=by simp;omega
  rw[e1];have e2:aZ (rs.take k++⟨e,x,cc⟩ :: rs.drop k)=(([]++aZ (rs.take k))++cA ⟨e,x,cc⟩)++aZ (rs.drop k):=by
   rw[oP];simp[aZ]
  rw[e2];exact ho
 ·rcases List.mem_append.1 hr with hr | hr
  ·exact (g3 r (List.mem_of_mem_take hr)).below hb
  ·rcases List.mem_cons.1 hr with rfl | hr
   ·exact hx.below hb
   ·exact (g3 r (List.mem_of_mem_drop hr)).below hb
theorem wB {w:World} {H:Nat} {u0 u1 u2 u3:Value} {t:TypeId} (hH:w.heap.size=H):∀ j x,[u0,u1,u2,u3][j]?=some x→(w.alloc (.cells #[u0,u1,u2,u3] t)).cell? ((⟨H,0,none⟩:Addr).add j)=some x:=by
 subst hH;intro j x hj;rw[eU,Nat.zero_add,cell_of_row _ w.heap.size j #[u0,u1,u2,u3] t (0,0) (heap_alloc_new w _)];simpa using hj
theorem LE.drewN {w0 w:World} {v:Value} {es:List En} (h:LE w0 w v es) (n:Nat):LE w0 (w.drewN n) v es:=by
 obtain ⟨rs,he,h1,h2⟩:=h;exact ⟨rs,he,aG h1 (below_drewN (Below.refl _ _) n),h2⟩
theorem pC (a:Option Addr) (c n:Nat) (es:List En) (e:En) (x:Option Addr) (m cc:Nat) (w:World) (h:RdE w a es) (hn:n=es.length) (hl:es.length<1048576) (hs:cG es) (hm:m=e.chunks.length) (hr:aO .i64 w x e.chunks) (hp:e.path.length≤1048576) (hcl:e.chunks.length≤1048576) :
  Calls Tryz.prog 191 #[.slice a n c,.agg #[.string (str e.path),.int .i64 e.kind,.int .i64 e.size,.slice x m cc]] w fun r w'=>∃ g cv,r=.returned (.slice (some ⟨g,0,none⟩) (dC es e).length cv)∧GE w.heap.size w'.heap.size w' (.slice (some ⟨g,0,none⟩) (dC es e).length cv) (dC es e)∧Below w.heap.size w w':=by
 subst hn;subst hm;obtain ⟨i1,ki,kz0,kz1,kz2⟩:=info_parts Tryz.infoEn;have HS:=aA hs;go_enter Tryz.func191,Tryz.ntmps191;go_wp2_with fail
 have B0:=aA (aC w (.cells #[.string (str e.path),.int .i64 e.kind,.int .i64 e.size,.slice x e.chunks.length cc] 87));have F0:=aA (dI.new w (.string (str e.path)) (.int .i64 e.kind) (.int .i64 e.size) (.slice x e.chunks.length cc) 87);have HA:=aA (h.below B0.out);have HRx:=aA (hr.below B0.out);have HM:=aA (LE.made (w.alloc (.cells #[.string (str e.path),.int .i64 e.kind,.int .i64 e.size,.slice x e.chunks.length cc] 87)));have hsz0:(w.alloc (.cells #[.string (str e.path),.int .i64 e.kind,.int .i64 e.size,.slice x e.chunks.length cc] 87)).heap.size=w.heap.size+1:=by simp
 rw[hsz0]at HM;have hlt0:=F0.out.lt;generalize w.alloc (.cells #[.string (str e.path),.int .i64 e.kind,.int .i64 e.size,.slice x e.chunks.length cc] 87)=w0 at *;have HW0:=aA (show w.heap.size≤w0.heap.size by omega)
 have HZ0:=aA hsz0;clear h hs hr;have hw1:w.heap.size+1=w0.heap.size:=hsz0.symm;clear hsz0;rw[hw1]at HM ⊢;clear hw1;generalize w.heap.size=bk at F0 hlt0 ⊢;go_loopw [5,6] (fun v i wr=>∃ j:Nat,j≤es.length∧i=.int .i64 j∧Hid (LE w0 wr v (iL (es.take j) e))∧Hid (∃ g,v.ownBlock=some g)∧Hid (Below w0.heap.size w0 wr)) (fun _ i _=>es.length - (intOf i).toNat)
 case atStart=>exact ⟨0,Nat.zero_le _,rfl,HM,aA ⟨_,rfl⟩,aA (aC _ _)⟩
 case round =>
  obtain ⟨j,hj,rfl,HG,HOb,HW⟩:=hrel;obtain ⟨lv,lc,rfl⟩:=HG.out.shape;have hrl:=vE (es.take j) e;have htl:=gN hj;have hsz:=HW.out.size;have F1:=(HW.out.cell (p:=⟨bk,0+1,none⟩) hlt0).trans F0.out.2.1;have F2:=(HW.out.cell (p:=⟨bk,0,none⟩) hlt0).trans F0.out.1;by_cases hlt:j<es.length
  ·obtain ⟨b,off,y,xx,c2,rfl,hb,he,c0,c1,c2,c3,hr⟩:=HA.out.at hlt
   have HX:=aA he;have HRc:=aA hr;have hsm:=HS.out y (List.mem_of_getElem? he);have HD:=aA (And.intro c0 (And.intro c1 (And.intro c2 c3)));have c0:=(HW.out.cell (p:=⟨b,off+j * 4,none⟩) hb).trans c0;have c1:=(HW.out.cell (p:=⟨b,off+j * 4+1,none⟩) hb).trans c1;have c2:=(HW.out.cell (p:=⟨b,off+j * 4+2,none⟩) hb).trans c2;have c3:=(HW.out.cell (p:=⟨b,off+j * 4+3,none⟩) hb).trans c3;have hm1:(iL (es.take j) e).length+1≤maxLen:=by unfold maxLen;omega
   have hm1':((iL (es.take j) e).length+1) * 56≤140737488355328:=by omega
   clear he hr htl hrl;by_cases hq:y.path=e.path
   ·have hq2:=kN hq
    have HO:=aA (zi2 HX.out (show jB e y=false from by simp[jB,hq]))
    clear hq;go_wp2_with fail
    go_quiet (first | (go_at_call 190;refine Calls.quiet_of ((cX bk 0 e.kind _ ?_).mono (fun r w' ⟨he,hw⟩=>⟨by rw[HDk.out]at he;exact he,0,hw⟩));exact F1) | (go_at_call 220;exact Calls.quiet_of ((gS _ _ _ (by rw[aP];omega) (by rw[aP];omega)).mono (fun r w' ⟨he,hw⟩=>⟨by rw[bD,bD,HBl.out]at he;exact he,0,hw⟩))))
    go_wp2_with fail
    go_roundw
    case rel=>exact ⟨j+1,by omega,by go_num,aA (by rw[HO.out];exact HG.out.drewN nq),HOb,aA (below_drewN HW.out nq)⟩
    case measure=>simp[intOf];omega
   ·have hq2:=mE hq
    cases hd:bX e.kind
    ·cases hbl:bG y.path e.path
     ·have HO:=aA (zv4 HX.out (show jB e y=true from by simp[jB,hq,hd,hbl]))
      have HDk:=aA hd;have HBl:=aA hbl;clear hq hd hbl;go_wp2_with fail
      go_quiet (first | (go_at_call 190;refine Calls.quiet_of ((cX bk 0 e.kind _ ?_).mono (fun r w' ⟨he,hw⟩=>⟨by rw[HDk.out]at he;exact he,0,hw⟩));exact F1) | (go_at_call 220;exact Calls.quiet_of ((gS _ _ _ (by rw[aP];omega) (by rw[aP];omega)).mono (fun r w' ⟨he,hw⟩=>⟨by rw[bD,bD,HBl.out]at he;exact he,0,hw⟩))))
      have HW2:=aA (below_drewN HW.out nq);have HG2:=aA (HG.out.drewN nq);clear HG c0 c1 c2 c3 F1 F2;generalize wr.drewN nq=W at HW2 HG2 ⊢;obtain ⟨d0,d1,d2,d3⟩:=HD.out;have c0:=(HW2.out.cell (p:=⟨b,off+j * 4,none⟩) hb).trans d0;have c1:=(HW2.out.cell (p:=⟨b,off+j * 4+1,none⟩) hb).trans d1;have c2:=(HW2.out.cell (p:=⟨b,off+j * 4+2,none⟩) hb).trans d2;have c3:=(HW2.out.cell (p:=⟨b,off+j * 4+3,none⟩) hb).trans d3;have hsz2:=HW2.out.size;obtain ⟨rs,g1,g2,g3⟩:=HG2.out;have G1:=aA g1;have G2:=aA g2;have G3:=aA g3;clear g1 g2 g3 HG2 d0 d1 d2 d3;go_wp2_with (at_builtin;refine dQ rfl (.tmp 38) (.tmp 43) 40 rfl w0.heap.size 87 i1 (.agg #[.string ⟨#[]⟩,.int .i64 0,.int .i64 0,.slice none 0 0]) 4 56 Tryz.underlying40 ki kz0 kz1 kz2 rfl (by decide) _ _ _ rfl G2.out _ rfl rfl rfl (by intro u hu;simp at hu;rcases hu with rfl | rfl | rfl | rfl <;> rfl) hm1 hm1' (by omega) ?_;intro av3 cv3 w3 hown2 hkept;have O3:=aA hown2;have K3:=aA hkept;clear hown2 hkept)
      go_roundw
      case rel =>
       refine ⟨j+1,by omega,by go_num,aA ?_,aA ?_,aA ?_⟩
       ·rw[HO.out]
        exact LE.push G1.out rfl G3.out HRc.out O3.out
       ·obtain ⟨g5,h5,_⟩:=jO O3.out (.inl (by omega))
        exact ⟨g5,by rw[h5];rfl⟩
       ·exact HW2.out.trans (K3.out.below (by omega) (fun k hk hx=>by have:=(G2.out.lt k hx).1;omega))
      case measure=>simp[intOf];omega
     ·have HO:=aA (zi2 HX.out (show jB e y=false from by simp[jB,hq,hd,hbl]))
      have HDk:=aA hd;have HBl:=aA hbl;clear hq hd hbl;go_wp2_with fail
      go_quiet (first | (go_at_call 190;refine Calls.quiet_of ((cX bk 0 e.kind _ ?_).mono (fun r w' ⟨he,hw⟩=>⟨by rw[HDk.out]at he;exact he,0,hw⟩));exact F1) | (go_at_call 220;exact Calls.quiet_of ((gS _ _ _ (by rw[aP];omega) (by rw[aP];omega)).mono (fun r w' ⟨he,hw⟩=>⟨by rw[bD,bD,HBl.out]at he;exact he,0,hw⟩))))
      go_wp2_with fail
      go_roundw
      case rel=>exact ⟨j+1,by omega,by go_num,aA (by rw[HO.out];exact HG.out.drewN nq),HOb,aA (below_drewN HW.out nq)⟩
      case measure=>simp[intOf];omega
    ·have HO:=aA (zv4 HX.out (show jB e y=true from by simp[jB,hq,hd]))
     have HDk:=aA hd;clear hq hd;go_wp2_with fail
     go_quiet (first | (go_at_call 190;refine Calls.quiet_of ((cX bk 0 e.kind _ ?_).mono (fun r w' ⟨he,hw⟩=>⟨by rw[HDk.out]at he;exact he,0,hw⟩));exact F1) | (go_at_call 220;exact Calls.quiet_of ((gS _ _ _ (by rw[aP];omega) (by rw[aP];omega)).mono (fun r w' ⟨he,hw⟩=>⟨by rw[bD,bD,HBl.out]at he;exact he,0,hw⟩))))
     have HW2:=aA (below_drewN HW.out nq);have HG2:=aA (HG.out.drewN nq);clear HG c0 c1 c2 c3 F1 F2;generalize wr.drewN nq=W at HW2 HG2 ⊢;obtain ⟨d0,d1,d2,d3⟩:=HD.out;have c0:=(HW2.out.cell (p:=⟨b,off+j * 4,none⟩) hb).trans d0;have c1:=(HW2.out.cell (p:=⟨b,off+j * 4+1,none⟩) hb).trans d1;have c2:=(HW2.out.cell (p:=⟨b,off+j * 4+2,none⟩) hb).trans d2;have c3:=(HW2.out.cell (p:=⟨b,off+j * 4+3,none⟩) hb).trans d3;have hsz2:=HW2.out.size;obtain ⟨rs,g1,g2,g3⟩:=HG2.out;have G1:=aA g1;have G2:=aA g2;have G3:=aA g3;clear g1 g2 g3 HG2 d0 d1 d2 d3;go_wp2_with (at_builtin;refine dQ rfl (.tmp 38) (.tmp 43) 40 rfl w0.heap.size 87 i1 (.agg #[.string ⟨#[]⟩,.int .i64 0,.int .i64 0,.slice none 0 0]) 4 56 Tryz.underlying40 ki kz0 kz1 kz2 rfl (by decide) _ _ _ rfl G2.out _ rfl rfl rfl (by intro u hu;simp at hu;rcases hu with rfl | rfl | rfl | rfl <;> rfl) hm1 hm1' (by omega) ?_;intro av3 cv3 w3 hown2 hkept;have O3:=aA hown2;have K3:=aA hkept;clear hown2 hkept)
     go_roundw
     case rel =>
      refine ⟨j+1,by omega,by go_num,aA ?_,aA ?_,aA ?_⟩
      ·rw[HO.out]
       exact LE.push G1.out rfl G3.out HRc.out O3.out
      ·obtain ⟨g5,h5,_⟩:=jO O3.out (.inl (by omega))
       exact ⟨g5,by rw[h5];rfl⟩
      ·exact HW2.out.trans (K3.out.below (by omega) (fun k hk hx=>by have:=(G2.out.lt k hx).1;omega))
     case measure=>simp[intOf];omega
  ·have hE:es.take j=es:=List.take_of_length_le (by omega)
   rw[hE]at HG HOb hrl htl ⊢;clear hE;have HBS:=aA (zy7 HS.out e);have hbl:(iL es e).length<1048576:=by omega
   have HPU:=aA (show dC es e=gI (iL es e) e from rfl)
   generalize iL es e=bs at *;obtain ⟨g5,h5,h6⟩:∃ g,lv=some ⟨g,0,none⟩∧bs.length≤lc:=by
    obtain ⟨rs,_,h1,_⟩:=HG.out;exact jO h1 (.inr HOb.out)
   subst h5;have HRd:=aA ((HG.out.se HW.out).rd);clear hrl htl;go_wp2_with fail
   obtain ⟨W1,hW1⟩:∃ W1,W1=wr:=⟨_,rfl⟩;subst hW1;have hlt1:bk<W1.heap.size:=by omega
   go_loopw [7] (fun i w2=>∃ k:Nat,k≤bs.length∧i=.int .i64 k∧Hid ((bs.take k).all (fun x=>Op.bytesLess x.path e.path)=true)∧Hid (Below W1.heap.size W1 w2)) (fun i _=>bs.length - (intOf i).toNat)
   case atStart=>exact ⟨0,Nat.zero_le _,rfl,aA (by simp),aA (Below.refl _ _)⟩
   case round =>
    obtain ⟨k,hk,rfl,HL,HW2⟩:=hrel;have F3:=(HW2.out.cell (p:=⟨bk,0,none⟩) hlt1).trans F2;by_cases hlt:k<bs.length
    ·obtain ⟨b,off,y,xx,c2,hbb,hb,he,c0,c1,c2,c3,hr⟩:=HRd.out.at hlt
     simp only[Option.some.injEq,Addr.mk.injEq,and_true]at hbb;obtain ⟨rfl,rfl⟩:=hbb;have c0:=(HW2.out.cell (p:=⟨g5,0+k * 4,none⟩) hb).trans c0;rw[Nat.zero_add]at c0;have HX:=aA he;clear he hr c1 c2 c3;cases hlo:Op.bytesLess (str y.path).toList (str e.path).toList
     ·have HLk:=aA (zka hk HL.out (fun y' hy'=>by rw[HX.out]at hy';cases hy';rw[aN,aN]at hlo;exact hlo))
      go_wp2_with fail
      go_quiet (fail)
      have HWk:=aA (below_drewN HW2.out nq);clear c0 HW2 F3;generalize wr.drewN nq=W2 at HWk ⊢;have HPU2:Hid (dC es e=bs.take k++e :: bs.drop k):=by have:=HPU.out;unfold gI at this;rw[HLk.out]at this;exact this
      obtain ⟨rs,g1,g2,g3⟩:=HG.out;have G1:=aA g1;have G2:=aA g2;have G3:=aA g3;have hrsl:rs.length=bs.length:=by rw[←g1,List.length_map]
      clear g1 g2 g3 HG HRd;have hsW:=HWk.out.size;have OWN0:Hid ((W2.alloc (.cells #[] 87)).ownsRow W2.heap.size 87 4 (.slice (some ⟨W2.heap.size,0,none⟩) 0 0) 0 []):=World.ownsRow_made W2 #[] 0 (Nat.le_refl _) (Nat.zero_le _) rfl;have NEWS0:Hid (∀ j u,(aZ (rs.take k))[j]?=some u→(W2.alloc (.cells #[] 87)).cell? ((⟨g5,0,none⟩:Addr).add j)=some u):=aA (by
       have:=uG (k:=0) G2.out (aB HWk.out (aC W2 (.cells #[] 87))) (aZ (rs.take k)) (fun j u hj=>by
        rw[←wL]at hj;rw[Nat.zero_mul,Nat.zero_add];rw[List.getElem?_take]at hj;split at hj
        ·exact hj
        ·cases hj)
       simpa using this)
      have hln0:(aZ (rs.take k)).length=k * 4:=by rw[eJ,List.length_take];congr 1;omega
      have hm0:0+k≤maxLen:=by unfold maxLen;omega
      have hm0':(0+k) * 56≤140737488355328:=by omega
      have hkc:(k:Int)≤(lc:Int):=by omega
      go_wp2_with (at_builtin;refine eK rfl (.tmp 61) (.tmp 64) 40 rfl W2.heap.size 87 i1 (.agg #[.string ⟨#[]⟩,.int .i64 0,.int .i64 0,.slice none 0 0]) 4 56 Tryz.underlying40 ki kz0 kz1 kz2 rfl (by decide) (.slice (some ⟨W2.heap.size,0,none⟩) 0 0) 0 [] rfl OWN0.out ⟨g5,0,none⟩ k lc (aZ (rs.take k)) rfl hln0 NEWS0.out (jN _) k (by simp) hm0 hm0' (by simp) ?_;intro av3 cv3 w3 hown3 hk3;have O3:=aA hown3;have K3:=aA hk3;clear hown3 hk3)
      have BW3:=aA ((aC W2 (.cells #[] 87)).trans (K3.out.below (by simp) (fun q hq hS=>by simp[Value.ownBlock]at hS;omega)))
      have BW2:=aA (aB HW.out HWk.out);have B3:=aA (aB BW2.out BW3.out);have hs3:=BW3.out.size;have KC:Hid (∀ w5:World,Below W2.heap.size W2 w5→w5.cell? ⟨bk,0,none⟩=some (.string (str e.path))∧w5.cell? ⟨bk,1,none⟩=some (.int .i64 e.kind)∧w5.cell? ⟨bk,2,none⟩=some (.int .i64 e.size)∧w5.cell? ⟨bk,3,none⟩=some (.slice x e.chunks.length cc)):=fun w5 hb5=>⟨((aB BW2.out hb5).cell (p:=⟨bk,0,none⟩) hlt0).trans F0.out.1,((aB BW2.out hb5).cell (p:=⟨bk,1,none⟩) hlt0).trans F0.out.2.1,((aB BW2.out hb5).cell (p:=⟨bk,2,none⟩) hlt0).trans F0.out.2.2.1,((aB BW2.out hb5).cell (p:=⟨bk,3,none⟩) hlt0).trans F0.out.2.2.2⟩
      have p0:=(B3.out.cell (p:=⟨bk,0,none⟩) hlt0).trans F0.out.1;have p1:=(B3.out.cell (p:=⟨bk,1,none⟩) hlt0).trans F0.out.2.1;have p2:=(B3.out.cell (p:=⟨bk,2,none⟩) hlt0).trans F0.out.2.2.1;have p3:=(B3.out.cell (p:=⟨bk,3,none⟩) hlt0).trans F0.out.2.2.2;have OWN1:Hid ((w3.alloc (.cells #[.string (str e.path),.int .i64 e.kind,.int .i64 e.size,.slice x e.chunks.length cc] 87)).drew.ownsRow W2.heap.size 87 4 (.slice av3 k cv3) k ([]++aZ (rs.take k))):=aG O3.out (aC _ _).drew;have NEWS1:Hid (∀ j u,(cA ⟨e,x,cc⟩)[j]?=some u→(w3.alloc (.cells #[.string (str e.path),.int .i64 e.kind,.int .i64 e.size,.slice x e.chunks.length cc] 87)).drew.cell? ((⟨w3.heap.size,0,none⟩:Addr).add j)=some u):=wB (t:=87) rfl
      have hnl:(aZ (rs.drop k)).length=(bs.length - k) * 4:=by rw[eJ,List.length_drop,hrsl]
      have hm1:k+1≤maxLen:=by unfold maxLen;omega
      have hm1':(k+1) * 56≤140737488355328:=by omega
      have hk1':k+1+(bs.length - k)=bs.length+1:=by omega
      have hm2:k+1+(bs.length - k)≤maxLen:=by unfold maxLen;omega
      have hm2':(k+1+(bs.length - k)) * 56≤140737488355328:=by omega
      have HLn:=aA (show bs.length+1=(bs.take k++e :: bs.drop k).length from by simp;omega)
      have HSm:=aA (show cG (bs.take k++e :: bs.drop k) from fun y hy=>by
       rcases List.mem_append.1 hy with hy | hy
       ·exact HBS.out y (List.mem_of_mem_take hy)
       ·rcases List.mem_cons.1 hy with rfl | hy
        ·exact ⟨hp,hcl⟩
        ·exact HBS.out y (List.mem_of_mem_drop hy))
      have hkc2:(k:Int)≤(bs.length:Int):=by omega
      have hbc:(bs.length:Int)≤(lc:Int):=by omega
      by_cases hck:lc=k
      ·exact absurd hck (by omega)
      ·have hck2:¬ k=lc:=fun e=>hck e.symm
       have NEWS2:Hid (∀ w5:World,Below W2.heap.size W2 w5→∀ j u,(aZ (rs.drop k))[j]?=some u→w5.cell? ((⟨g5,k * 4,none⟩:Addr).add j)=some u):=fun w5 hb5=>uG (k:=k) G2.out (aB HWk.out hb5) (aZ (rs.drop k)) (fun j u hj=>by rw[←rT,List.getElem?_drop]at hj;exact hj)
       go_region_held3 (fun w'=>w'.cell? ⟨bk,0,none⟩=some (.string (str e.path))∧w'.cell? ⟨bk,1,none⟩=some (.int .i64 e.kind)∧w'.cell? ⟨bk,2,none⟩=some (.int .i64 e.size)∧w'.cell? ⟨bk,3,none⟩=some (.slice x e.chunks.length cc)) (first | exact KC.out _ BB4.out | exact KC.out _ BB5.out | exact KC.out _ B6.out | go_keep)
        ((
         first
         | (refine bB (by rfl) (.tmp 66) (.tmp 68) 40 (by rfl) W2.heap.size 87 i1 (.agg #[.string ⟨#[]⟩,.int .i64 0,.int .i64 0,.slice none 0 0]) 4 56 Tryz.underlying40 ki kz0 kz1 kz2 rfl (by decide) (.slice av3 k cv3) k ([]++aZ (rs.take k)) (by rfl) OWN1.out ⟨w3.heap.size,0,none⟩ 1 1 (cA ⟨e,x,cc⟩) (by rfl) (by rfl) NEWS1.out (jN [⟨e,x,cc⟩]) (k+1) rfl hm1 hm1' (by simp;omega) ?_;intro av4 cv4 w4 hown4 hk4;have O4:=aA hown4;have BB4:=aA (BW3.out.trans ((((aD.refl (fun q=>(Value.slice av3 k cv3).ownBlock=some q) w3).alloc _).drew.trans hk4).below hs3 (fun q hq hS=>by have:=(O3.out.lt q hS).1;omega)));clear hown4 hk4)
         | (refine bB (by rfl) (.tmp 69) (.tmp 72) 40 (by rfl) W2.heap.size 87 i1 (.agg #[.string ⟨#[]⟩,.int .i64 0,.int .i64 0,.slice none 0 0]) 4 56 Tryz.underlying40 ki kz0 kz1 kz2 rfl (by decide) (.slice av4 (k+1) cv4) (k+1) (([]++aZ (rs.take k))++cA ⟨e,x,cc⟩) (by rfl) O4.out ⟨g5,k * 4,none⟩ (bs.length - k) (lc - k) (aZ (rs.drop k)) (by rfl) hnl (NEWS2.out w4 BB4.out) (jN _) (bs.length+1) hk1' hm2 hm2' BB4.out.size ?_;intro av5 cv5 w5 hown5 hk5;have O5:=aA hown5;have BB5:=aA (BB4.out.trans (hk5.below BB4.out.size (fun q hq hS=>by have:=(O4.out.lt q hS).1;omega)));have RD5:=aA ((zM G1.out hk rfl G3.out HRx.out (aB BW2.out BB5.out) hown5).rd);clear hown5 hk5)
         | (go_at_call 132;refine (iN av5 cv5 (bs.length+1) _ w5 RD5.out HLn.out (by rw[←HLn.out];omega) HSm.out).mono ?_;rintro r w6 ⟨g6,cv6,rfl,hcv6,hG6,hb6⟩;have GG6:=aA (hG6.mono BB5.out.size);have B6:=aA (aB BB5.out hb6);clear hG6 hb6)))
       have hpl:(dC es e).length=bs.length+1:=by rw[HPU2.out];exact HLn.out.symm
       have HPL:=aA hpl;clear hpl;go_wp2_with fail
       go_ret
       have hz0:=HW0.out;have hz1:=BW2.out.size;exact ⟨g6,cv6,by rw[HPL.out];rfl,by rw[HPL.out,HPU2.out];exact GG6.out.mono (by omega),aB B0.out (aB BW2.out B6.out)⟩
     ·have HLk:=aA (show (bs.take (k+1)).all (fun x=>Op.bytesLess x.path e.path)=true from by
       rw[aN,aN]at hlo;rw[cT HX.out];simp only[List.all_append,HL.out,List.all_cons,hlo,List.all_nil,Bool.and_self])
      go_wp2_with fail
      go_quiet (fail)
      go_wp2_with fail
      go_roundw
      case rel=>exact ⟨k+1,by omega,by go_num,HLk,aA (below_drewN HW2.out nq)⟩
      case measure=>simp[intOf];omega
    ·have HLk:=aA (zka hk HL.out (fun y' hy'=>by have:=(List.getElem?_eq_some_iff.1 hy').1;omega))
     go_wp2_with fail
     go_quiet (fail)
     have HWk:=aA (below_drewN HW2.out nq);clear HW2 F3;generalize wr.drewN nq=W2 at HWk ⊢;have HPU2:Hid (dC es e=bs.take k++e :: bs.drop k):=by have:=HPU.out;unfold gI at this;rw[HLk.out]at this;exact this
     obtain ⟨rs,g1,g2,g3⟩:=HG.out;have G1:=aA g1;have G2:=aA g2;have G3:=aA g3;have hrsl:rs.length=bs.length:=by rw[←g1,List.length_map]
     clear g1 g2 g3 HG HRd;have hsW:=HWk.out.size;have OWN0:Hid ((W2.alloc (.cells #[] 87)).ownsRow W2.heap.size 87 4 (.slice (some ⟨W2.heap.size,0,none⟩) 0 0) 0 []):=World.ownsRow_made W2 #[] 0 (Nat.le_refl _) (Nat.zero_le _) rfl;have NEWS0:Hid (∀ j u,(aZ (rs.take k))[j]?=some u→(W2.alloc (.cells #[] 87)).cell? ((⟨g5,0,none⟩:Addr).add j)=some u):=aA (by
      have:=uG (k:=0) G2.out (aB HWk.out (aC W2 (.cells #[] 87))) (aZ (rs.take k)) (fun j u hj=>by
       rw[←wL]at hj;rw[Nat.zero_mul,Nat.zero_add];rw[List.getElem?_take]at hj;split at hj
       ·exact hj
       ·cases hj)
      simpa using this)
     have hln0:(aZ (rs.take k)).length=k * 4:=by rw[eJ,List.length_take];congr 1;omega
     have hm0:0+k≤maxLen:=by unfold maxLen;omega
     have hm0':(0+k) * 56≤140737488355328:=by omega
     have hkc:(k:Int)≤(lc:Int):=by omega
     go_wp2_with (at_builtin;refine eK rfl (.tmp 61) (.tmp 64) 40 rfl W2.heap.size 87 i1 (.agg #[.string ⟨#[]⟩,.int .i64 0,.int .i64 0,.slice none 0 0]) 4 56 Tryz.underlying40 ki kz0 kz1 kz2 rfl (by decide) (.slice (some ⟨W2.heap.size,0,none⟩) 0 0) 0 [] rfl OWN0.out ⟨g5,0,none⟩ k lc (aZ (rs.take k)) rfl hln0 NEWS0.out (jN _) k (by simp) hm0 hm0' (by simp) ?_;intro av3 cv3 w3 hown3 hk3;have O3:=aA hown3;have K3:=aA hk3;clear hown3 hk3)
     have BW3:=aA ((aC W2 (.cells #[] 87)).trans (K3.out.below (by simp) (fun q hq hS=>by simp[Value.ownBlock]at hS;omega)))
     have BW2:=aA (aB HW.out HWk.out);have B3:=aA (aB BW2.out BW3.out);have hs3:=BW3.out.size;have KC:Hid (∀ w5:World,Below W2.heap.size W2 w5→w5.cell? ⟨bk,0,none⟩=some (.string (str e.path))∧w5.cell? ⟨bk,1,none⟩=some (.int .i64 e.kind)∧w5.cell? ⟨bk,2,none⟩=some (.int .i64 e.size)∧w5.cell? ⟨bk,3,none⟩=some (.slice x e.chunks.length cc)):=fun w5 hb5=>⟨((aB BW2.out hb5).cell (p:=⟨bk,0,none⟩) hlt0).trans F0.out.1,((aB BW2.out hb5).cell (p:=⟨bk,1,none⟩) hlt0).trans F0.out.2.1,((aB BW2.out hb5).cell (p:=⟨bk,2,none⟩) hlt0).trans F0.out.2.2.1,((aB BW2.out hb5).cell (p:=⟨bk,3,none⟩) hlt0).trans F0.out.2.2.2⟩
     have p0:=(B3.out.cell (p:=⟨bk,0,none⟩) hlt0).trans F0.out.1;have p1:=(B3.out.cell (p:=⟨bk,1,none⟩) hlt0).trans F0.out.2.1;have p2:=(B3.out.cell (p:=⟨bk,2,none⟩) hlt0).trans F0.out.2.2.1;have p3:=(B3.out.cell (p:=⟨bk,3,none⟩) hlt0).trans F0.out.2.2.2;have OWN1:Hid ((w3.alloc (.cells #[.string (str e.path),.int .i64 e.kind,.int .i64 e.size,.slice x e.chunks.length cc] 87)).drew.ownsRow W2.heap.size 87 4 (.slice av3 k cv3) k ([]++aZ (rs.take k))):=aG O3.out (aC _ _).drew;have NEWS1:Hid (∀ j u,(cA ⟨e,x,cc⟩)[j]?=some u→(w3.alloc (.cells #[.string (str e.path),.int .i64 e.kind,.int .i64 e.size,.slice x e.chunks.length cc] 87)).drew.cell? ((⟨w3.heap.size,0,none⟩:Addr).add j)=some u):=wB (t:=87) rfl
     have hnl:(aZ (rs.drop k)).length=(bs.length - k) * 4:=by rw[eJ,List.length_drop,hrsl]
     have hm1:k+1≤maxLen:=by unfold maxLen;omega
     have hm1':(k+1) * 56≤140737488355328:=by omega
     have hk1':k+1+(bs.length - k)=bs.length+1:=by omega
     have hm2:k+1+(bs.length - k)≤maxLen:=by unfold maxLen;omega
     have hm2':(k+1+(bs.length - k)) * 56≤140737488355328:=by omega
     have HLn:=aA (show bs.length+1=(bs.take k++e :: bs.drop k).length from by simp;omega)
     have HSm:=aA (show cG (bs.take k++e :: bs.drop k) from fun y hy=>by
      rcases List.mem_append.1 hy with hy | hy
      ·exact HBS.out y (List.mem_of_mem_take hy)
      ·rcases List.mem_cons.1 hy with rfl | hy
       ·exact ⟨hp,hcl⟩
       ·exact HBS.out y (List.mem_of_mem_drop hy))
     have hkc2:(k:Int)≤(bs.length:Int):=by omega
     have hbc:(bs.length:Int)≤(lc:Int):=by omega
     by_cases hck:lc=k
     ·obtain rfl:k=lc:=hck.symm
      have hck3:k=bs.length:=by omega
      have hnl0:(aZ (rs.drop k)).length=0 * 4:=by rw[eJ,List.length_drop,hrsl];omega
      have hk0:k+1+0=bs.length+1:=by omega
      have hm3:k+1+0≤maxLen:=by omega
      have hm3':(k+1+0) * 56≤140737488355328:=by omega
      have HCK:=aA hck3;clear hck3;have NEWS2:Hid (∀ w5:World,Below W2.heap.size W2 w5→∀ j u,(aZ (rs.drop k))[j]?=some u→w5.cell? ((⟨g5,0,none⟩:Addr).add j)=some u):=fun w5 hb5 j u hj=>by rw[←rT,List.drop_eq_nil_of_le (by rw[eJ];omega)]at hj;simp at hj
      go_region_held3 (fun w'=>w'.cell? ⟨bk,0,none⟩=some (.string (str e.path))∧w'.cell? ⟨bk,1,none⟩=some (.int .i64 e.kind)∧w'.cell? ⟨bk,2,none⟩=some (.int .i64 e.size)∧w'.cell? ⟨bk,3,none⟩=some (.slice x e.chunks.length cc)) (first | exact KC.out _ BB4.out | exact KC.out _ BB5.out | exact KC.out _ B6.out | go_keep)
       ((
        first
        | (refine bB (by rfl) (.tmp 66) (.tmp 68) 40 (by rfl) W2.heap.size 87 i1 (.agg #[.string ⟨#[]⟩,.int .i64 0,.int .i64 0,.slice none 0 0]) 4 56 Tryz.underlying40 ki kz0 kz1 kz2 rfl (by decide) (.slice av3 k cv3) k ([]++aZ (rs.take k)) (by rfl) OWN1.out ⟨w3.heap.size,0,none⟩ 1 1 (cA ⟨e,x,cc⟩) (by rfl) (by rfl) NEWS1.out (jN [⟨e,x,cc⟩]) (k+1) rfl hm1 hm1' (by simp;omega) ?_;intro av4 cv4 w4 hown4 hk4;have O4:=aA hown4;have BB4:=aA (BW3.out.trans ((((aD.refl (fun q=>(Value.slice av3 k cv3).ownBlock=some q) w3).alloc _).drew.trans hk4).below hs3 (fun q hq hS=>by have:=(O3.out.lt q hS).1;omega)));clear hown4 hk4)
        | (refine bB (by rfl) (.tmp 69) (.tmp 72) 40 (by rfl) W2.heap.size 87 i1 (.agg #[.string ⟨#[]⟩,.int .i64 0,.int .i64 0,.slice none 0 0]) 4 56 Tryz.underlying40 ki kz0 kz1 kz2 rfl (by decide) (.slice av4 (k+1) cv4) (k+1) (([]++aZ (rs.take k))++cA ⟨e,x,cc⟩) (by rfl) O4.out ⟨g5,0,none⟩ 0 0 (aZ (rs.drop k)) (by rfl) hnl0 (NEWS2.out w4 BB4.out) (jN _) (bs.length+1) hk0 hm3 hm3' BB4.out.size ?_;intro av5 cv5 w5 hown5 hk5;have O5:=aA hown5;have BB5:=aA (BB4.out.trans (hk5.below BB4.out.size (fun q hq hS=>by have:=(O4.out.lt q hS).1;omega)));have RD5:=aA ((zM G1.out hk rfl G3.out HRx.out (aB BW2.out BB5.out) hown5).rd);clear hown5 hk5)
        | (go_at_call 132;refine (iN av5 cv5 (bs.length+1) _ w5 RD5.out HLn.out (by rw[←HLn.out];omega) HSm.out).mono ?_;rintro r w6 ⟨g6,cv6,rfl,hcv6,hG6,hb6⟩;have GG6:=aA (hG6.mono BB5.out.size);have B6:=aA (aB BB5.out hb6);clear hG6 hb6)))
      have hpl:(dC es e).length=bs.length+1:=by rw[HPU2.out];exact HLn.out.symm
      have HPL:=aA hpl;clear hpl;go_wp2_with fail
      go_ret
      have hz0:=HW0.out;have hz1:=BW2.out.size;exact ⟨g6,cv6,by rw[HPL.out];rfl,by rw[HPL.out,HPU2.out];exact GG6.out.mono (by omega),aB B0.out (aB BW2.out B6.out)⟩
     ·have hck2:¬ k=lc:=fun e=>hck e.symm
      have NEWS2:Hid (∀ w5:World,Below W2.heap.size W2 w5→∀ j u,(aZ (rs.drop k))[j]?=some u→w5.cell? ((⟨g5,k * 4,none⟩:Addr).add j)=some u):=fun w5 hb5=>uG (k:=k) G2.out (aB HWk.out hb5) (aZ (rs.drop k)) (fun j u hj=>by rw[←rT,List.getElem?_drop]at hj;exact hj)
      go_region_held3 (fun w'=>w'.cell? ⟨bk,0,none⟩=some (.string (str e.path))∧w'.cell? ⟨bk,1,none⟩=some (.int .i64 e.kind)∧w'.cell? ⟨bk,2,none⟩=some (.int .i64 e.size)∧w'.cell? ⟨bk,3,none⟩=some (.slice x e.chunks.length cc)) (first | exact KC.out _ BB4.out | exact KC.out _ BB5.out | exact KC.out _ B6.out | go_keep)
       ((
        first
        | (refine bB (by rfl) (.tmp 66) (.tmp 68) 40 (by rfl) W2.heap.size 87 i1 (.agg #[.string ⟨#[]⟩,.int .i64 0,.int .i64 0,.slice none 0 0]) 4 56 Tryz.underlying40 ki kz0 kz1 kz2 rfl (by decide) (.slice av3 k cv3) k ([]++aZ (rs.take k)) (by rfl) OWN1.out ⟨w3.heap.size,0,none⟩ 1 1 (cA ⟨e,x,cc⟩) (by rfl) (by rfl) NEWS1.out (jN [⟨e,x,cc⟩]) (k+1) rfl hm1 hm1' (by simp;omega) ?_;intro av4 cv4 w4 hown4 hk4;have O4:=aA hown4;have BB4:=aA (BW3.out.trans ((((aD.refl (fun q=>(Value.slice av3 k cv3).ownBlock=some q) w3).alloc _).drew.trans hk4).below hs3 (fun q hq hS=>by have:=(O3.out.lt q hS).1;omega)));clear hown4 hk4)
        | (refine bB (by rfl) (.tmp 69) (.tmp 72) 40 (by rfl) W2.heap.size 87 i1 (.agg #[.string ⟨#[]⟩,.int .i64 0,.int .i64 0,.slice none 0 0]) 4 56 Tryz.underlying40 ki kz0 kz1 kz2 rfl (by decide) (.slice av4 (k+1) cv4) (k+1) (([]++aZ (rs.take k))++cA ⟨e,x,cc⟩) (by rfl) O4.out ⟨g5,k * 4,none⟩ (bs.length - k) (lc - k) (aZ (rs.drop k)) (by rfl) hnl (NEWS2.out w4 BB4.out) (jN _) (bs.length+1) hk1' hm2 hm2' BB4.out.size ?_;intro av5 cv5 w5 hown5 hk5;have O5:=aA hown5;have BB5:=aA (BB4.out.trans (hk5.below BB4.out.size (fun q hq hS=>by have:=(O4.out.lt q hS).1;omega)));have RD5:=aA ((zM G1.out hk rfl G3.out HRx.out (aB BW2.out BB5.out) hown5).rd);clear hown5 hk5)
        | (go_at_call 132;refine (iN av5 cv5 (bs.length+1) _ w5 RD5.out HLn.out (by rw[←HLn.out];omega) HSm.out).mono ?_;rintro r w6 ⟨g6,cv6,rfl,hcv6,hG6,hb6⟩;have GG6:=aA (hG6.mono BB5.out.size);have B6:=aA (aB BB5.out hb6);clear hG6 hb6)))
      have hpl:(dC es e).length=bs.length+1:=by rw[HPU2.out];exact HLn.out.symm
      have HPL:=aA hpl;clear hpl;go_wp2_with fail
      go_ret
      have hz0:=HW0.out;have hz1:=BW2.out.size;exact ⟨g6,cv6,by rw[HPL.out];rfl,by rw[HPL.out,HPU2.out];exact GG6.out.mono (by omega),aB B0.out (aB BW2.out B6.out)⟩
theorem xV {P:Program} {wr:World} {ops:Array Oper} {rest:List Oper} {o:Oper} {a:Act} {Q:Exit→Act→World→Prop} (hgd:o.guard=none) (s x:Operand) (t:TypeId)
  (ho:o.op=.call { callee:=.builtin .append,args:=#[s,x],argTypes:=#[t,t] })
  (e:TypeId) (i:TypeInfo) (k:IntKind) (bytes:Nat) (hu:P.underlying t=some (.slice e)) (hi:P.info? e=some i) (hz:i.zero=some (.int k 0))
  (hsize:i.size=1) (hby:i.bytes=bytes) (hs:a.eval s=.slice none 0 0)
  (xa:Option Addr) (m cap:Nat) (zs:List Int) (hx:a.eval x=.slice xa m cap) (hm:m=zs.length) (hr:aO k wr xa zs)
  (h63:0+m≤maxLen) (hbytes:(0+m) * bytes≤140737488355328)
  (h:∀ av cv w',w'.ownsRow wr.heap.size e 1 (.slice av m cv) m (zs.map (Value.int k))→Below wr.heap.size wr w'→wpList P ops Q rest (a.put o.dst (.slice av m cv)) w') :
  wpList P ops Q (o :: rest) a wr:=by
 cases xa with
 | some ad =>
  refine wpList_append_own _ hgd s x t ho wr.heap.size e i (.int k 0) 1 bytes hu hi hz hsize hby rfl (by decide) _ 0 [] hs (World.ownsRow_nil _ _ _ _) ad m cap (zs.map (Value.int k)) hx (by simp[hm]) (fun j u hj=>?_) (oC _ _) h63 hbytes (Nat.le_refl _) ?_
  ·have h0:zs≠[]:=fun e=>by subst e;simp at hj
   obtain ⟨b,off,e1,hb,hc⟩:=hr h0;simp only[Option.some.injEq]at e1;subst e1;exact lS hc j u hj
  ·intro v' w' ho' hg _
   rw[List.nil_append,Nat.zero_add]at ho';obtain ⟨av,cv,rfl⟩:=aQ ho';exact h av cv w' ho' ⟨hg.os,hg.tape,hg.output,hg.size,fun q hq=>hg.block q hq (fun e=>by simp[Value.ownBlock]at e)⟩
 | none =>
  have h0:zs=[]:=by
   by_cases h0:zs=[]
   ·exact h0
   ·obtain ⟨b,off,e1,_⟩:=hr h0;cases e1
  subst h0;simp only[List.length_nil]at hm;subst hm;have hrun:(Builtin.append_ #[t,t] o.type #[.slice none 0 0,.slice none 0 cap]).run P wr=.ok (.slice none 0 0) wr:=by
   simp[Builtin.append_,run_underlying hu,sizeOf,typeInfo,hi,Builtin.lenOf,Builtin.firstCells]
  refine wpList_plain hgd fun K hK=>?_
  unfold Oper.wp execOp;simp only[ho,resolve,invoke,builtin,Sem.run_bind,Sem.run_pure,Result.andThen_ok,List.map_toArray,List.map_cons,List.map_nil,hs,hx,hrun];exact hK _ _ (h _ _ wr (World.ownsRow_nil _ _ _ _) (Below.refl _ _))
theorem zr1 (z:Int) (x:Option Addr) (c:Nat) (zs:List Int) (w:World) (h:aO .i64 w x zs) (hc:zs.length≤1048576) :
  Calls Tryz.prog 143 #[.agg #[.int .i64 z,.slice x zs.length c]] w fun r w'=>∃ av cv,r=.returned (.slice av zs.length cv)∧w'.ownsRow w.heap.size 2 1 (.slice av zs.length cv) zs.length (zs.map (Value.int .i64))∧Below w.heap.size w w':=by
 obtain ⟨i0,hi0,hz0,hz1,hz2⟩:=info_parts Tryz.infoI64;have HR:=aA (h.below (aC w (.cells #[.int .i64 z,.slice x zs.length c] 89)));have hm0:0+zs.length≤maxLen:=by unfold maxLen;omega
 have hm1:(0+zs.length) * 8≤140737488355328:=by omega
 clear h;go_enter Tryz.func143,Tryz.ntmps143;go_wp2_with (at_builtin;refine xV rfl (.const (.slice none 0 0)) (.tmp 4) 48 rfl 2 i0 .i64 8 Tryz.underlying48 hi0 hz0 hz1 hz2 rfl x zs.length c zs rfl rfl HR.out hm0 hm1 ?_;intro av cv w1 hown1 hk1;have O1:=aA hown1;have B1:=aA hk1;clear hown1 hk1)
 go_ret
 exact ⟨av,cv,rfl,aS O1.out (by simp),aB (aC _ _) B1.out⟩
theorem Tryz.infoIt:(Tryz.prog.info? 91).map (fun i=>(i.zero,i.size,i.bytes))=some (some (.agg #[.int .i64 0,.slice none 0 0,.string ⟨#[]⟩,.int .i64 0]),4,56):=by kernel_rfl
def eW (r:Rw):List Value:=[.int .i64 r.e.size,.slice r.a r.e.chunks.length r.c,.string (str r.e.path),.int .i64 r.e.kind]
def kT (rs:List Rw):List Value:=rs.flatMap eW
theorem zm9 (a b:List Rw):kT (a++b)=kT a++kT b:=by simp[kT]
theorem zi7:∀ (rs:List Rw) (i q:Nat) (r:Rw),rs[i]?=some r→q<4→(kT rs)[i * 4+q]?=(eW r)[q]?
 | [],i,q,r,h,_=>by simp at h
 | x :: rs,0,q,r,h,hq=>by
  simp only[List.getElem?_cons_zero,Option.some.injEq]at h;subst h;simp only[kT,List.flatMap_cons,Nat.zero_mul,Nat.zero_add];rw[List.getElem?_append_left (by simp[eW];omega)]
 | x :: rs,i+1,q,r,h,hq=>by
  have:=zi7 rs i q r (by simpa using h) hq
  rw[←this];simp only[kT,List.flatMap_cons];rw[List.getElem?_append_right (by simp[eW];omega)]
  congr 1
  simp[eW];omega
theorem zj7 (rs:List Rw):∀ u∈kT rs,u.oneCell'=true:=by
 intro u hu;simp only[kT,List.mem_flatMap]at hu;obtain ⟨r,_,hr⟩:=hu;simp only[eW,List.mem_cons,List.not_mem_nil,or_false]at hr;rcases hr with rfl | rfl | rfl | rfl <;> rfl
def RdI (w:World) (a:Option Addr) (es:List En):Prop :=
 es≠[]→∃ (b off:Nat) (A:Nat→Option Addr) (C:Nat→Nat),a=some ⟨b,off,none⟩∧b<w.heap.size∧∀ i e,es[i]?=some e →
  w.cell? ⟨b,off+i * 4,none⟩=some (.int .i64 e.size)∧w.cell? ⟨b,off+i * 4+1,none⟩=some (.slice (A i) e.chunks.length (C i))∧w.cell? ⟨b,off+i * 4+2,none⟩=some (.string (str e.path)) ∧
  w.cell? ⟨b,off+i * 4+3,none⟩=some (.int .i64 e.kind)∧aO .i64 w (A i) e.chunks
theorem RdI.below {w w':World} {a:Option Addr} {es:List En} (h:RdI w a es) (hk:Below w.heap.size w w'):RdI w' a es:=by
 intro hz;obtain ⟨b,off,A,C,e,hb,hc⟩:=h hz;refine ⟨b,off,A,C,e,Nat.lt_of_lt_of_le hb hk.size,fun i x hx=>?_⟩
 obtain ⟨c0,c1,c2,c3,r⟩:=hc i x hx;exact ⟨(hk.cell (p:=⟨b,off+i * 4,none⟩) hb).trans c0,(hk.cell (p:=⟨b,off+i * 4+1,none⟩) hb).trans c1,(hk.cell (p:=⟨b,off+i * 4+2,none⟩) hb).trans c2,(hk.cell (p:=⟨b,off+i * 4+3,none⟩) hb).trans c3,r.below hk⟩
theorem RdI.at {w:World} {a:Option Addr} {es:List En} (h:RdI w a es) {k:Nat} (hk:k<es.length) :
  ∃ b off e x c,a=some ⟨b,off,none⟩∧b<w.heap.size∧es[k]?=some e∧w.cell? ⟨b,off+k * 4,none⟩=some (.int .i64 e.size)∧w.cell? ⟨b,off+k * 4+1,none⟩=some (.slice x e.chunks.length c)∧w.cell? ⟨b,off+k * 4+2,none⟩=some (.string (str e.path)) ∧
   w.cell? ⟨b,off+k * 4+3,none⟩=some (.int .i64 e.kind)∧aO .i64 w x e.chunks:=by
 obtain ⟨b,off,A,C,e,hb,hc⟩:=h (by intro e;simp[e]at hk)
 have hx:es[k]?=some es[k]:=List.getElem?_eq_getElem hk;obtain ⟨c0,c1,c2,c3,r⟩:=hc k _ hx;exact ⟨b,off,es[k],A k,C k,e,hb,hx,c0,c1,c2,c3,r⟩
end Go.Proofs.YtgaeikgoknoamaaGreat
