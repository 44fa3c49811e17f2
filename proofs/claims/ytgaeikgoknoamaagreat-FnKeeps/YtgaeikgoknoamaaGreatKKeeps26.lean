/-
  Texts put together: Copy Put PutC Many.
-/
import Derived.Test.YtgaeikgoknoamaaGreatKKeeps25
import Derived.Deep.RegionHeld3
import Derived.Deep.AppendLies
import Derived.Deep.DrawnRows
import Derived.Test.YtgaeikgoknoamaaGreatKKeeps6
set_option linter.unusedVariables false
set_option maxHeartbeats 6400000
set_option maxRecDepth 100000
namespace Go.Proofs.YtgaeikgoknoamaaGreat
open Go.RowKit Go.Maps
attribute [local go_sem ↓] Go.wp_at_zero Go.wp_at_succ
theorem fG {P:Program} {w:World} {ops:Array Oper} {o:Oper} {a:Act} {K:Act→World→Prop} {Q:Exit→Act→World→Prop} {E:Prop} (hgd:o.guard=none) (s x:Operand) (t:TypeId)
  (ho:o.op=.call { callee:=.builtin .append,args:=#[s,x],argTypes:=#[t,t] })
  (base:Nat) (e:TypeId) (i:TypeInfo) (z:Value) (size bytes:Nat) (ht:P.underlying t=some (.slice e)) (hi:P.info? e=some i) (hz:i.zero=some z)
  (hsize:i.size=size) (hby:i.bytes=bytes) (hzs:z.cells.size=size) (hsz:0<size)
  (v:Value) (n:Nat) (xs:List Value) (hs:a.eval s=v) (hown:w.ownsRow base e size v n xs)
  (ad:Addr) (m c:Nat) (news:List Value) (hx:a.eval x=.slice (some ad) m c) (hl:news.length=m * size) (hnews:∀ j u,news[j]?=some u→w.cell? (ad.add j)=some u) (h1:∀ u∈news,u.oneCell'=true)
  (N:Nat) (hN:n+m=N) (h63:n+m≤maxLen) (hbytes:(n+m) * bytes≤140737488355328) (hbase:base≤w.heap.size)
  (h:∀ av cv w',w'.ownsRow base e size (.slice av N cv) N (xs++news)→aD (fun b=>v.ownBlock=some b) w w'→K (a.put o.dst (.slice av N cv)) w') :
  if Region.wanted o (yielded ops a.tmps)=true then Oper.wp P o a w K Q else E:=by
 have hw:Region.wanted o (yielded ops a.tmps)=true:=by simp[Region.wanted,hgd]
 rw[if_pos hw];refine wp_append_own w s x t ho base e i z size bytes ht hi hz hsize hby hzs hsz v n xs hs hown ad m c news hx hl hnews h1 h63 hbytes hbase fun v' w' h2 h3 _=>?_
 rw[hN]at h2;obtain ⟨av,cv,rfl⟩:=aQ h2;exact h av cv w' h2 ⟨h3.os,h3.tape,h3.output,h3.size,fun q hq hn=>h3.block q hq (fun e=>hn e.symm)⟩
theorem tX {w:World} {H:Nat} {u v:Value} {t:TypeId} (hH:w.heap.size=H):∀ j x,[u,v][j]?=some x→(w.alloc (.cells #[u,v] t)).cell? ((⟨H,0,none⟩:Addr).add j)=some x:=by
 subst hH;intro j x hj;have hadd:(⟨w.heap.size,0,none⟩:Addr).add j=⟨w.heap.size,j,none⟩:=by unfold Addr.add;split <;> simp_all
 rw[hadd,cell_of_row _ w.heap.size j #[u,v] t (0,0) (heap_alloc_new w _)];simpa using hj
theorem qY {w:World} {B:Nat} {e:TypeId} {size n:Nat} {a:Option Addr} {c:Nat} {xs:List Value} (h:w.ownsRow B e size (.slice a n c) n xs) (hn:0<n∨∃ g,(Value.slice a n c).ownBlock=some g):∃ g,a=some ⟨g,0,none⟩∧n≤c:=by
 rcases h.2 with ⟨h',h0⟩ | ⟨g,cap,cur,h',_,_,hnc,_⟩
 ·simp only[Value.slice.injEq]at h'
  rcases hn with hn | ⟨g,hg⟩
  ·omega
  ·rw[h'.1]at hg;simp[Value.ownBlock]at hg
 ·simp only[Value.slice.injEq,true_and]at h'
  exact ⟨g,h'.1,by rw[h'.2];exact hnc⟩
theorem GC.addr {B T:Nat} {w:World} {a:Option Addr} {c n:Nat} {D:Nat→Int} {P:Nat→List Int} (h:GC B T w (.slice a n c) D P n) (hn:0<n∨∃ g,(Value.slice a n c).ownBlock=some g):∃ g,a=some ⟨g,0,none⟩∧n≤c:=by
 obtain ⟨A,C,h1,_⟩:=h;exact qY h1 hn
theorem vU (a:Option Addr) (c n:Nat) (D:Nat→Int) (P:Nat→List Int) (w:World) (h:RdC w a D P n) (hn:n≤1048576) (hP:∀ i,i<n→0<(P i).length∧(P i).length≤1048576) :
  Calls Tryz.prog 103 #[.slice a n c] w fun e w'=>∃ g cv,e=.returned (.slice (some ⟨g,0,none⟩) n cv)∧n≤cv∧GC w.heap.size w'.heap.size w' (.slice (some ⟨g,0,none⟩) n cv) D P n∧Below w.heap.size w w':=by
 obtain ⟨i1,ki,kz0,kz1,kz2⟩:=info_parts Tryz.infoCh;obtain ⟨i0,hi0,hz0,hz1,hz2⟩:=info_parts Tryz.infoU8;have HA:=aA h;have HP:=aA hP;clear h hP;go_enter Tryz.func103,Tryz.ntmps103;go_wp2
 go_loopw [3,4] (fun v i wr=>∃ j:Nat,j≤n∧i=.int .i64 j∧GC w.heap.size wr.heap.size wr v D P j∧(∃ g,v.ownBlock=some g)∧Below w.heap.size w wr) (fun _ i _=>n - (intOf i).toNat)
 case atStart=>exact ⟨0,Nat.zero_le _,rfl,⟨fun _=>none,fun _=>0,World.ownsRow_made w #[] 0 (Nat.le_refl _) (Nat.zero_le _) rfl,fun i hi=>absurd hi (by omega),fun i i' g hi=>absurd hi (by omega),fun i g hi=>absurd hi (by omega),fun x hx=>by simp[Value.ownBlock]at hx;subst hx;simp⟩,⟨_,rfl⟩,aC _ _⟩
 case round =>
  obtain ⟨j,hj,rfl,hG,hob,hbel⟩:=hrel;obtain ⟨lv,lc,rfl⟩:=hG.shape;have HW:=aA hbel;have HOb:=aA hob;have hsz:=hbel.size;clear hob;by_cases hlt:j<n
  ·obtain ⟨b1,o1,A1,C1,rfl,hb1,hc1⟩:=HA.out (by omega)
   obtain ⟨c1,e1,r1⟩:=hc1 j hlt;have c1:=(hbel.cell (p:=⟨b1,o1+j * 2,none⟩) hb1).trans c1;have e1:=(hbel.cell (p:=⟨b1,o1+j * 2+1,none⟩) hb1).trans e1;have r1:=r1.below hbel;obtain ⟨hp0,hp1⟩:=HP.out j hlt;have hj0:(0:Int)≤(j:Int):=by omega
   have hj1:(j:Int)<(n:Int):=by omega
   obtain ⟨A,C,h1,h2,h3,h4,h5⟩:=hG;have HA1:=aA h1;have HA2:=aA h2;have HA3:=aA h3;generalize A1 j=a1 at e1 r1;generalize C1 j=d1 at e1;generalize hxs:P j=xs at *;generalize hdd:D j=dd at *;have HX:=aA (And.intro hdd hxs);clear hxs hdd;obtain ⟨b2,o2,rfl,hb2,hc2⟩:=r1 (by intro e;subst e;simp at hp0)
   have hb1':b1<wr.heap.size:=by omega
   have OWN0:Hid ((wr.alloc (.cells #[] 5)).drew.ownsRow wr.heap.size 5 1 (.slice (some ⟨wr.heap.size,0,none⟩) 0 0) 0 []):=World.ownsRow_made wr #[] 0 (Nat.le_refl _) (Nat.zero_le _) rfl;have NEWS0:Hid (∀ j u,(xs.map (Value.int .u8))[j]?=some u→(wr.alloc (.cells #[] 5)).drew.cell? ((⟨b2,o2,none⟩:Addr).add j)=some u):=lS (w:=(wr.alloc (.cells #[] 5)).drew) (fun i hi=>((aC wr (.cells #[] 5)).cell (p:=⟨b2,o2+i,none⟩) hb2).trans (hc2 i hi))
   have KC:Hid (∀ (W w2:World) (S:Nat→Prop),W.cell? ⟨b1,o1+j * 2,none⟩=some (.int .i64 dd)∧W.cell? ⟨b1,o1+j * 2+1,none⟩=some (.slice (some ⟨b2,o2,none⟩) xs.length d1)→aD S W w2→¬ S b1→w2.cell? ⟨b1,o1+j * 2,none⟩=some (.int .i64 dd)∧w2.cell? ⟨b1,o1+j * 2+1,none⟩=some (.slice (some ⟨b2,o2,none⟩) xs.length d1)):=by
    intro W w2 S hs hk hn;have hlt:=World.block_lt_of_cell? W ⟨b1,o1+j * 2,none⟩ hs.1;exact ⟨(hk.cell (p:=⟨b1,o1+j * 2,none⟩) hlt hn).trans hs.1,(hk.cell (p:=⟨b1,o1+j * 2+1,none⟩) hlt hn).trans hs.2⟩
   have hm0:0+xs.length≤maxLen:=by unfold maxLen;omega
   have hm0':(0+xs.length) * 1≤140737488355328:=by omega
   have hm1:j+1≤maxLen:=by unfold maxLen;omega
   have hm2:(j+1) * 32≤140737488355328:=by omega
   have hfar:¬ (Value.slice (some ⟨wr.heap.size,0,none⟩) 0 0).ownBlock=some b1:=by simp[Value.ownBlock];omega
   have hfar2:¬ (Value.slice lv j lc).ownBlock=some b1:=fun hx=>by have:=(HA1.out.lt b1 hx).1;omega
   have hne1:wr.heap.size≠b1:=by omega
   clear h1 h2 h3 h4 h5 hc1 hc2 hbel;go_wp2_with fail
   go_region_held3 (fun w'=>w'.cell? ⟨b1,o1+j * 2,none⟩=some (.int .i64 dd)∧w'.cell? ⟨b1,o1+j * 2+1,none⟩=some (.slice (some ⟨b2,o2,none⟩) xs.length d1))
    (first
     | exact KC.out _ _ _ (by assumption) (by assumption) hfar
     | exact KC.out _ _ _ (by assumption) (by assumption) hfar2
     | go_keep)
    ((
     first
     | (refine fG (by rfl) (.tmp 18) (.tmp 23) 22 (by rfl) wr.heap.size 5 i0 (.int .u8 0) 1 1 Tryz.underlying22 hi0 hz0 hz1 hz2 rfl (by decide) (.slice (some ⟨wr.heap.size,0,none⟩) 0 0) 0 [] (by rfl) OWN0.out ⟨b2,o2,none⟩ xs.length d1 (xs.map (Value.int .u8)) (by rfl) (by simp) NEWS0.out (oC _ _) xs.length (by simp) hm0 hm0' (by simp) ?_;intro av cv w1 hown1 hk1;obtain ⟨g,cap,hv,hg0,hgl,_⟩:=sU (zs:=xs) hown1 rfl hp0;simp only[Value.slice.injEq,true_and]at hv;obtain ⟨rfl,rfl⟩:=hv;have O1:=aA hown1;have BB1:=aA ((aC wr (.cells #[] 5)).drew.trans (hk1.below (by simp) (fun k hk hS=>by simp[Value.ownBlock]at hS;omega)));have hw1:w1.heap.size≠b1:=(by have:=BB1.out.size;omega);clear hown1)
     | (refine fG (by rfl) (.tmp 12) (.tmp 26) 52 (by rfl) w.heap.size 65 i1 (.agg #[.int .i64 0,.slice none 0 0]) 2 32 Tryz.underlying52 ki kz0 kz1 kz2 rfl (by decide) (.slice lv j lc) j (bZ j (aJ D P A C)) (by rfl) ((aG HA1.out BB1.out).alloc _) ⟨w1.heap.size,0,none⟩ 1 1 [.int .i64 dd,.slice (some ⟨g,0,none⟩) xs.length cv] (by rfl) (by rfl) (tX rfl) (by intro u hu;simp at hu;rcases hu with rfl | rfl <;> rfl) (j+1) rfl hm1 hm2 (by have:=BB1.out.size;simp;omega) ?_;intro av2 cv2 w2 hown2 hk2;have O2:=aA hown2;have K2:=aA (((aD.refl (fun b=>(Value.slice lv j lc).ownBlock=some b) w1).alloc _).trans hk2);clear hown2)))
   go_wp2
   go_roundw
   case rel =>
    refine ⟨j+1,by omega,by go_num,?_,?_,?_⟩
    ·refine (GC.push HA1.out HA2.out HA3.out hsz BB1.out O1.out O2.out K2.out).congr (fun i hi=>?_) (fun i hi=>?_)
     ·by_cases e:i=j
      ·subst e;rw[eO];exact HX.out.1
      ·rw[dO _ _ _ e]
     ·by_cases e:i=j
      ·subst e;rw[eO];exact HX.out.2
      ·rw[dO _ _ _ e]
    ·obtain ⟨g5,h5,_⟩:=qY O2.out (.inl (by omega))
     exact ⟨g5,by rw[h5];rfl⟩
    ·exact (lY HW.out BB1.out).trans (K2.out.below (Nat.le_trans hsz BB1.out.size) (fun k hk hx=>by have:=(HA1.out.lt k hx).1;omega))
   case measure=>simp[intOf];omega
  ·have hje:j=n:=by omega
   subst hje;obtain ⟨g5,h5,h6⟩:=hG.addr (.inr HOb.out);subst h5;have HG:=aA hG;clear hG hbel;go_wp2
   go_ret
   exact ⟨_,_,rfl,h6,HG.out,HW.out⟩
theorem pZ (a:Option Addr) (c n:Nat) (D:Nat→Int) (P:Nat→List Int) (w:World) (h:RdC w a D P n) (hn:n≤1048576) (hP:∀ i,i<n→0<(P i).length∧(P i).length≤1048576) :
  Calls Tryz.prog 103 #[.slice a n c] w fun e w'=>∃ av cv,e=.returned (.slice av n cv)∧GC w.heap.size w'.heap.size w' (.slice av n cv) D P n∧Below w.heap.size w w' :=
 (vU a c n D P w h hn hP).mono fun e w' ⟨g,cv,he,_,hG,hb⟩=>⟨_,cv,he,hG,hb⟩
def ins {α:Type} (f:Nat→α) (m:Nat) (x:α):Nat→α:=fun i=>if i<m then f i else if i=m then x else f (i - 1)
theorem zE (D:Nat→Int) (P:Nat→List Int) (A:Nat→Option Addr) (C:Nat→Nat) {n m:Nat} (hm:m≤n) (d:Int) (zs:List Int) (da:Option Addr) (dc:Nat) :
  bZ (n+1) (aJ (ins D m d) (ins P m zs) (ins A m da) (ins C m dc))=(bZ m (aJ D P A C) ++ [.int .i64 d,.slice da zs.length dc])++(bZ n (aJ D P A C)).drop (m * 2):=by
 have l1:=fI (n:=m) (k:=2) (F:=aJ D P A C) (fun i _=>rfl)
 have l2:=fI (n:=n) (k:=2) (F:=aJ D P A C) (fun i _=>rfl)
 have l3:=fI (n:=n+1) (k:=2) (F:=aJ (ins D m d) (ins P m zs) (ins A m da) (ins C m dc)) (fun i _=>rfl)
 apply List.ext_getElem?
 intro p;by_cases hp:p<(n+1) * 2
 ·have e:p=p / 2 * 2+p % 2:=by omega
  have h1:p / 2<n+1:=by omega
  have h2:p % 2<2:=by omega
  generalize p / 2=q at e h1;generalize p % 2=r at e h2;subst e;rw[fE (k:=2) (fun i _=>rfl) q r h1 h2]
  by_cases h3:q<m
  ·rw[List.getElem?_append_left (by simp[l1];omega),List.getElem?_append_left (by rw[l1];omega),fE (k:=2) (fun i _=>rfl) q r h3 h2]
   simp[aJ,ins,h3]
  ·by_cases h4:q=m
   ·subst h4
    rw[List.getElem?_append_left (by simp[l1];omega),List.getElem?_append_right (by rw[l1];omega),l1]
    have:q * 2+r - q * 2=r:=by omega
    rw[this];simp[aJ,ins]
   ·rw[List.getElem?_append_right (by simp[l1];omega),List.getElem?_drop]
    have:m * 2+(q * 2+r - (bZ m (aJ D P A C) ++ [Value.int .i64 d,.slice da zs.length dc]).length)=(q - 1) * 2+r:=by simp[l1];omega
    rw[this,fE (k:=2) (fun i _=>rfl) (q - 1) r (by omega) h2]
    simp[aJ,ins,h3,h4]
 ·rw[List.getElem?_eq_none (by omega),List.getElem?_eq_none (by simp[l1,l2];omega)]
theorem RdC.of_rows {w:World} {B:Nat} {a:Option Addr} {c n:Nat} {D:Nat→Int} {P:Nat→List Int} {A:Nat→Option Addr} {C:Nat→Nat} (h1:w.ownsRow B 65 2 (.slice a n c) n (bZ n (aJ D P A C))) (h2:∀ i,i<n→aO .u8 w (A i) (P i)):RdC w a D P n:=by
 intro hn;rcases h1.2 with ⟨_,h0⟩ | ⟨g,cap,cur,h',hb,hh,hnc,hcm,hcs,htake⟩
 ·omega
 ·simp only[Value.slice.injEq,true_and]at h'
  obtain ⟨rfl,rfl⟩:=h';have hf:=fun i r hi hr=>fE (n:=n) (k:=2) (F:=aJ D P A C) (fun i _=>rfl) i r hi hr
  refine ⟨g,0,A,C,rfl,(h1.lt g rfl).2,fun i hi=>⟨?_,?_,h2 i hi⟩⟩
  ·rw[Nat.zero_add,h1.cellAt (i * 2) (by omega)]
   have:=hf i 0 hi (by decide)
   rw[Nat.add_zero]at this;rw[this];rfl
  ·rw[Nat.zero_add,h1.cellAt (i * 2+1) (by omega),hf i 1 hi (by decide)];rfl
theorem zN {w:World} {b off n:Nat} {D:Nat→Int} {P:Nat→List Int} {A:Nat→Option Addr} {C:Nat→Nat} (hc:∀ i,i<n→w.cell? ⟨b,off+i * 2,none⟩=some (.int .i64 (D i))∧w.cell? ⟨b,off+i * 2+1,none⟩=some (.slice (A i) (P i).length (C i))) (m:Nat) :
  ∀ j u,((bZ n (aJ D P A C)).drop (m * 2))[j]?=some u→w.cell? ((⟨b,off+m * 2,none⟩:Addr).add j)=some u:=by
 intro j u hj;have hl:=fI (n:=n) (k:=2) (F:=aJ D P A C) (fun i _=>rfl)
 rw[List.getElem?_drop]at hj;have hp:m * 2+j<n * 2:=by
  rcases Nat.lt_or_ge (m * 2+j) (n * 2) with h | h
  ·exact h
  ·rw[List.getElem?_eq_none (by omega)]at hj;cases hj
 have ea:(⟨b,off+m * 2,none⟩:Addr).add j=⟨b,off+m * 2+j,none⟩:=by unfold Addr.add;split <;> simp_all
 rw[ea];have e:m * 2+j=(m * 2+j) / 2 * 2+(m * 2+j) % 2:=by omega
 have h1:(m * 2+j) / 2<n:=by omega
 have h2:(m * 2+j) % 2=0∨(m * 2+j) % 2=1:=by omega
 have ea2:off+m * 2+j=off+(m * 2+j):=by omega
 rw[ea2];generalize (m * 2+j) / 2=q at e h1;rcases h2 with h2 | h2
 ·rw[h2]at e
  rw[e]at hj ⊢;rw[fE (k:=2) (fun i _=>rfl) q 0 h1 (by decide)]at hj
  have:=(hc q h1).1;simp only[Nat.add_zero]at this ⊢;rw[this];exact hj
 ·rw[h2]at e
  rw[e]at hj ⊢;rw[fE (k:=2) (fun i _=>rfl) q 1 h1 (by decide)]at hj
  have:=(hc q h1).2;rw[←Nat.add_assoc,this];exact hj
theorem zqf {w:World} {b off n:Nat} {D:Nat→Int} {P:Nat→List Int} {A:Nat→Option Addr} {C:Nat→Nat} (hc:∀ i,i<n→w.cell? ⟨b,off+i * 2,none⟩=some (.int .i64 (D i))∧w.cell? ⟨b,off+i * 2+1,none⟩=some (.slice (A i) (P i).length (C i))) (m:Nat) (hm:m≤n) :
  ∀ j u,(bZ m (aJ D P A C))[j]?=some u→w.cell? ((⟨b,off,none⟩:Addr).add j)=some u:=by
 intro j u hj;have:=zN (n:=m) (fun i hi=>hc i (by omega)) 0 j u (by simpa using hj)
 simpa using this
theorem oB (n:Nat) (D:Nat→Int) (P:Nat→List Int) (A:Nat→Option Addr) (C:Nat→Nat):∀ u∈bZ n (aJ D P A C),u.oneCell'=true:=by
 intro u hu;unfold bZ at hu;obtain ⟨i,_,hi⟩:=List.mem_flatMap.1 hu;simp[aJ]at hi
 rcases hi with rfl | rfl <;> rfl
theorem nV {P:Program} {w:World} {ops:Array Oper} {rest:List Oper} {o:Oper} {a:Act} {Q:Exit→Act→World→Prop} (hgd:o.guard=none) (s x:Operand) (t:TypeId)
  (ho:o.op=.call { callee:=.builtin .append,args:=#[s,x],argTypes:=#[t,t] })
  (base:Nat) (e:TypeId) (i:TypeInfo) (z:Value) (size bytes:Nat) (ht:P.underlying t=some (.slice e)) (hi:P.info? e=some i) (hz:i.zero=some z)
  (hsize:i.size=size) (hby:i.bytes=bytes) (hzs:z.cells.size=size) (hsz:0<size)
  (v:Value) (n:Nat) (xs:List Value) (hs:a.eval s=v) (hown:w.ownsRow base e size v n xs)
  (ad:Addr) (m c:Nat) (news:List Value) (hx:a.eval x=.slice (some ad) m c) (hl:news.length=m * size) (hnews:∀ j u,news[j]?=some u→w.cell? (ad.add j)=some u) (h1:∀ u∈news,u.oneCell'=true)
  (N:Nat) (hN:n+m=N) (h63:n+m≤maxLen) (hbytes:(n+m) * bytes≤140737488355328) (hbase:base≤w.heap.size)
  (h:∀ av cv w',w'.ownsRow base e size (.slice av N cv) N (xs++news)→aD (fun b=>v.ownBlock=some b) w w'→wpList P ops Q rest (a.put o.dst (.slice av N cv)) w') :
  wpList P ops Q (o :: rest) a w:=by
 refine wpList_append_own w hgd s x t ho base e i z size bytes ht hi hz hsize hby hzs hsz v n xs hs hown ad m c news hx hl hnews h1 h63 hbytes hbase fun v' w' h2 h3 _=>?_
 rw[hN]at h2;obtain ⟨av,cv,rfl⟩:=aQ h2;exact h av cv w' h2 ⟨h3.os,h3.tape,h3.output,h3.size,fun q hq hn=>h3.block q hq (fun e=>hn e.symm)⟩
theorem zz1 (a:Option Addr) (c n:Nat) (D:Nat→Int) (P:Nat→List Int) (d:Int) (a2:Option Addr) (n2 c2:Nat) (w:World) (h:RdC w a D P n) (hn:n≤1048576) (hP:∀ i,i<n→0<(P i).length∧(P i).length≤1048576) (hd:∃ i,i<n∧D i=d) :
  Calls Tryz.prog 104 #[.slice a n c,.int .i64 d,.slice a2 n2 c2] w fun e w'=>∃ g cv,e=.returned (.tuple #[.slice (some ⟨g,0,none⟩) n cv,.bool true])∧n≤cv∧GC w.heap.size w'.heap.size w' (.slice (some ⟨g,0,none⟩) n cv) D P n∧Below w.heap.size w w':=by
 obtain ⟨i,hi,hdi,hf⟩:∃ i,i<n∧D i=d∧∀ j,j<i→D j≠d:=by
  clear h hP
  induction n with
  | zero=>obtain ⟨i,hi,_⟩:=hd;omega
  | succ n ih =>
   by_cases h:∃ i,i<n∧D i=d
   ·obtain ⟨j,h1,h2,h3⟩:=ih (by omega) h
    exact ⟨j,by omega,h2,h3⟩
   ·obtain ⟨i,hi,e⟩:=hd
    have hin:i=n:=by
     rcases Nat.lt_or_ge i n with h' | h'
     ·exact absurd ⟨i,h',e⟩ h
     ·omega
    subst hin;exact ⟨i,by omega,e,fun j hj ej=>h ⟨j,hj,ej⟩⟩
 have hi0:(0:Int)≤(i:Int):=by omega
 have HY:=aA (zkh a c n i d D P w h hn hi hdi hf);have HC:=aA (vU a c n D P w h hn hP);clear h hP hd hdi hf;go_enter Tryz.func104,Tryz.ntmps104;go_wp2_with fail
 refine HY.out.mono ?_;rintro e w1 ⟨rfl,rfl⟩;go_wp2_with fail
 refine HC.out.mono ?_;rintro e w2 ⟨g,cv,rfl,hcv,hG,hb⟩;have HG:=aA hG;have HB:=aA hb;clear hG hb;go_wp2_with fail
 exact bodyPost_ret (v:=.tuple #[.slice (some ⟨g,0,none⟩) n cv,.bool true]) (by simp[results,Tryz.results104,go_sem]) rfl ⟨g,cv,rfl,hcv,HG.out,HB.out⟩
theorem zjc (a:Option Addr) (c n:Nat) (D:Nat→Int) (P:Nat→List Int) (d:Int) (a2:Option Addr) (n2 c2:Nat) (w:World) (h:RdC w a D P n) (hn:n≤1048576) (hd:∀ i,i<n→D i≠d) (hf:40≤n) :
  Calls Tryz.prog 104 #[.slice a n c,.int .i64 d,.slice a2 n2 c2] w fun e w'=>e=.returned (.tuple #[.slice none 0 0,.bool false])∧Below w.heap.size w w':=by
 have HY:=aA (zja a c n d D P w h hn hd);have hf':(40:Int)≤(n:Int):=by omega
 clear h hd;go_enter Tryz.func104,Tryz.ntmps104;go_wp2_with fail
 refine HY.out.mono ?_;rintro e w1 ⟨rfl,rfl⟩;go_wp2_with fail
 exact bodyPost_ret (v:=.tuple #[.slice none 0 0,.bool false]) (by simp[results,Tryz.results104,go_sem]) rfl ⟨rfl,Below.refl _ _⟩
theorem zaf (b off c n m:Nat) (D:Nat→Int) (P:Nat→List Int) (d:Int) (a2:Option Addr) (c2:Nat) (zs:List Int) (w:World) (h:RdC w (some ⟨b,off,none⟩) D P n) (hcap:n≤c) (hn:n<40) (hP:∀ i,i<n→0<(P i).length∧(P i).length≤1048576) (h2:aO .u8 w a2 zs) (hz:0<zs.length∧zs.length≤1048576)
  (hd:∀ i,i<n→D i≠d) (hm:m≤n) (hlow:∀ i,i<m→D i<d) (hhigh:m<n→¬ D m<d) :
  Calls Tryz.prog 104 #[.slice (some ⟨b,off,none⟩) n c,.int .i64 d,.slice a2 zs.length c2] w fun e w'=>∃ av cv,e=.returned (.tuple #[.slice av (n+1) cv,.bool true])∧GC w.heap.size w'.heap.size w' (.slice av (n+1) cv) (ins D m d) (ins P m zs) (n+1)∧Below w.heap.size w w':=by
 obtain ⟨i1,ki,kz0,kz1,kz2⟩:=info_parts Tryz.infoCh;have HY:=aA (zja (some ⟨b,off,none⟩) c n d D P w h (by omega) hd)
 obtain ⟨A,C,hAC⟩:∃ (A:Nat→Option Addr) (C:Nat→Nat),∀ i,i<n→(w.cell? ⟨b,off+i * 2,none⟩=some (.int .i64 (D i))∧w.cell? ⟨b,off+i * 2+1,none⟩=some (.slice (A i) (P i).length (C i)))∧aO .u8 w (A i) (P i)∧b<w.heap.size:=by
  by_cases h0:0<n
  ·obtain ⟨b',off',A,C,e,hb,hc⟩:=h h0
   simp only[Option.some.injEq,Addr.mk.injEq,and_true]at e;obtain ⟨rfl,rfl⟩:=e;exact ⟨A,C,fun i hi=>⟨⟨(hc i hi).1,(hc i hi).2.1⟩,(hc i hi).2.2,hb⟩⟩
  ·exact ⟨fun _=>none,fun _=>0,fun i hi=>absurd hi (by omega)⟩
 have hc40:¬ (40:Int)≤(n:Int):=by omega
 have HA:=aA hAC;have HP:=aA hP;have HR:=aA h2;have HL:=aA hlow;have HHi:=aA hhigh;clear h hP h2 hAC hd hlow hhigh;go_enter Tryz.func104,Tryz.ntmps104;go_wp2_with fail
 refine HY.out.mono ?_;rintro e w1 ⟨rfl,rfl⟩;go_wp2
 go_loop [8] (fun q=>∃ k:Nat,k≤m∧q=.int .i64 k) (fun q=>n - (intOf q).toNat)
 case atStart=>exact ⟨0,Nat.zero_le _,rfl⟩
 case round =>
  obtain ⟨k,hk,rfl⟩:=hrel;by_cases hkm:k<m
  ·have hkn:(k:Int)<(n:Int):=by omega
   obtain ⟨⟨c1,_⟩,_,_⟩:=HA.out k (by omega)
   have hdk:=HL.out k hkm;generalize D k=dd at c1 hdk;go_wp2
   go_round
   case rel=>exact ⟨k+1,by omega,by go_num⟩
   case measure=>simp[intOf];omega
  ·have hke:k=m:=by omega
   subst hke;have HFl:=fI (n:=k) (k:=2) (F:=aJ D P A C) (fun i _=>rfl)
   have HFn:=fI (n:=n) (k:=2) (F:=aJ D P A C) (fun i _=>rfl)
   have OWN0:Hid ((w1.alloc (.cells #[] 65)).ownsRow w1.heap.size 65 2 (.slice (some ⟨w1.heap.size,0,none⟩) 0 0) 0 []):=World.ownsRow_made w1 #[] 0 (Nat.le_refl _) (Nat.zero_le _) rfl;have NEWS0:Hid (∀ j u,(bZ k (aJ D P A C))[j]?=some u→(w1.alloc (.cells #[] 65)).cell? ((⟨b,off,none⟩:Addr).add j)=some u):=zqf (n:=n) (fun i hi=>⟨((aC w1 (.cells #[] 65)).cell (p:=⟨b,off+i * 2,none⟩) (HA.out i hi).2.2).trans (HA.out i hi).1.1,((aC w1 (.cells #[] 65)).cell (p:=⟨b,off+i * 2+1,none⟩) (HA.out i hi).2.2).trans (HA.out i hi).1.2⟩) k hm
   have hm0:0+k≤maxLen:=by unfold maxLen;omega
   have hm0':(0+k) * 32≤140737488355328:=by omega
   have hkc:(k:Int)≤(c:Int):=by omega
   have hkn':(k:Int)≤(n:Int):=by omega
   have hnc':(n:Int)≤(c:Int):=by omega
   by_cases hkn:k<n
   ·have hkn2:(k:Int)<(n:Int):=by omega
    obtain ⟨⟨c1,_⟩,_,_⟩:=HA.out k hkn;have hdk:=HHi.out hkn;have HDD:=aA c1;generalize D k=dd at c1 hdk;go_wp2_with (first | (at_builtin;refine nV rfl (.tmp 34) (.tmp 37) 52 rfl w1.heap.size 65 i1 (.agg #[.int .i64 0,.slice none 0 0]) 2 32 Tryz.underlying52 ki kz0 kz1 kz2 rfl (by decide) (.slice (some ⟨w1.heap.size,0,none⟩) 0 0) 0 [] rfl OWN0.out ⟨b,off,none⟩ k c (bZ k (aJ D P A C)) rfl HFl NEWS0.out (oB _ _ _ _ _) k (by simp) hm0 hm0' (by simp) ?_;intro av cv w2 hown2 hk2;have O2:=aA hown2;have K2:=aA hk2;clear hown2 hk2) | fail)
    have hckf:¬ c=k:=by omega
    have BB2:=aA ((aC w1 (.cells #[] 65)).trans (K2.out.below (by simp) (fun q hq hS=>by simp[Value.ownBlock]at hS;omega)))
    have OWN1:Hid ((w2.alloc (.cells #[.int .i64 d,.slice a2 zs.length c2] 65)).drew.ownsRow w1.heap.size 65 2 (.slice av k cv) k ([]++bZ k (aJ D P A C))):=aG O2.out (aC _ _).drew;have NEWS1:Hid (∀ j u,[Value.int .i64 d,.slice a2 zs.length c2][j]?=some u→(w2.alloc (.cells #[.int .i64 d,.slice a2 zs.length c2] 65)).drew.cell? ((⟨w2.heap.size,0,none⟩:Addr).add j)=some u):=tX (t:=65) rfl;have NEWS2:Hid (∀ w3:World,Below w1.heap.size w1 w3→∀ j u,((bZ n (aJ D P A C)).drop (k * 2))[j]?=some u→w3.cell? ((⟨b,off+k * 2,none⟩:Addr).add j)=some u):=fun w3 hb3=>zN (n:=n) (fun i hi=>⟨(hb3.cell (p:=⟨b,off+i * 2,none⟩) (HA.out i hi).2.2).trans (HA.out i hi).1.1,(hb3.cell (p:=⟨b,off+i * 2+1,none⟩) (HA.out i hi).2.2).trans (HA.out i hi).1.2⟩) k
    have hs2:=BB2.out.size;have hnl:((bZ n (aJ D P A C)).drop (k * 2)).length=(n - k) * 2:=by rw[List.length_drop,HFn];omega
    have hk1':k+1+(n - k)=n+1:=by omega
    have hm1:k+1≤maxLen:=by unfold maxLen;omega
    have hm1':(k+1) * 32≤140737488355328:=by omega
    have hm2:k+1+(n - k)≤maxLen:=by unfold maxLen;omega
    have hm2':(k+1+(n - k)) * 32≤140737488355328:=by omega
    have hk0:(0:Int)≤(k:Int):=by omega
    have HON:=aA (fun u (hu:u∈(bZ n (aJ D P A C)).drop (k * 2))=>oB n D P A C u (List.mem_of_mem_drop hu))
    go_region_held3 (fun _=>True) (trivial)
     ((
      first
      | (refine fG (by rfl) (.tmp 39) (.tmp 43) 52 (by rfl) w1.heap.size 65 i1 (.agg #[.int .i64 0,.slice none 0 0]) 2 32 Tryz.underlying52 ki kz0 kz1 kz2 rfl (by decide) (.slice av k cv) k ([]++bZ k (aJ D P A C)) (by rfl) OWN1.out ⟨w2.heap.size,0,none⟩ 1 1 [.int .i64 d,.slice a2 zs.length c2] (by rfl) (by rfl) NEWS1.out (by intro u hu;simp at hu;rcases hu with rfl | rfl <;> rfl) (k+1) rfl hm1 hm1' (by simp;omega) ?_;intro av2 cv2 w3 hown3 hk3;have O3:=aA hown3;have BB3:=aA (BB2.out.trans ((((aD.refl (fun x=>(Value.slice av k cv).ownBlock=some x) w2).alloc _).drew.trans hk3).below hs2 (fun q hq hS=>by have:=(O2.out.lt q hS).1;omega)));clear hown3 hk3)
      | (refine fG (by rfl) (.tmp 44) (.tmp 47) 52 (by rfl) w1.heap.size 65 i1 (.agg #[.int .i64 0,.slice none 0 0]) 2 32 Tryz.underlying52 ki kz0 kz1 kz2 rfl (by decide) (.slice av2 (k+1) cv2) (k+1) (([]++bZ k (aJ D P A C)) ++ [.int .i64 d,.slice a2 zs.length c2]) (by rfl) O3.out ⟨b,off+k * 2,none⟩ (n - k) (c - k) ((bZ n (aJ D P A C)).drop (k * 2)) (by rfl) hnl (NEWS2.out w3 BB3.out) HON.out (n+1) hk1' hm2 hm2' BB3.out.size ?_;intro av3 cv3 w4 hown4 hk4;have O4:=aA hown4;have BB4:=aA (BB3.out.trans (hk4.below BB3.out.size (fun q hq hS=>by have:=(O3.out.lt q hS).1;omega)));clear hown4 hk4)))
    have O5:Hid (w4.ownsRow w1.heap.size 65 2 (.slice av3 (n+1) cv3) (n+1) (bZ (n+1) (aJ (ins D k d) (ins P k zs) (ins A k a2) (ins C k c2)))):=by rw[zE D P A C hm d zs a2 c2];exact O4.out
    have RD5:Hid (RdC w4 av3 (ins D k d) (ins P k zs) (n+1)):=RdC.of_rows O5.out (fun i hi=>by
     by_cases e1:i<k
     ·simp only[ins,if_pos e1];exact (HA.out i (by omega)).2.1.below BB4.out
     ·by_cases e2:i=k
      ·simp only[ins,if_neg e1,if_pos e2];exact HR.out.below BB4.out
      ·simp only[ins,if_neg e1,if_neg e2];exact (HA.out (i - 1) (by omega)).2.1.below BB4.out)
    have HP5:Hid (∀ i,i<n+1→0<(ins P k zs i).length∧(ins P k zs i).length≤1048576):=fun i hi=>by
     by_cases e1:i<k
     ·simp only[ins,if_pos e1];exact HP.out i (by omega)
     ·by_cases e2:i=k
      ·simp only[ins,if_neg e1,if_pos e2];exact hz
      ·simp only[ins,if_neg e1,if_neg e2];exact HP.out (i - 1) (by omega)
    clear O5 O4 O3 BB3 BB2 OWN1 NEWS1 NEWS2;go_wp2_with fail
    refine (pZ av3 cv3 (n+1) _ _ w4 RD5.out (by omega) HP5.out).mono ?_
    rintro e w5 ⟨av5,cv5,rfl,hG,hb⟩;have HG:=aA (hG.mono BB4.out.size);have HB:=aA (aB BB4.out hb);clear hG hb;go_wp2_with fail
    exact bodyPost_ret (v:=.tuple #[.slice av5 (n+1) cv5,.bool true]) (by simp[results,Tryz.results104,go_sem]) rfl ⟨av5,cv5,rfl,HG.out,HB.out⟩
   ·have hkn2:¬ (k:Int)<(n:Int):=by omega
    by_cases hck:c=k
    ·obtain rfl:k=c:=hck.symm
     go_wp2_with (first | (at_builtin;refine nV rfl (.tmp 34) (.tmp 37) 52 rfl w1.heap.size 65 i1 (.agg #[.int .i64 0,.slice none 0 0]) 2 32 Tryz.underlying52 ki kz0 kz1 kz2 rfl (by decide) (.slice (some ⟨w1.heap.size,0,none⟩) 0 0) 0 [] rfl OWN0.out ⟨b,off,none⟩ k k (bZ k (aJ D P A C)) rfl HFl NEWS0.out (oB _ _ _ _ _) k (by simp) hm0 hm0' (by simp) ?_;intro av cv w2 hown2 hk2;have O2:=aA hown2;have K2:=aA hk2;clear hown2 hk2) | fail)
     have BB2:=aA ((aC w1 (.cells #[] 65)).trans (K2.out.below (by simp) (fun q hq hS=>by simp[Value.ownBlock]at hS;omega)))
     have OWN1:Hid ((w2.alloc (.cells #[.int .i64 d,.slice a2 zs.length c2] 65)).drew.ownsRow w1.heap.size 65 2 (.slice av k cv) k ([]++bZ k (aJ D P A C))):=aG O2.out (aC _ _).drew;have NEWS1:Hid (∀ j u,[Value.int .i64 d,.slice a2 zs.length c2][j]?=some u→(w2.alloc (.cells #[.int .i64 d,.slice a2 zs.length c2] 65)).drew.cell? ((⟨w2.heap.size,0,none⟩:Addr).add j)=some u):=tX (t:=65) rfl;have NEWS2:Hid (∀ w3:World,Below w1.heap.size w1 w3→∀ j u,((bZ n (aJ D P A C)).drop (k * 2))[j]?=some u→w3.cell? ((⟨b,off,none⟩:Addr).add j)=some u):=fun w3 hb3=>fun j u hj=>by rw[List.drop_eq_nil_of_le (by rw[HFn];omega)]at hj;simp at hj
     have hs2:=BB2.out.size;have hnl:((bZ n (aJ D P A C)).drop (k * 2)).length=0 * 2:=by rw[List.length_drop,HFn];omega
     have hk1':k+1+0=n+1:=by omega
     have hm1:k+1≤maxLen:=by unfold maxLen;omega
     have hm1':(k+1) * 32≤140737488355328:=by omega
     have hm2:k+1+0≤maxLen:=by unfold maxLen;omega
     have hm2':(k+1+0) * 32≤140737488355328:=by omega
     have hk0:(0:Int)≤(k:Int):=by omega
     have HON:=aA (fun u (hu:u∈(bZ n (aJ D P A C)).drop (k * 2))=>oB n D P A C u (List.mem_of_mem_drop hu))
     go_region_held3 (fun _=>True) (trivial)
      ((
       first
       | (refine fG (by rfl) (.tmp 39) (.tmp 43) 52 (by rfl) w1.heap.size 65 i1 (.agg #[.int .i64 0,.slice none 0 0]) 2 32 Tryz.underlying52 ki kz0 kz1 kz2 rfl (by decide) (.slice av k cv) k ([]++bZ k (aJ D P A C)) (by rfl) OWN1.out ⟨w2.heap.size,0,none⟩ 1 1 [.int .i64 d,.slice a2 zs.length c2] (by rfl) (by rfl) NEWS1.out (by intro u hu;simp at hu;rcases hu with rfl | rfl <;> rfl) (k+1) rfl hm1 hm1' (by simp;omega) ?_;intro av2 cv2 w3 hown3 hk3;have O3:=aA hown3;have BB3:=aA (BB2.out.trans ((((aD.refl (fun x=>(Value.slice av k cv).ownBlock=some x) w2).alloc _).drew.trans hk3).below hs2 (fun q hq hS=>by have:=(O2.out.lt q hS).1;omega)));clear hown3 hk3)
       | (refine fG (by rfl) (.tmp 44) (.tmp 47) 52 (by rfl) w1.heap.size 65 i1 (.agg #[.int .i64 0,.slice none 0 0]) 2 32 Tryz.underlying52 ki kz0 kz1 kz2 rfl (by decide) (.slice av2 (k+1) cv2) (k+1) (([]++bZ k (aJ D P A C)) ++ [.int .i64 d,.slice a2 zs.length c2]) (by rfl) O3.out ⟨b,off,none⟩ 0 0 ((bZ n (aJ D P A C)).drop (k * 2)) (by rfl) hnl (NEWS2.out w3 BB3.out) HON.out (n+1) hk1' hm2 hm2' BB3.out.size ?_;intro av3 cv3 w4 hown4 hk4;have O4:=aA hown4;have BB4:=aA (BB3.out.trans (hk4.below BB3.out.size (fun q hq hS=>by have:=(O3.out.lt q hS).1;omega)));clear hown4 hk4)))
     have O5:Hid (w4.ownsRow w1.heap.size 65 2 (.slice av3 (n+1) cv3) (n+1) (bZ (n+1) (aJ (ins D k d) (ins P k zs) (ins A k a2) (ins C k c2)))):=by rw[zE D P A C hm d zs a2 c2];exact O4.out
     have RD5:Hid (RdC w4 av3 (ins D k d) (ins P k zs) (n+1)):=RdC.of_rows O5.out (fun i hi=>by
      by_cases e1:i<k
      ·simp only[ins,if_pos e1];exact (HA.out i (by omega)).2.1.below BB4.out
      ·by_cases e2:i=k
       ·simp only[ins,if_neg e1,if_pos e2];exact HR.out.below BB4.out
       ·simp only[ins,if_neg e1,if_neg e2];exact (HA.out (i - 1) (by omega)).2.1.below BB4.out)
     have HP5:Hid (∀ i,i<n+1→0<(ins P k zs i).length∧(ins P k zs i).length≤1048576):=fun i hi=>by
      by_cases e1:i<k
      ·simp only[ins,if_pos e1];exact HP.out i (by omega)
      ·by_cases e2:i=k
       ·simp only[ins,if_neg e1,if_pos e2];exact hz
       ·simp only[ins,if_neg e1,if_neg e2];exact HP.out (i - 1) (by omega)
     clear O5 O4 O3 BB3 BB2 OWN1 NEWS1 NEWS2;go_wp2_with fail
     refine (pZ av3 cv3 (n+1) _ _ w4 RD5.out (by omega) HP5.out).mono ?_
     rintro e w5 ⟨av5,cv5,rfl,hG,hb⟩;have HG:=aA (hG.mono BB4.out.size);have HB:=aA (aB BB4.out hb);clear hG hb;go_wp2_with fail
     exact bodyPost_ret (v:=.tuple #[.slice av5 (n+1) cv5,.bool true]) (by simp[results,Tryz.results104,go_sem]) rfl ⟨av5,cv5,rfl,HG.out,HB.out⟩
    ·have hckf:¬ c=k:=hck
     go_wp2_with (first | (at_builtin;refine nV rfl (.tmp 34) (.tmp 37) 52 rfl w1.heap.size 65 i1 (.agg #[.int .i64 0,.slice none 0 0]) 2 32 Tryz.underlying52 ki kz0 kz1 kz2 rfl (by decide) (.slice (some ⟨w1.heap.size,0,none⟩) 0 0) 0 [] rfl OWN0.out ⟨b,off,none⟩ k c (bZ k (aJ D P A C)) rfl HFl NEWS0.out (oB _ _ _ _ _) k (by simp) hm0 hm0' (by simp) ?_;intro av cv w2 hown2 hk2;have O2:=aA hown2;have K2:=aA hk2;clear hown2 hk2) | fail)
     have BB2:=aA ((aC w1 (.cells #[] 65)).trans (K2.out.below (by simp) (fun q hq hS=>by simp[Value.ownBlock]at hS;omega)))
     have OWN1:Hid ((w2.alloc (.cells #[.int .i64 d,.slice a2 zs.length c2] 65)).drew.ownsRow w1.heap.size 65 2 (.slice av k cv) k ([]++bZ k (aJ D P A C))):=aG O2.out (aC _ _).drew;have NEWS1:Hid (∀ j u,[Value.int .i64 d,.slice a2 zs.length c2][j]?=some u→(w2.alloc (.cells #[.int .i64 d,.slice a2 zs.length c2] 65)).drew.cell? ((⟨w2.heap.size,0,none⟩:Addr).add j)=some u):=tX (t:=65) rfl;have NEWS2:Hid (∀ w3:World,Below w1.heap.size w1 w3→∀ j u,((bZ n (aJ D P A C)).drop (k * 2))[j]?=some u→w3.cell? ((⟨b,off+k * 2,none⟩:Addr).add j)=some u):=fun w3 hb3=>zN (n:=n) (fun i hi=>⟨(hb3.cell (p:=⟨b,off+i * 2,none⟩) (HA.out i hi).2.2).trans (HA.out i hi).1.1,(hb3.cell (p:=⟨b,off+i * 2+1,none⟩) (HA.out i hi).2.2).trans (HA.out i hi).1.2⟩) k
     have hs2:=BB2.out.size;have hnl:((bZ n (aJ D P A C)).drop (k * 2)).length=(n - k) * 2:=by rw[List.length_drop,HFn];omega
     have hk1':k+1+(n - k)=n+1:=by omega
     have hm1:k+1≤maxLen:=by unfold maxLen;omega
     have hm1':(k+1) * 32≤140737488355328:=by omega
     have hm2:k+1+(n - k)≤maxLen:=by unfold maxLen;omega
     have hm2':(k+1+(n - k)) * 32≤140737488355328:=by omega
     have hk0:(0:Int)≤(k:Int):=by omega
     have HON:=aA (fun u (hu:u∈(bZ n (aJ D P A C)).drop (k * 2))=>oB n D P A C u (List.mem_of_mem_drop hu))
     go_region_held3 (fun _=>True) (trivial)
      ((
       first
       | (refine fG (by rfl) (.tmp 39) (.tmp 43) 52 (by rfl) w1.heap.size 65 i1 (.agg #[.int .i64 0,.slice none 0 0]) 2 32 Tryz.underlying52 ki kz0 kz1 kz2 rfl (by decide) (.slice av k cv) k ([]++bZ k (aJ D P A C)) (by rfl) OWN1.out ⟨w2.heap.size,0,none⟩ 1 1 [.int .i64 d,.slice a2 zs.length c2] (by rfl) (by rfl) NEWS1.out (by intro u hu;simp at hu;rcases hu with rfl | rfl <;> rfl) (k+1) rfl hm1 hm1' (by simp;omega) ?_;intro av2 cv2 w3 hown3 hk3;have O3:=aA hown3;have BB3:=aA (BB2.out.trans ((((aD.refl (fun x=>(Value.slice av k cv).ownBlock=some x) w2).alloc _).drew.trans hk3).below hs2 (fun q hq hS=>by have:=(O2.out.lt q hS).1;omega)));clear hown3 hk3)
       | (refine fG (by rfl) (.tmp 44) (.tmp 47) 52 (by rfl) w1.heap.size 65 i1 (.agg #[.int .i64 0,.slice none 0 0]) 2 32 Tryz.underlying52 ki kz0 kz1 kz2 rfl (by decide) (.slice av2 (k+1) cv2) (k+1) (([]++bZ k (aJ D P A C)) ++ [.int .i64 d,.slice a2 zs.length c2]) (by rfl) O3.out ⟨b,off+k * 2,none⟩ (n - k) (c - k) ((bZ n (aJ D P A C)).drop (k * 2)) (by rfl) hnl (NEWS2.out w3 BB3.out) HON.out (n+1) hk1' hm2 hm2' BB3.out.size ?_;intro av3 cv3 w4 hown4 hk4;have O4:=aA hown4;have BB4:=aA (BB3.out.trans (hk4.below BB3.out.size (fun q hq hS=>by have:=(O3.out.lt q hS).1;omega)));clear hown4 hk4)))
     have O5:Hid (w4.ownsRow w1.heap.size 65 2 (.slice av3 (n+1) cv3) (n+1) (bZ (n+1) (aJ (ins D k d) (ins P k zs) (ins A k a2) (ins C k c2)))):=by rw[zE D P A C hm d zs a2 c2];exact O4.out
     have RD5:Hid (RdC w4 av3 (ins D k d) (ins P k zs) (n+1)):=RdC.of_rows O5.out (fun i hi=>by
      by_cases e1:i<k
      ·simp only[ins,if_pos e1];exact (HA.out i (by omega)).2.1.below BB4.out
      ·by_cases e2:i=k
       ·simp only[ins,if_neg e1,if_pos e2];exact HR.out.below BB4.out
       ·simp only[ins,if_neg e1,if_neg e2];exact (HA.out (i - 1) (by omega)).2.1.below BB4.out)
     have HP5:Hid (∀ i,i<n+1→0<(ins P k zs i).length∧(ins P k zs i).length≤1048576):=fun i hi=>by
      by_cases e1:i<k
      ·simp only[ins,if_pos e1];exact HP.out i (by omega)
      ·by_cases e2:i=k
       ·simp only[ins,if_neg e1,if_pos e2];exact hz
       ·simp only[ins,if_neg e1,if_neg e2];exact HP.out (i - 1) (by omega)
     clear O5 O4 O3 BB3 BB2 OWN1 NEWS1 NEWS2;go_wp2_with fail
     refine (pZ av3 cv3 (n+1) _ _ w4 RD5.out (by omega) HP5.out).mono ?_
     rintro e w5 ⟨av5,cv5,rfl,hG,hb⟩;have HG:=aA (hG.mono BB4.out.size);have HB:=aA (aB BB4.out hb);clear hG hb;go_wp2_with fail
     exact bodyPost_ret (v:=.tuple #[.slice av5 (n+1) cv5,.bool true]) (by simp[results,Tryz.results104,go_sem]) rfl ⟨av5,cv5,rfl,HG.out,HB.out⟩
end Go.Proofs.YtgaeikgoknoamaaGreat
namespace Go.Proofs.YtgaeikgoknoamaaGreat
open Go.RowKit Go.Maps
def nD (q:Int) (D:Nat→Int) (P:Nat→List Int) (n:Nat) (w:World) (e:Ending) (w':World):Prop :=
 ∃ a' c',e=.returned (.agg #[.int .i64 q,.slice a' n c'])∧GC w.heap.size w'.heap.size w' (.slice a' n c') D P n∧Below w.heap.size w w'
theorem nD.no {q:Int} {D:Nat→Int} {P:Nat→List Int} {w w':World} (h:Below w.heap.size w w'):nD q D P 0 w (.returned (.agg #[.int .i64 q,.slice none 0 0])) w':=⟨none,0,rfl,GC.nil _ _ _ _ _,h⟩
theorem nD.box {w w2:World} {B:Nat} {q:Int} {D:Nat→Int} {P:Nat→List Int} {n:Nat} {av:Option Addr} {cv:Nat} {u v:Value} (hG:GC B w2.heap.size w2 (.slice av n cv) D P n) (hB:w.heap.size<B) (hb:Below w.heap.size w w2) :
  nD q D P n w (.returned (.agg #[.int .i64 q,.slice av n cv])) ((w2.setCell ⟨w.heap.size,0,none⟩ u).setCell ⟨w.heap.size,1,none⟩ v):=by
 have hk:=aD.two w2 w.heap.size 0 1 u v;refine ⟨av,cv,rfl,((hG.kept hk (fun x h1 _ e=>by omega)).mono (by omega)).wide hk.size,(hb.setCell (Nat.le_refl _) _).setCell (Nat.le_refl _) _⟩
theorem zal {D:Nat→Int} {P:Nat→List Int} {n m:Nat} (hR:cF D P n) (hm:m≤n) {d:Int} (hlow:∀ i,i<m→D i<d) (hhigh:m<n→¬ D m<d) (hd:∀ i,i<n→D i≠d):∀ i j,i<j→j<n+1→ins D m d i<ins D m d j:=by
 have hup:∀ i,m≤i→i<n→d<D i:=fun i h1 h2=>by
  have h3:=hhigh (by omega)
  have h4:=hd m (by omega)
  by_cases e:i=m
  ·subst e;omega
  ·have:=hR.inj m i (by omega) h2
   omega
 intro i j hij hj;unfold ins;by_cases h1:i<m
 ·rw[if_pos h1]
  by_cases h2:j<m
  ·rw[if_pos h2];exact hR.inj i j hij (by omega)
  ·rw[if_neg h2]
   by_cases h3:j=m
   ·rw[if_pos h3];exact hlow i h1
   ·rw[if_neg h3];exact hR.inj i (j - 1) (by omega) (by omega)
 ·rw[if_neg h1]
  have h2:¬ j<m:=by omega
  have h3:¬ j=m:=by omega
  rw[if_neg h2,if_neg h3];by_cases h4:i=m
  ·rw[if_pos h4];exact hup (j - 1) (by omega) (by omega)
  ·rw[if_neg h4];exact hR.inj (i - 1) (j - 1) (by omega) (by omega)
theorem ztl {D:Nat→Int} (d:Int):∀ n:Nat,∃ m,m≤n∧(∀ i,i<m→D i<d)∧(m<n→¬ D m<d)
 | 0=>⟨0,Nat.le_refl _,fun i hi=>absurd hi (by omega),fun h=>absurd h (by omega)⟩
 | n+1=>by
  obtain ⟨m,h1,h2,h3⟩:=ztl (D:=D) d n;by_cases e:m<n
  ·exact ⟨m,by omega,h2,fun _=>h3 e⟩
  ·have hmn:m=n:=by omega
   subst hmn;by_cases hp:D m<d
   ·exact ⟨m+1,Nat.le_refl _,fun j hj=>by
     by_cases ej:j=m
     ·subst ej;exact hp
     ·exact h2 j (by omega),fun h=>absurd h (by omega)⟩
   ·exact ⟨m,by omega,h2,fun _=>hp⟩
end Go.Proofs.YtgaeikgoknoamaaGreat
namespace Go.Proofs.YtgaeikgoknoamaaGreat
open Go.RowKit Go.Maps
attribute [local go_sem ↓] Go.wp_at_zero Go.wp_at_succ
def plc (D:Nat→Int) (d:Int):Nat→Nat
 | 0=>0
 | n+1=>if plc D d n<n then plc D d n else if D n<d then n+1 else n
theorem zf1 (D:Nat→Int) (d:Int):∀ n,plc D d n≤n∧(∀ i,i<plc D d n→D i<d)∧(plc D d n<n→¬ D (plc D d n)<d)
 | 0=>⟨Nat.le_refl _,fun i hi=>absurd hi (by simp[plc]),fun h=>absurd h (by simp[plc])⟩
 | n+1=>by
  obtain ⟨h1,h2,h3⟩:=zf1 D d n;by_cases e:plc D d n<n
  ·have:plc D d (n+1)=plc D d n:=by simp only[plc,if_pos e]
   rw[this];exact ⟨by omega,h2,fun _=>h3 e⟩
  ·have hmn:plc D d n=n:=by omega
   by_cases hp:D n<d
   ·have:plc D d (n+1)=n+1:=by simp only[plc,if_neg e,if_pos hp]
    rw[this];refine ⟨Nat.le_refl _,fun j hj=>?_,fun h=>absurd h (by omega)⟩
    by_cases ej:j=n
    ·subst ej;exact hp
    ·exact h2 j (by omega)
   ·have:plc D d (n+1)=n:=by simp only[plc,if_neg e,if_neg hp]
    rw[this];exact ⟨by omega,fun i hi=>h2 i (by omega),fun _=>hp⟩
abbrev St:=(Nat→Int) × (Nat→List Int) × Nat
def tH (s:St) (d:Int):Bool:=(List.range s.2.2).any fun i=>s.1 i==d
theorem zne {s:St} {d:Int} (h:tH s d=true):∃ i,i<s.2.2∧s.1 i=d:=by simpa [tH] using h
theorem tI {s:St} {d:Int} (h:tH s d=false):∀ i,i<s.2.2→s.1 i≠d:=by simpa [tH] using h
def nS (s:St) (z:List Int):St:=(ins s.1 (plc s.1 (cV z) s.2.2) (cV z),ins s.2.1 (plc s.1 (cV z) s.2.2) z,s.2.2+1)
def uN (s:St) (z:List Int):Option St:=if tH s (cV z) then some s else if 40≤s.2.2 then none else some (nS s z)
def kU (s:St) (Z:Nat→List Int):Nat→Option St
 | 0=>some s
 | k+1=>(kU s Z k).bind fun t=>uN t (Z k)
theorem zcg {s:St} {Z:Nat→List Int} {k:Nat} (h:kU s Z k=none):∀ n,k≤n→kU s Z n=none:=by
 intro n hn
 induction n with
 | zero =>
      have:k=0:=by omega
      subst this;exact h
 | succ n ih =>
  by_cases e:k=n+1
  ·subst e;exact h
  ·simp only[kU,ih (by omega),Option.bind_none]
theorem wN {s t:St} {Z:Nat→List Int} {k:Nat} (h:kU s Z k=some t):kU s Z (k+1)=uN t (Z k):=by simp[kU,h]
theorem cF.put {s:St} (h:cF s.1 s.2.1 s.2.2) {z:List Int} (hz:1≤z.length∧z.length≤8) (hd:tH s (cV z)=false) (hf:¬ 40≤s.2.2):cF (nS s z).1 (nS s z).2.1 (nS s z).2.2:=by
 obtain ⟨D,P,n⟩:=s;obtain ⟨h1,h2,h3⟩:=zf1 D (cV z) n;have hdr:=qQ z;have hup:=zal h h1 h2 h3 (tI hd);simp only[nS]at *;generalize plc D (cV z) n=m at *;refine ⟨by omega,fun i hi=>?_,fun i hi=>?_,fun i hi=>?_,fun i hi=>hup i (i+1) (by omega) hi⟩
 all_goals
  unfold ins;by_cases e1:i<m
  ·simp only[if_pos e1]
   first | exact h.range i (by omega) | exact h.len i (by omega) | exact h.sum i (by omega)
  ·simp only[if_neg e1]
   by_cases e2:i=m
   ·first | (simp only[if_pos e2];done) | (simp only[if_pos e2];exact hdr) | (simp only[if_pos e2];exact hz)
   ·simp only[if_neg e2]
    first | exact h.range (i - 1) (by omega) | exact h.len (i - 1) (by omega) | exact h.sum (i - 1) (by omega)
def zml (o:Option St) (w:World) (e:Ending) (w':World):Prop :=
 (match o with
  | none=>e=.returned (.tuple #[.slice none 0 0,.bool false])
  | some t=>∃ g cv,e=.returned (.tuple #[.slice (some ⟨g,0,none⟩) t.2.2 cv,.bool true])∧t.2.2≤cv∧cF t.1 t.2.1 t.2.2∧GC w.heap.size w'.heap.size w' (.slice (some ⟨g,0,none⟩) t.2.2 cv) t.1 t.2.1 t.2.2)∧Below w.heap.size w w'
theorem yI (a:Option Addr) (c n:Nat) (D:Nat→Int) (P:Nat→List Int) (a2:Option Addr) (c2:Nat) (zs:List Int) (w:World) (h:RdC w a D P n) (hR:cF D P n) (h2:aO .u8 w a2 zs) (hu:U8 zs) (hcap:zs.length≤c2) (hl:zs.length≤1048576) :
  Calls Tryz.prog 59 #[.slice a n c,.slice a2 zs.length c2] w (zml (kU (D,P,n) (dM zs) (cut zs).length) w):=by
 have hn:n≤1048576:=by have:=hR.many;omega
 have HA:=aA h;have HRt:=aA hR;have HR:=aA h2;have HU:=aA hu;have hN:(cut zs).length≤1048576:=by rw[gP];omega
 have HPL:Hid (∀ j,j<(cut zs).length→1≤(dM zs j).length∧(dM zs j).length≤8):=fun j hj=>by rw[gP]at hj;rw[gB];omega
 have HC:=aA (zy2 a2 c2 zs w h2 hcap hl);generalize hNN:(cut zs).length=N at *;clear h hR h2 hu hNN;generalize hrs:kU (D,P,n) (dM zs) N=RS;have HRS:=aA hrs;clear hrs;go_enter Tryz.func59,Tryz.ntmps59;go_wp2_with fail
 refine HC.out.mono ?_;rintro e w1 ⟨pv,rfl,hG1,b1⟩;obtain ⟨pa,pc,rfl⟩:=hG1.shape;have G1:=aA hG1;have B1:=aA b1;have hs1:=b1.size;clear hG1 b1 HC;go_wp2_with fail
 refine (vU a c n D P w1 (HA.out.below B1.out) hn (fun i hi=>HRt.out.u8len hi)).mono ?_
 rintro e w2 ⟨g2,cv2,rfl,hcv2,hG2,b2⟩;have hs2:=b2.size;have C2:=aA (hG2.mono hs1);have G2:=aA (G1.out.below b2);have B2:=aA (aB B1.out b2);clear hG2 b2 G1 B1;go_wp2
 go_loopw [7,8,9,10] (fun v i _ _ wr=>∃ (j:Nat) (t:St) (g cv:Nat),j≤N∧i=.int .i64 j∧v=.slice (some ⟨g,0,none⟩) t.2.2 cv∧t.2.2≤cv∧kU (D,P,n) (dM zs) j=some t∧cF t.1 t.2.1 t.2.2∧GC w.heap.size wr.heap.size wr (.slice (some ⟨g,0,none⟩) t.2.2 cv) t.1 t.2.1 t.2.2∧fU w.heap.size wr (.slice pa N pc) (dM zs) N∧Below w.heap.size w wr) (fun _ i _ _ _=>N - (intOf i).toNat)
 case atStart=>exact ⟨0,(D,P,n),g2,cv2,Nat.zero_le _,rfl,rfl,hcv2,rfl,HRt.out,C2.out,G2.out,B2.out⟩
 case round =>
  obtain ⟨j,⟨D1,P1,n1⟩,g,cv,hj,rfl,rfl,hcv,hrun,hR1,hG,hP,hbel⟩:=hrel;simp only at hcv hR1 hG;have HW:=aA hbel;have hsz:=hbel.size;have HG:=aA hG;have HPr:=aA hP;have HR1:=aA hR1;have hn40:=hR1.many;have HRun:=aA hrun;have HNx:=aA (wN hrun);clear C2 G2 B2 hG hR1 hrun hbel;by_cases hlt:j<N
  ·obtain ⟨gp,x,dx,rfl,hc0,hr0⟩:=hP.at hlt
   have hpl:=HPL.out j hlt;have HUz:=aA (HU.out.piece j);have hgp:gp<wr.heap.size:=World.block_lt_of_cell? wr ⟨gp,j,none⟩ hc0;have hj0:(0:Int)≤(j:Int):=by omega
   have hj1:(j:Int)<(N:Int):=by omega
   generalize dM zs j=z at *;have HRz:=aA hr0;have HDg:=aA (mQ x dx z wr.drew hr0 HUz.out (by omega))
   have HRd:=aA (HG.out.rd);have HPl1:Hid (∀ i,i<n1→0<(P1 i).length∧(P1 i).length≤1048576):=fun i hi=>HR1.out.u8len hi
   clear hr0 hP;cases hh:tH (D1,P1,n1) (cV z) with
   | true =>
    have HEq:Hid (kU (D,P,n) (dM zs) (j+1)=some (D1,P1,n1)):=by rw[HNx.out];unfold uN;rw[if_pos hh];exact aA rfl
    have HPt:=aA (zz1 (some ⟨g,0,none⟩) cv n1 D1 P1 (cV z) x z.length dx wr.drew HRd.out (by omega) HPl1.out (zne hh))
    clear hh;generalize cV z=dz at *;go_wp2_with fail
    go_region_held3 (fun w'=>w'.cell? ⟨gp,j,none⟩=some (.slice x z.length dx)) (first | trivial | go_keep | (exact (hbp.cell (p:=⟨gp,j,none⟩) hgp).trans hc0))
     ((
      first
      | (go_at_call 105;refine HDg.out.mono ?_;rintro e w1' ⟨rfl,rfl⟩)
      | (go_at_call 104;refine HPt.out.mono ?_;rintro e w3 ⟨g3,cv3,rfl,hcv3,hG3,hbp⟩;have C3:=aA hG3;have BB3:=aA (((Below.refl wr.heap.size wr).drew).trans hbp);clear hG3)))
    clear hbp;go_wp2
    go_roundw
    case rel=>exact ⟨j+1,(D1,P1,n1),g3,cv3,by omega,by go_num,rfl,hcv3,HEq.out,HR1.out,C3.out.mono hsz,HPr.out.below BB3.out,lY HW.out BB3.out⟩
    case measure=>simp[intOf];omega
   | false =>
    by_cases hf:40≤n1
    ·have HEq:Hid (RS=none):=by rw[←HRS.out];exact zcg (k:=j+1) (by rw[HNx.out];unfold uN;rw[hh,if_neg (by simp),if_pos hf]) N (by omega)
     have HPt:=aA (zjc (some ⟨g,0,none⟩) cv n1 D1 P1 (cV z) x z.length dx wr.drew HRd.out (by omega) (tI hh) hf)
     clear hh;generalize cV z=dz at *;go_wp2_with fail
     go_region_held3 (fun w'=>w'.cell? ⟨gp,j,none⟩=some (.slice x z.length dx)) (first | trivial | go_keep | (exact (hbp.cell (p:=⟨gp,j,none⟩) hgp).trans hc0))
      ((
       first
       | (go_at_call 105;refine HDg.out.mono ?_;rintro e w1' ⟨rfl,rfl⟩)
       | (go_at_call 104;refine HPt.out.mono ?_;rintro e w3 ⟨rfl,hbp⟩;have BB3:=aA (((Below.refl wr.heap.size wr).drew).trans hbp))))
     clear hbp;have HE:=HEq.out;subst HE;go_wp2
     exact bodyPost_ret (v:=.tuple #[.slice none 0 0,.bool false]) (by simp[results,Tryz.results59,go_sem]) rfl ⟨rfl,lY HW.out BB3.out⟩
    ·have HEq:Hid (kU (D,P,n) (dM zs) (j+1)=some (nS (D1,P1,n1) z)):=by rw[HNx.out];unfold uN;rw[hh,if_neg (by simp),if_neg hf];exact aA rfl
     have HR2:=aA (cF.put (s:=(D1,P1,n1)) HR1.out hpl hh hf);obtain ⟨p1,p2,p3⟩:=zf1 D1 (cV z) n1;have HPt:=aA (zaf g 0 cv n1 (plc D1 (cV z) n1) D1 P1 (cV z) x dx z wr.drew HRd.out hcv (by omega) HPl1.out HRz.out ⟨by omega,by omega⟩ (tI hh) p1 p2 p3)
     have HPu:Hid (nS (D1,P1,n1) z=(ins D1 (plc D1 (cV z) n1) (cV z),ins P1 (plc D1 (cV z) n1) z,n1+1)):=aA rfl;clear hh p1 p2 p3;generalize hpu:nS (D1,P1,n1) z=t2 at *;clear hpu;obtain ⟨D2,P2,n2⟩:=t2;simp only[Prod.mk.injEq]at HPu;obtain ⟨hD2,hP2,hn2⟩:=HPu.out;rw[←hD2,←hP2,←hn2]at HPt;have hn2p:0<n2:=by omega
     clear HPu hD2 hP2 hn2;generalize cV z=dz at *;go_wp2_with fail
     go_region_held3 (fun w'=>w'.cell? ⟨gp,j,none⟩=some (.slice x z.length dx)) (first | trivial | go_keep | (exact (hbp.cell (p:=⟨gp,j,none⟩) hgp).trans hc0))
      ((
       first
       | (go_at_call 105;refine HDg.out.mono ?_;rintro e w1' ⟨rfl,rfl⟩)
       | (go_at_call 104;refine HPt.out.mono ?_;rintro e w3 ⟨av3,cv3,rfl,hG3,hbp⟩;obtain ⟨g3,h3,hcv3⟩:=hG3.addr (.inl hn2p);subst h3;have C3:=aA hG3;have BB3:=aA (((Below.refl wr.heap.size wr).drew).trans hbp);clear hG3)))
     clear hbp;go_wp2
     go_roundw
     case rel=>exact ⟨j+1,(D2,P2,n2),g3,cv3,by omega,by go_num,rfl,hcv3,HEq.out,HR2.out,C3.out.mono hsz,HPr.out.below BB3.out,lY HW.out BB3.out⟩
     case measure=>simp[intOf];omega
  ·have hje:j=N:=by omega
   subst hje;have HE:RS=some (D1,P1,n1):=by rw[←HRS.out];exact HRun.out
   subst HE;clear hP;go_wp2
   exact bodyPost_ret (v:=.tuple #[.slice (some ⟨g,0,none⟩) n1 cv,.bool true]) (by simp[results,Tryz.results59,go_sem]) rfl ⟨⟨g,cv,rfl,hcv,HR1.out,HG.out⟩,HW.out⟩
end Go.Proofs.YtgaeikgoknoamaaGreat
