/-
  Texts put together: KepL KepC ColT IteG ColU ColY.
-/
import Derived.Test.YtgaeikgoknoamaaGreatKKeeps27
import Derived.Test.YtgaeikgoknoamaaGreatKKeeps28
import Derived.Test.YtgaeikgoknoamaaGreatKKeeps25
import Derived.Test.YtgaeikgoknoamaaGreatKKeeps26
import Derived.Test.YtgaeikgoknoamaaGreatKKeeps13
import Derived.Test.YtgaeikgoknoamaaGreatKKeeps2
import Derived.Lib.SliceRun
import Derived.Deep.LoopGhost
import Derived.Test.YtgaeikgoknoamaaGreatKKeeps19
import Derived.Test.YtgaeikgoknoamaaGreatKKeeps14
import Derived.Test.YtgaeikgoknoamaaGreatKKeeps10
import Derived.Test.YtgaeikgoknoamaaGreatKKeeps6
import Derived.Test.YtgaeikgoknoamaaGreatKKeeps16
set_option linter.unusedVariables false
set_option maxHeartbeats 6400000
set_option maxRecDepth 100000
namespace Go.Proofs.YtgaeikgoknoamaaGreat
def aT (Z:List Int) (D:Nat→Int) (P:Nat→List Int) (n:Nat):List Ch:=(lst D P n).filter fun p=>Z.contains p.1
theorem mM (Z:List Int) (D:Nat→Int) (P:Nat→List Int) (n:Nat):(aT Z D P n).length≤n:=by
 have:=List.length_filter_le (fun p:Ch=>Z.contains p.1) (lst D P n)
 rw[zpc]at this;exact this
theorem zw2 (Z:List Int) (D:Nat→Int) (P:Nat→List Int) (n:Nat):aT Z D P (n+1)=if Z.contains (D n) then aT Z D P n ++ [(D n,P n)] else aT Z D P n:=by
 unfold aT;rw[zI,List.filter_append];by_cases h:Z.contains (D n)=true
 ·have h':D n∈Z:=by simpa using h
  rw[if_pos h];simp[h']
 ·have h':D n∉Z:=by simpa using h
  rw[if_neg h];simp[h']
theorem qL {Z:List Int} {D:Nat→Int} {P:Nat→List Int} {n i:Nat} (hi:i<(aT Z D P n).length):∃ j,j<n∧dg (aT Z D P n) i=D j∧bt (aT Z D P n) i=P j∧D j∈Z:=by
 have hm:(aT Z D P n)[i]'hi∈aT Z D P n:=List.getElem_mem hi;unfold aT at hm;obtain ⟨h1,h2⟩:=List.mem_filter.1 hm;obtain ⟨j,hj,he⟩:=xG.1 h1;refine ⟨j,hj,?_,?_,?_⟩
 ·unfold dg
  rw[List.getD_eq_getElem?_getD,List.getElem?_eq_getElem hi,Option.getD_some]
  have:(aT Z D P n)[i]=(D j,P j):=he;rw[this]
 ·unfold bt
  rw[List.getD_eq_getElem?_getD,List.getElem?_eq_getElem hi,Option.getD_some]
  have:(aT Z D P n)[i]=(D j,P j):=he;rw[this]
 ·have h3:Z.contains ((aT Z D P n)[i]'hi).1=true:=h2
  have:(aT Z D P n)[i]=(D j,P j):=he;rw[this]at h3;simpa using h3
theorem zv2 {Z:List Int} {D:Nat→Int} {P:Nat→List Int} {n:Nat} (hR:cF D P n):(aT Z D P n).Pairwise (fun p q=>p.1<q.1):=by
 refine List.Pairwise.sublist List.filter_sublist ?_;unfold lst;rw[List.pairwise_map];refine List.pairwise_iff_getElem.2 fun i j hi hj hij=>?_
 simp only[List.length_range]at hi hj;simp only[List.getElem_range];exact hR.inj i j hij hj
theorem lP {Z:List Int} {D:Nat→Int} {P:Nat→List Int} {n:Nat} (hR:cF D P n):cF (dg (aT Z D P n)) (bt (aT Z D P n)) (aT Z D P n).length:=by
 refine ⟨by have:=mM Z D P n;have:=hR.many;omega,fun i hi=>?_,fun i hi=>?_,fun i hi=>?_,fun i hi=>?_⟩
 ·obtain ⟨j,hj,h1,-,-⟩:=qL hi
  rw[h1];exact hR.range j hj
 ·obtain ⟨j,hj,-,h2,-⟩:=qL hi
  rw[h2];exact hR.len j hj
 ·obtain ⟨j,hj,h1,h2,-⟩:=qL hi
  rw[h1,h2];exact hR.sum j hj
 ·have h9:=List.pairwise_iff_getElem.1 (zv2 (Z:=Z) hR) i (i+1) (by omega) hi (by omega)
  unfold dg;rw[List.getD_eq_getElem?_getD,List.getElem?_eq_getElem (by omega),List.getD_eq_getElem?_getD,List.getElem?_eq_getElem hi]
  exact h9
theorem zy1 {Z:List Int} {D:Nat→Int} {P:Nat→List Int} {n m:Nat} (hP:∀ i,i<n→U8 (P i)∧(P i).length≤m):∀ i,i<(aT Z D P n).length→U8 (bt (aT Z D P n) i)∧(bt (aT Z D P n) i).length≤m:=fun i hi=>by
 obtain ⟨j,hj,-,h2,-⟩:=qL hi;rw[h2];exact hP j hj
theorem zef (L:List Ch):lst (dg L) (bt L) L.length=L:=by
 apply List.ext_getElem?
 intro i;unfold lst;rw[List.getElem?_map];by_cases h:i<L.length
 ·rw[List.getElem?_range h,List.getElem?_eq_getElem h]
  simp[dg,bt,List.getD_eq_getElem?_getD,List.getElem?_eq_getElem h]
 ·rw[List.getElem?_eq_none (by simpa using h),List.getElem?_eq_none (by simpa using h)]
  rfl
theorem zlk {Z:List Int} {D:Nat→Int} {P:Nat→List Int} {n:Nat} (hR:cF D P n):up (aT Z D P n)=aT Z D P n:=by
 have hk:=zv2 (Z:=Z) hR;have hn:((aT Z D P n).map Prod.fst).Nodup:=by
  unfold List.Nodup;rw[List.pairwise_map];exact hk.imp (fun h=>by omega)
 exact zfg (zmk hn) (zxl hn) hk
theorem znf {Z:List Int} {D:Nat→Int} {P:Nat→List Int} {n:Nat} (hR:cF D P n) {z:Int} (hz:z∈Z):lR (dg (aT Z D P n)) (bt (aT Z D P n)) (aT Z D P n).length z=lR D P n z:=by
 have hK:=lP (Z:=Z) hR;cases h:lR D P n z with
 | none =>
  refine nQ.2 fun i hi e=>?_
  obtain ⟨j,hj,h1,-,-⟩:=qL hi;exact nQ.1 h j hj (h1.symm.trans e)
 | some x =>
  obtain ⟨i,hi,rfl,rfl⟩:=qG h;have hm:(D i,P i)∈aT Z D P n:=List.mem_filter.2 ⟨xG.2 ⟨i,hi,rfl⟩,by simpa using hz⟩
  obtain ⟨j,hj,he⟩:=List.mem_iff_getElem.1 hm;have e1:dg (aT Z D P n) j=D i:=by
   unfold dg;rw[List.getD_eq_getElem?_getD,List.getElem?_eq_getElem hj,Option.getD_some,he]
  have e2:bt (aT Z D P n) j=P i:=by
   unfold bt;rw[List.getD_eq_getElem?_getD,List.getElem?_eq_getElem hj,Option.getD_some,he]
  rw[←e1,←e2];exact zzh hK hj
theorem zu2 {Z:List Int} {D:Nat→Int} {P:Nat→List Int} {n:Nat} (hR:cF D P n):∀ {zs:List Int},(∀ z∈zs,z∈Z)→pV (dg (aT Z D P n)) (bt (aT Z D P n)) (aT Z D P n).length zs=pV D P n zs
 | [],_=>rfl
 | z :: r,h=>by
  unfold pV;rw[znf hR (h z (List.mem_cons_self ..)),zu2 hR (fun y hy=>h y (List.mem_cons_of_mem _ hy))]
theorem zik {Z:List Int} {D:Nat→Int} {P:Nat→List Int} {n:Nat} (hR:cF D P n) {e:En} (h:∀ z∈e.chunks,z∈Z):rdQ (dg (aT Z D P n)) (bt (aT Z D P n)) (aT Z D P n).length e=rdQ D P n e:=by
 unfold rdQ;rw[zu2 hR h]
theorem zyg {Z:List Int} {D:Nat→Int} {P:Nat→List Int} {n:Nat} (hR:cF D P n) (ls:List (List En)) (p:Bs):pI ls (dg (aT Z D P n)) (bt (aT Z D P n)) (aT Z D P n).length p=pI ls D P n p:=by
 have h1:nN ls (dg (aT Z D P n)) (bt (aT Z D P n)) (aT Z D P n).length=nN ls D P n:=by
  unfold nN;rw[jI hR,jI (lP (Z:=Z) hR)]
 unfold pI;rw[h1]
theorem zfe {Z:List Int} {D:Nat→Int} {P:Nat→List Int} {n:Nat} (hR:cF D P n) {ls:List (List En)} {p:Bs} {e:En} (h:vA ls D P n p e):vA ls (dg (aT Z D P n)) (bt (aT Z D P n)) (aT Z D P n).length p e :=
 ⟨h.lays,jI (lP hR),h.plc,h.look,h.find,h.kind,h.ent⟩
theorem zm6 {ls:List (List En)} {p:Bs} {e:En} (h:e∈kI ls p):∃ es∈ls,∃ e0∈es,e.chunks=e0.chunks:=by
 unfold kI at h;split at h
 ·split at h
  ·rename_i m hm
   obtain ⟨e0,h1,rfl⟩:=Option.map_eq_some_iff.1 (Option.mem_toList.1 h);obtain ⟨es,h2,h3,-⟩:=iV h1;exact ⟨es,h2,e0,h3,zw7 e0⟩
  ·simp at h
 ·simp at h
theorem zgf {es:List En} {e:En} {z:Int} (he:e∈es) (hz:z∈e.chunks):z∈dE es:=List.mem_flatMap.2 ⟨e,he,hz⟩
theorem za8 {l:List Sn} {s:Sn} {es:List En} (hs:s∈l) (h:es∈cH l s):∃ y∈l,es=y.layer:=by
 unfold cH at h;rw[List.mem_reverse,List.mem_map]at h;obtain ⟨y,hy,rfl⟩:=h;exact ⟨y,lH (f:=5) (o:=some s) (fun x hx=>by cases hx;exact hs) y hy,rfl⟩
theorem zge {l:List Sn} {s:Sn} {p:Bs} {e:En} {D:Nat→Int} {P:Nat→List Int} {n:Nat} (hs:s∈l) (h:vA (cH l s) D P n p e):∀ z∈e.chunks,z∈aU l:=fun z hz=>by
 obtain ⟨es,h1,e0,h2,h3⟩:=zm6 (p:=p) (e:=e) (ls:=cH l s) (by rw[h.look];simp)
 obtain ⟨y,hy,rfl⟩:=za8 hs h1;exact yN.2 ⟨y,hy,zgf h2 (by rw[←h3];exact hz)⟩
theorem zgc {l:List Sn} {s:Sn} {D:Nat→Int} {P:Nat→List Int} {n:Nat} (hR:cF D P n) (hs:s∈l) (p:Bs) :
  (∃ q,q≠0∧pI (cH l s) D P n p=q∧pI (cH l s) (dg (aT (aU l) D P n)) (bt (aT (aU l) D P n)) (aT (aU l) D P n).length p=q) ∨
  ∃ e,vA (cH l s) D P n p e∧vA (cH l s) (dg (aT (aU l) D P n)) (bt (aT (aU l) D P n)) (aT (aU l) D P n).length p e∧rdQ (dg (aT (aU l) D P n)) (bt (aT (aU l) D P n)) (aT (aU l) D P n).length e=rdQ D P n e:=by
 by_cases h:pI (cH l s) D P n p=0
 ·obtain ⟨e,he⟩:=zzg h
  exact .inr ⟨e,he,zfe hR he,zik hR (zge hs he)⟩
 ·exact .inl ⟨_,h,rfl,zyg hR _ p⟩
end Go.Proofs.YtgaeikgoknoamaaGreat
namespace Go.Proofs.YtgaeikgoknoamaaGreat
open Go.RowKit Go.Maps
attribute [local go_sem ↓] Go.wp_at_zero Go.wp_at_succ
def LC (B:Nat) (w0 w:World) (v:Value) (D:Nat→Int) (P:Nat→List Int) (n:Nat):Prop :=
 ∃ (A:Nat→Option Addr) (C:Nat→Nat),w.ownsRow B 65 2 v n (bZ n (aJ D P A C))∧∀ i,i<n→aO .u8 w0 (A i) (P i)
theorem LC.shape {B:Nat} {w0 w:World} {v:Value} {D:Nat→Int} {P:Nat→List Int} {n:Nat} (h:LC B w0 w v D P n):∃ a c,v=.slice a n c:=by
 obtain ⟨A,C,h1,-⟩:=h;exact aQ h1
theorem LC.nil (B:Nat) (w0 w:World) (D:Nat→Int) (P:Nat→List Int):LC B w0 w (.slice none 0 0) D P 0:=⟨fun _=>none,fun _=>0,World.ownsRow_nil _ _ _ _,fun i hi=>absurd hi (by omega)⟩
theorem LC.made (w0 w:World) (D:Nat→Int) (P:Nat→List Int):LC w.heap.size w0 (w.alloc (.cells #[] 65)) (.slice (some ⟨w.heap.size,0,none⟩) 0 0) D P 0 :=
 ⟨fun _=>none,fun _=>0,World.ownsRow_made w #[] 0 (Nat.le_refl _) (Nat.zero_le _) rfl,fun i hi=>absurd hi (by omega)⟩
theorem LC.below {B:Nat} {w0 w w':World} {v:Value} {D:Nat→Int} {P:Nat→List Int} {n:Nat} (h:LC B w0 w v D P n) (hk:Below w.heap.size w w'):LC B w0 w' v D P n:=by
 obtain ⟨A,C,h1,h2⟩:=h;exact ⟨A,C,aG h1 hk,h2⟩
theorem LC.congr {B:Nat} {w0 w:World} {v:Value} {D D':Nat→Int} {P P':Nat→List Int} {n:Nat} (h:LC B w0 w v D P n) (hD:∀ i,i<n→D' i=D i) (hP:∀ i,i<n→P' i=P i):LC B w0 w v D' P' n:=by
 obtain ⟨A,C,h1,h2⟩:=h;refine ⟨A,C,?_,fun i hi=>by rw[hP i hi];exact h2 i hi⟩
 rw[kE (G:=aJ D P A C) (fun i hi=>by simp[aJ,hD i hi,hP i hi])]
 exact h1
theorem LC.rdC {B:Nat} {w0 w:World} {a:Option Addr} {c n:Nat} {D:Nat→Int} {P:Nat→List Int} (h:LC B w0 w (.slice a n c) D P n) (hb:Below w0.heap.size w0 w):RdC w a D P n:=by
 obtain ⟨A,C,h1,h2⟩:=h;exact RdC.of_rows h1 (fun i hi=>(h2 i hi).below hb)
theorem LC.push {B:Nat} {w0 w2:World} {v':Value} {D:Nat→Int} {P:Nat→List Int} {j c:Nat} {A:Nat→Option Addr} {C:Nat→Nat} {d:Int} {zs:List Int} {a:Option Addr}
  (h2:∀ i,i<j→aO .u8 w0 (A i) (P i)) (hr:aO .u8 w0 a zs)
  (hv':w2.ownsRow B 65 2 v' (j+1) (bZ j (aJ D P A C) ++ [.int .i64 d,.slice a zs.length c])):LC B w0 w2 v' (upd D j d) (upd P j zs) (j+1):=by
 refine ⟨upd A j a,upd C j c,?_,fun i hi=>?_⟩
 ·rw[oY]
  have e:bZ j (aJ (upd D j d) (upd P j zs) (upd A j a) (upd C j c))=bZ j (aJ D P A C):=kE (fun i hi=>by
   have:i≠j:=by omega
   simp[aJ,dO _ _ _ this])
  rw[e];simpa [aJ,eO] using hv'
 ·by_cases e:i=j
  ·subst e
   simp only[eO];exact hr
  ·simp only[dO _ _ _ e]
   exact h2 i (by omega)
theorem zmj (L:List Ch) (p:Ch):∀ i,i<L.length+1→dg (L ++ [p]) i=upd (dg L) L.length p.1 i:=fun i hi=>by
 unfold dg upd;by_cases e:i=L.length
 ·rw[if_pos e,e];simp
 ·rw[if_neg e]
  show ((L ++ [p]).getD i (0,[])).1=(L.getD i (0,[])).1
  rw[List.getD_eq_getElem?_getD,List.getD_eq_getElem?_getD,List.getElem?_append_left (by omega)]
theorem zgj (L:List Ch) (p:Ch):∀ i,i<L.length+1→bt (L ++ [p]) i=upd (bt L) L.length p.2 i:=fun i hi=>by
 unfold bt upd;by_cases e:i=L.length
 ·rw[if_pos e,e];simp
 ·rw[if_neg e]
  show ((L ++ [p]).getD i (0,[])).2=(L.getD i (0,[])).2
  rw[List.getD_eq_getElem?_getD,List.getD_eq_getElem?_getD,List.getElem?_append_left (by omega)]
theorem LC.snoc {B:Nat} {w0 w2:World} {v':Value} {L:List Ch} {c m:Nat} {A:Nat→Option Addr} {C:Nat→Nat} {p:Ch} {a:Option Addr} (hm:m=L.length)
  (h2:∀ i,i<m→aO .u8 w0 (A i) (bt L i)) (hr:aO .u8 w0 a p.2)
  (hv':w2.ownsRow B 65 2 v' (m+1) (bZ m (aJ (dg L) (bt L) A C) ++ [.int .i64 p.1,.slice a p.2.length c])):LC B w0 w2 v' (dg (L ++ [p])) (bt (L ++ [p])) (L ++ [p]).length:=by
 subst hm;have h:=LC.push h2 hr hv';have e:(L ++ [p]).length=L.length+1:=by simp
 rw[e];exact h.congr (zmj L p) (zgj L p)
def zwi (W0:World) (fn:FuncId) (cap:Array Value) (f:Int→Bool):Prop :=
 (∀ args w,(callFunc fn args).run Tryz.prog w=.ok (.enter fn args) w)∧∀ (d:Int) (a:Option Addr) (n c:Nat) (w:World),Below W0.heap.size W0 w →
  Calls Tryz.prog fn (#[.agg #[.int .i64 d,.slice a n c]]++cap) w fun r w'=>r=.returned (.bool (f d))∧Below w.heap.size w w'
theorem zid (a:Option Addr) (c n:Nat) (D:Nat→Int) (P:Nat→List Int) (fn:FuncId) (cap:Array Value) (Z:List Int) (f:Int→Bool) (w0 w:World) (hb0:Below w0.heap.size w0 w) (h:RdC w0 a D P n) (hn:n≤1048576) (hf:zwi w fn cap f) (hfz:∀ d,f d=Z.contains d) :
  Calls Tryz.prog 60 #[.slice a n c,.func (.func fn) #[] cap] w fun r w'=>∃ av cv,r=.returned (.slice av (aT Z D P n).length cv)∧LC w.heap.size w0 w' (.slice av (aT Z D P n).length cv) (dg (aT Z D P n)) (bt (aT Z D P n)) (aT Z D P n).length∧Below w.heap.size w w':=by
 obtain ⟨i1,ki,kz0,kz1,kz2⟩:=info_parts Tryz.infoCh;have eg:=hf.1;have HF:=aA hf;have HFZ:=aA hfz;have HA:=aA h;have HB0:=aA hb0;clear h hf hb0 hfz;go_enter Tryz.func60,Tryz.ntmps60;go_wp2_with fail
 go_loopw [5,10] (fun v i wr=>∃ k:Nat,k≤n∧i=.int .i64 k∧Hid (LC w.heap.size w0 wr v (dg (aT Z D P k)) (bt (aT Z D P k)) (aT Z D P k).length)∧Hid (Below w.heap.size w wr)) (fun _ i _=>n - (intOf i).toNat)
 case atStart=>exact ⟨0,Nat.zero_le _,rfl,aA (LC.nil _ _ _ _ _),aA (Below.refl _ _)⟩
 case round =>
  obtain ⟨k,hk,rfl,HL,HW⟩:=hrel;have hsz:=HW.out.size;obtain ⟨lv,lc,hv⟩:=HL.out.shape;subst hv;have hrl:=mM Z D P k;by_cases hlt:k<n
  ·obtain ⟨b1,o1,A1,C1,rfl,hb1,hc1⟩:=HA.out (by omega)
   obtain ⟨c1,e1,r1⟩:=hc1 k hlt;have HWW:=aA (aB HB0.out HW.out);have c1:=(HWW.out.cell (p:=⟨b1,o1+k * 2,none⟩) hb1).trans c1;have e1:=(HWW.out.cell (p:=⟨b1,o1+k * 2+1,none⟩) hb1).trans e1;have HRc:=aA r1;have HST:=aA (zw2 Z D P k);clear hc1 r1;generalize A1 k=a1 at *;generalize C1 k=d1 at *;generalize P k=xs at *;generalize D k=dd at *;have BA:=aA (aC wr (.cells #[.int .i64 dd,.slice a1 xs.length d1] 65));have T2:=aA (Two.new wr (.int .i64 dd) (.slice a1 xs.length d1) 65);go_wp2_with fail
   refine (HF.out.2 dd a1 xs.length d1 _ (aB HW.out BA.out)).mono ?_;rintro r w3 ⟨rfl,hb3⟩;have BB5:=aA (aB BA.out hb3);obtain ⟨f0,f1⟩:=T2.out.below hb3;clear hb3 c1 e1;rw[←HFZ.out dd]at HST;cases hq:f dd
   ·rw[hq]at HST
    clear hq;go_wp2_with fail
    go_roundw
    case rel=>exact ⟨k+1,by omega,by go_num,aA (by rw[HST.out];exact HL.out.below BB5.out),aA (aB HW.out BB5.out)⟩
    case measure=>simp[intOf];omega
   ·rw[hq,if_pos rfl]at HST
    clear hq;obtain ⟨A,C,g2,g3⟩:=HL.out;have G2:=aA (aG g2 BB5.out);have G3:=aA g3;clear g2 g3;obtain ⟨L,hL⟩:∃ L,L=aT Z D P k:=⟨_,rfl⟩;rw[←hL]at hrl G2 G3 HST ⊢;clear hL HL;obtain ⟨m,hm⟩:∃ m,m=L.length:=⟨_,rfl⟩;rw[←hm]at hrl G2 G3 ⊢;have HLn:=aA hm;clear hm;have hm1:m+1≤maxLen:=by unfold maxLen;omega
    have hm1':(m+1) * 32≤140737488355328:=by omega
    have hsz5:=BB5.out.size;go_wp2_with (at_builtin;refine dQ rfl (.tmp 17) (.tmp 19) 108 rfl w.heap.size 65 i1 (.agg #[.int .i64 0,.slice none 0 0]) 2 32 Tryz.underlying108 ki kz0 kz1 kz2 rfl (by decide) _ _ _ rfl G2.out _ rfl rfl rfl (by intro u hu;simp at hu;rcases hu with rfl | rfl <;> rfl) hm1 hm1' (by omega) ?_;intro av6 cv6 w6 hown6 hk6;have O6:=aA hown6;have K6:=aA hk6;clear hown6 hk6)
    go_roundw
    case rel =>
     refine ⟨k+1,by omega,by go_num,aA ?_,aA ?_⟩
     ·rw[HST.out]
      exact LC.snoc (p:=(dd,xs)) HLn.out G3.out HRc.out O6.out
     ·exact (aB HW.out BB5.out).trans (K6.out.below (by omega) (fun q hq hS=>by have:=(G2.out.lt q hS).1;omega))
    case measure=>simp[intOf];omega
  ·have hke:k=n:=by omega
   subst hke;go_wp2_with fail
   go_ret
   exact ⟨lv,lc,rfl,HL.out,HW.out⟩
theorem Box.lt' {w:World} {b:Nat} {u v:Value} (h:Box w b u v):b<w.heap.size:=h.1.lt
theorem zld (a:Option Addr) (c:Nat) (ms:List Int) (z:Int) (w:World) (h:aO .i64 w a ms) (hl:ms.length≤1048576) :
  Calls Tryz.prog 106 #[.slice a ms.length c,.int .i64 z] w fun e w'=>(∃ i:Int,e=.returned (.int .i64 i)∧decide (0≤i)=ms.contains z∧-1≤i∧i≤1048576)∧w'=w:=by
 have HA:=aA h;clear h;generalize hr:ms.contains z=r;have HR:=aA hr;clear hr;go_enter Tryz.func106,Tryz.ntmps106;go_wp2
 go_loop [5,8] (fun _ i=>∃ k:Nat,k≤ms.length∧i=.int .i64 k∧∀ j,j<k→ms.getD j 0≠z) (fun _ i=>ms.length - (intOf i).toNat)
 case atStart=>exact ⟨0,Nat.zero_le _,rfl,fun j hj=>absurd hj (by omega)⟩
 case round =>
  obtain ⟨k,hk,rfl,hF⟩:=hrel;have HF:=aA hF;clear hF;by_cases hlt:k<ms.length
  ·obtain ⟨b,off,rfl,hb1,hc⟩:=HA.out (by intro e;simp[e]at hlt)
   have hc1:=hc k hlt;generalize hy:ms.getD k 0=y at hc1;have HY:=aA hy;clear hy hc;by_cases e:y=z
   ·have e':(z==y)=true:=by simpa using e.symm
    have HE:=aA e;clear e;go_wp2
    go_ret
    exact ⟨⟨_,rfl,by rw[←HR.out,zha hlt (HY.out.trans HE.out)];simp,by omega,by omega⟩,rfl⟩
   ·have e':(z==y)=false:=by simpa using fun h=>e h.symm
    go_wp2
    go_round
    case rel=>exact ⟨k+1,by omega,by go_num,fun j hj=>by
     by_cases ej:j=k
     ·subst ej;rw[HY.out];exact e
     ·exact HF.out j (by omega)⟩
    case measure=>simp[intOf];omega
  ·go_wp2
   go_ret
   exact ⟨⟨_,rfl,by rw[←HR.out,zq5 (fun j hj=>HF.out j (by omega))];simp,by omega,by omega⟩,rfl⟩
theorem pO (a:Option Addr) (c:Nat) (ms:List Int) (z:Int) (w:World) (h:aO .i64 w a ms) (hl:ms.length≤1048576) :
  Calls Tryz.prog 62 #[.slice a ms.length c,.int .i64 z] w fun e w'=>e=.returned (.bool (ms.contains z))∧w'=w:=by
 have HC:=aA (zld a c ms z w h hl);clear h;generalize ms.contains z=r at *;go_enter Tryz.func62,Tryz.ntmps62;go_wp2_with fail
 refine HC.out.mono ?_;rintro e w1 ⟨⟨i,rfl,hi,h1,h2⟩,rfl⟩;subst hi;go_wp2_with fail
 go_ret
 exact ⟨rfl,rfl⟩
def gO (es:List En):List Int:=if bE es=0 then cZ (dE es) else []
theorem qS (a:Option Addr) (c n:Nat) (es:List En) (w:World) (h:RdE w a es) (hn:n=es.length) (hl:es.length≤1048576) (hs:cG es) :
  Calls Tryz.prog 25 #[.slice a n c] w (zzl (bE es) (gO es) w):=by
 subst hn;obtain ⟨i0,hi0,hz0,hz1,hz2⟩:=info_parts Tryz.infoI64;have X0:=aA (Box.new w (.int .i64 0) (.slice none 0 0) 50);have B0:=aA (aC w (.cells #[.int .i64 0,.slice none 0 0] 50));have HR:=aA h;have HS:=aA hs;clear h hs;go_enter Tryz.func25,Tryz.ntmps25;go_wp2_with fail
 refine (jA a c es.length es _ (HR.out.below B0.out) rfl hl HS.out).mono ?_;rintro r w1 ⟨rfl,hb1⟩;have B1:=aA (aB B0.out hb1);have X1:=aA (X0.out.below hb1);clear hb1 X0 B0;by_cases hz:bE es=0
 ·have HCC:=aA (show bE es=0∧gO es=cZ (dE es) from ⟨hz,by rw[gO,if_pos hz]⟩)
  have HRi:=aA (eE.1 hz);have hl12:=HRi.out.len;have HCh:=aA (fun e he=>fX (HRi.out.ent e he))
  rw[hz];clear hz;have hb0:w.heap.size<w1.heap.size:=X1.out.1.lt;have HA:=aA (HR.out.below B1.out);go_wp2_with fail
  go_loopw [4,17] (fun v i wr=>∃ j:Nat,j≤es.length∧i=.int .i64 j∧Hid (wr.ownsRow w1.heap.size 2 1 v (cZ (dE (es.take j))).length ((cZ (dE (es.take j))).map (Value.int .i64)))∧Hid (Below w1.heap.size w1 wr)) (fun _ i _=>es.length - (intOf i).toNat)
  case atStart=>exact ⟨0,Nat.zero_le _,rfl,aA (World.ownsRow_nil _ _ _ _),aA (Below.refl _ _)⟩
  case round =>
   obtain ⟨j,hj,rfl,HO,HW⟩:=hrel;by_cases hlt:j<es.length
   ·obtain ⟨b,off,e,x,cc,rfl,hb0',he,c0',c1',c2',c3',hr⟩:=HA.out.at hlt
    have c0:=(HW.out.cell (p:=⟨b,off+j * 4,none⟩) hb0').trans c0';have c1:=(HW.out.cell (p:=⟨b,off+j * 4+1,none⟩) hb0').trans c1';have c2:=(HW.out.cell (p:=⟨b,off+j * 4+2,none⟩) hb0').trans c2';have c3:=(HW.out.cell (p:=⟨b,off+j * 4+3,none⟩) hb0').trans c3';clear c0' c1' c2' c3';have HX:=aA he;have BA:=aA (aC wr (.cells #[.string (str e.path),.int .i64 e.kind,.int .i64 e.size,.slice x e.chunks.length cc] 87));have HRc:=aA hr;have hsm:=HCh.out e (List.mem_of_getElem? he);clear he hr;rw[←zc4 es j e]at HO;have HO1:=aA (aG HO.out BA.out);have HW1:=aA (aB HW.out BA.out)
    go_wp2_with fail
    clear c0 c1 c2 c3;generalize wr.alloc (.cells #[.string (str e.path),.int .i64 e.kind,.int .i64 e.size,.slice x e.chunks.length cc] 87)=W at *;have hct:(dE (es.take j)).length≤12 * 1024:=by
     have h1:=yX (es:=es.take j) (fun y hy=>by have:=HCh.out y (List.mem_of_mem_take hy);omega)
     have h2:=gN hj;omega
    go_loopw [4,24] (fun v i w2=>∃ k:Nat,k≤e.chunks.length∧i=.int .i64 k∧Hid (w2.ownsRow w1.heap.size 2 1 v (cZ (kJ es j e k)).length ((cZ (kJ es j e k)).map (Value.int .i64)))∧Hid (Below w1.heap.size w1 w2)) (fun _ i _=>e.chunks.length - (intOf i).toNat)
    case atStart=>exact ⟨0,Nat.zero_le _,rfl,HO1,HW1⟩
    case round =>
     obtain ⟨k,hk,rfl,HO2,HW2⟩:=hrel;by_cases hkl:k<e.chunks.length
     ·obtain ⟨p1,r1,rfl,hp1,hy1⟩:=(HRc.out.below HW2.out) (by intro e;simp[e]at hkl)
      have y1:=hy1 k hkl;have z1:e.chunks[k]?=some (e.chunks.getD k 0):=by rw[List.getD_eq_getElem?_getD,List.getElem?_eq_getElem hkl];rfl
      generalize e.chunks.getD k 0=z at y1 z1;have HU:=aA ((congrArg cZ (zb4 (es:=es) (j:=j) z1)).trans (zd1 _ z));have hcl:=zK (kJ es j e k);have hcu:(kJ es j e k).length≤12 * 1024+1024:=by unfold kJ;rw[List.length_append,List.length_take];omega
      clear hy1 z1;generalize cZ (kJ es j e k)=ms at *;obtain ⟨av,cv,rfl⟩:=aQ HO2.out;have RM:=aA (cM HO2.out rfl);have HAm:=aA (pO av cv ms z _ RM.out (by omega))
      have hm1:ms.length+1≤maxLen:=by unfold maxLen;omega
      have hm2:(ms.length+1) * 8≤140737488355328:=by omega
      have hsz:=HW2.out.size;cases hcn:ms.contains z
      ·have HN:=aA (show dR ms z=ms ++ [z] from by unfold dR;rw[hcn];rfl)
       rw[hcn]at HAm;clear hcn;go_wp2_with (first | (go_at_call 62;refine HAm.out.mono ?_;rintro r w9 ⟨rfl,rfl⟩) | (at_builtin;refine bS rfl (.tmp 32) (.tmp 34) 48 rfl w1.heap.size 2 i0 (.int .i64 0) 1 8 Tryz.underlying48 hi0 hz0 hz1 hz2 rfl (by decide) _ _ _ rfl HO2.out rfl rfl (by intro u hu;simp at hu;subst hu;rfl) hm1 hm2 hsz ?_;intro v' w3 hown2 hkept;have O2:=aA hown2;have K2:=aA hkept;clear hown2 hkept))
       go_roundw
       case rel=>exact ⟨k+1,by omega,by go_num,aA (by rw[HU.out,HN.out];simpa using O2.out),aA (HW2.out.trans (K2.out.below hsz (fun q hq hS=>by have:=(HO2.out.lt _ hS).1;omega)))⟩
       case measure=>simp[intOf];omega
      ·have HN:=aA (show dR ms z=ms from by unfold dR;rw[hcn];rfl)
       rw[hcn]at HAm;clear hcn;go_wp2_with (go_at_call 62;refine HAm.out.mono ?_;rintro r w9 ⟨rfl,rfl⟩)
       go_roundw
       case rel=>exact ⟨k+1,by omega,by go_num,aA (by rw[HU.out,HN.out];exact HO2.out),HW2⟩
       case measure=>simp[intOf];omega
     ·have HU:=aA (zs7 (k:=k) HX.out (by omega))
      go_wp2_with fail
      go_roundw
      case rel=>exact ⟨j+1,by omega,by go_num,aA (by rw[←HU.out];exact HO2.out),HW2⟩
      case measure=>simp[intOf];omega
   ·have hE:es.take j=es:=List.take_of_length_le (by omega)
    rw[hE]at HO;clear hE;obtain ⟨av,cv,rfl⟩:=aQ HO.out;obtain ⟨⟨t0,t1⟩,t2,t3⟩:=X1.out.below HW.out;have B3:=aA (aB B1.out HW.out);go_wp2_with fail
    refine bodyPost_ret (v:=.agg #[.int .i64 0,.slice av (cZ (dE es)).length cv]) (by simp[results,Tryz.results25,go_sem,t0,t1]) rfl ?_
    rw[HCC.out.1,HCC.out.2];refine ⟨av,cv,rfl,?_,(B3.out.setCell (Nat.le_refl _) _).setCell (Nat.le_refl _) _⟩;exact aS (aH (S:=fun b=>b=w.heap.size) HO.out (aD.two _ _ _ _ _ _) (fun b hb e=>by have:=(HO.out.lt b hb).1;omega)) (by omega)
 ·have HCC:=aA (show gO es=[] from by rw[gO,if_neg hz])
  generalize bE es=F at *;have hz2:(F != 0)=true:=by simp;exact hz
  clear hz;obtain ⟨⟨t0,t1⟩,t2,t3⟩:=X1.out;go_wp2_with fail
  refine bodyPost_ret (v:=.agg #[.int .i64 F,.slice none 0 0]) (by simp[results,Tryz.results25,go_sem,t0,t1]) rfl ?_
  rw[HCC.out];exact ⟨none,0,rfl,World.ownsRow_nil _ _ _ _,(B1.out.setCell (Nat.le_refl _) _).setCell (Nat.le_refl _) _⟩
theorem yW (zs acc:List Int):(zs.foldl dR acc).length≤acc.length+zs.length:=by
 induction zs generalizing acc with
 | nil=>simp
 | cons z zs ih =>
  rw[List.foldl_cons];have h1:=ih (dR acc z);have h2:(dR acc z).length≤acc.length+1:=by
   unfold dR;split <;> simp
  simp
  omega
theorem zh2 {zs acc:List Int} {j:Nat} (h:j<zs.length):(zs.take (j+1)).foldl dR acc=dR ((zs.take j).foldl dR acc) (zs.getD j 0):=by
 have hg:zs[j]?=some (zs.getD j 0):=by rw[List.getD_eq_getElem?_getD,List.getElem?_eq_getElem h];rfl
 rw[List.take_add_one,hg,List.foldl_append];rfl
theorem qE {es:List En} (h:aV es):(cZ (dE es)).length≤12288:=by
 have h1:=zK (dE es);have h2:=yX (es:=es) (fun e he=>by have:=fX (h.ent e he);omega)
 have:=h.len;omega
theorem mF:∀ {l:List Sn},(∀ s∈l,aV s.layer)→(aU l).length≤l.length * 12288:=by
 have key:∀ (l:List Sn) (acc:List Int),(∀ s∈l,aV s.layer)→(l.foldl (fun acc s=>(cZ (dE s.layer)).foldl dR acc) acc).length≤acc.length+l.length * 12288:=by
  intro l
  induction l with
  | nil=>intro acc _;simp
  | cons s l ih =>
   intro acc h;rw[List.foldl_cons];have h1:=ih ((cZ (dE s.layer)).foldl dR acc) (fun y hy=>h y (List.mem_cons_of_mem _ hy))
   have h2:=yW (cZ (dE s.layer)) acc;have h3:=qE (h s (List.mem_cons_self ..));simp only[List.length_cons];omega
 intro l h;have:=key l [] h;unfold aU;simpa using this
def zva (a:Option Addr) (v:Value):Prop:=∀ x,a=some x→∀ g,v.ownBlock=some g→g≠x.block
theorem xM (a:Option Addr) (c n:Nat) (l:List Sn) (w:World) (h:RdS w a l) (hn:n=l.length) (hl:l.length≤10) (hs:∀ s∈l,aV s.layer) :
  Calls Tryz.prog 49 #[.slice a n c] w fun r w'=>∃ x d,r=.returned (.slice x (aU l).length d)∧w'.ownsRow w.heap.size 2 1 (.slice x (aU l).length d) (aU l).length ((aU l).map (Value.int .i64))∧Below w.heap.size w w':=by
 subst hn;obtain ⟨i1,ki,kz0,kz1,kz2⟩:=info_parts Tryz.infoI64;have RD:=aA h;have HS:=aA hs;clear h hs;go_enter Tryz.func49,Tryz.ntmps49;go_wp2_with fail
 go_loopw [3,10] (fun v i wr=>∃ (k:Nat),k≤l.length∧i=.int .i64 k∧Hid (wr.ownsRow w.heap.size 2 1 v (aU (l.take k)).length ((aU (l.take k)).map (Value.int .i64)))∧Hid (Below w.heap.size w wr)) (fun _ i _=>l.length - (intOf i).toNat)
 case atStart=>exact ⟨0,by omega,rfl,aA (World.ownsRow_nil _ _ _ _),aA (Below.refl _ _)⟩
 case round =>
  obtain ⟨k,hk,rfl,HO,HB⟩:=hrel;obtain ⟨va,vc,hv⟩:=aQ HO.out;subst hv;have hsz:=HB.out.size;by_cases hlt:k<l.length
  ·have hlt2:(k:Int)<(l.length:Int):=by omega
   obtain ⟨b,off,s,x,cc,rfl,hb,he,c0,c1,c2,c3,c4,hr⟩:=(RD.out.below HB.out).at hlt;have hRl:=HS.out s (List.mem_of_getElem? he);have HST:=aA (show aU (l.take (k+1))=(cZ (dE s.layer)).foldl dR (aU (l.take k)) by rw[List.take_add_one,he];exact vF _ _)
   have HDL:=aA (mF (l:=l.take k) (fun y hy=>HS.out y (List.mem_of_mem_take hy)))
   have htk:(l.take k).length=k:=by rw[List.length_take];omega
   have BA:=aA (aC wr (.cells #[.string (str s.name),.string (str s.parent),.int .i64 s.kind,.bool s.lease,.slice x s.layer.length cc] 42));have F5:=aA (gT.new wr (.string (str s.name)) (.string (str s.parent)) (.int .i64 s.kind) (.bool s.lease) (.slice x s.layer.length cc) 42);have HCI:=aA (qS x cc s.layer.length s.layer _ (hr.below BA.out) rfl (by have:=hRl.len;omega) (cN hRl))
   rw[eE.2 hRl,show gO s.layer=cZ (dE s.layer) by rw[gO,if_pos (eE.2 hRl)]]at HCI
   have hzl:=qE hRl;generalize cZ (dE s.layer)=zs at *;obtain ⟨DK,hDK⟩:∃ DK,DK=aU (l.take k):=⟨_,rfl⟩;rw[←hDK]at HO HST HDL ⊢;have hdl:DK.length≤122880:=by have:=HDL.out;omega
   clear hDK HDL htk;obtain ⟨f0,f1,f2,f3,f4⟩:=F5.out;clear he hr hRl;go_wp2_with fail
   refine HCI.out.mono ?_;rintro e w2 ⟨za,zc,rfl,hOz,hb2⟩;have hfd:∀ u:World,(Instr.field 50 (.agg #[.int .i64 0,.slice za zs.length zc]) 1).run Tryz.prog u=.ok (.slice za zs.length zc) u:=fun _=>by kernel_rfl
   have B2:=aA (aB HB.out (aB BA.out hb2));have O2:=aA (aG (aG HO.out BA.out) hb2);have RZ:=aA (cM hOz rfl);have HZB:=aA (show ∀ y,za=some y→y.block<w2.heap.size∧wr.heap.size≤y.block from fun y hy=>by
    subst hy;have h9:=hOz.lt y.block rfl;have h8:=BA.out.size;exact ⟨h9.2,by omega⟩)
   have HFZ:Hid (zva za (.slice va DK.length vc)):=aA (fun y hy g hg e=>by
    have h9:=(HO.out.lt g hg).2;have h8:=(HZB.out y hy).2;omega)
   clear hb2 hOz c0 c1 c2 c3 c4 f0 f1 f2 f3 f4 F5 HO HB BA HCI;go_wp2_with fail
   go_loopw [3,19] (fun v i wx=>∃ (j:Nat),j≤zs.length∧i=.int .i64 j∧Hid (wx.ownsRow w.heap.size 2 1 v ((zs.take j).foldl dR DK).length (((zs.take j).foldl dR DK).map (Value.int .i64)))∧Hid (aO .i64 wx za zs)∧Hid (zva za v)∧Hid (∀ y,za=some y→y.block<wx.heap.size)∧Hid (Below w.heap.size w wx)) (fun _ i _=>zs.length - (intOf i).toNat)
   case atStart=>exact ⟨0,by omega,rfl,O2,RZ,HFZ,aA (fun y hy=>(HZB.out y hy).1),B2⟩
   case round =>
    obtain ⟨j,hj,rfl,HOx,HRx,HAx,HLx,HBx⟩:=hrel;obtain ⟨xa,xc,hv⟩:=aQ HOx.out;subst hv;have hszx:=HBx.out.size;by_cases hltj:j<zs.length
    ·have hltj2:(j:Int)<(zs.length:Int):=by omega
     obtain ⟨zb,zo,rfl,hzb,hzc⟩:=HRx.out (by intro e;simp[e]at hltj)
     have hz:=hzc j hltj;clear hzc;have HAT:=aA (zh2 (acc:=DK) hltj);obtain ⟨z,hze⟩:∃ z,z=zs.getD j 0:=⟨_,rfl⟩;rw[←hze]at hz HAT;have hDl:=yW (zs.take j) DK;have htl:(zs.take j).length=j:=by rw[List.length_take];omega
     obtain ⟨D,hD⟩:∃ D,D=(zs.take j).foldl dR DK:=⟨_,rfl⟩;rw[←hD]at HOx HAT hDl HAx ⊢;have hDb:D.length≤200000:=by omega
     clear hD hDl htl hze;have hm1:D.length+1≤maxLen:=by unfold maxLen;omega
     have hm2:(D.length+1) * 8≤140737488355328:=by omega
     go_wp2_with fail
     refine (pO xa xc D z _ (cM HOx.out rfl) (by omega)).mono ?_
     rintro e w6 ⟨rfl,hw6⟩;subst hw6;cases hcn:D.contains z with
     | true =>
      have HST2:=aA (HAT.out.trans (show dR D z=D by unfold dR;rw[if_pos hcn]))
      clear hcn;go_wp2_with fail
      go_roundw
      case rel=>exact ⟨j+1,by omega,by go_num,by rw[HST2.out];exact HOx,HRx,HAx,HLx,HBx⟩
      case measure=>simp[intOf];omega
     | false =>
      have HST2:=aA (HAT.out.trans (show dR D z=D ++ [z] by unfold dR;rw[hcn];rfl))
      clear hcn;go_wp2_with (at_builtin;refine iP rfl (.tmp 27) (.tmp 29) 48 rfl w.heap.size 2 i1 (.int .i64 0) 1 8 Tryz.underlying48 ki kz0 kz1 kz2 rfl (by decide) _ _ _ rfl HOx.out rfl rfl (by intro u hu;simp at hu;subst hu;rfl) hm1 hm2 hszx ?_;intro v' w7 hown7 hkept hat;have O7:=aA hown7;have K7:=aA hkept;have A7:=aA hat;clear hown7 hkept hat)
      go_roundw
      case rel =>
       refine ⟨j+1,by omega,by go_num,by rw[HST2.out];exact aA (by simpa using O7.out),aA ?_,aA ?_,aA (fun y hy=>Nat.lt_of_lt_of_le (HLx.out y hy) K7.out.size),aA (aD.below_own HBx.out hszx HOx.out K7.out)⟩
       ·exact HRx.out.kept K7.out (fun hz y hy e=>HAx.out y hy _ e rfl)
       ·intro y hy g hg e9
        rcases A7.out with e | ⟨g2,e,hg2⟩
        ·exact HAx.out y hy g (e.symm.trans hg) e9
        ·rw[e]at hg
         have h7:=Option.some.inj hg;have h8:=HLx.out y hy;omega
      case measure=>simp[intOf];omega
    ·have hje:zs.take j=zs:=List.take_of_length_le (by omega)
     have hltj2:¬ (j:Int)<(zs.length:Int):=by omega
     rw[hje]at HOx ⊢;clear hje;go_wp2_with fail
     go_roundw
     case rel=>exact ⟨k+1,by omega,by go_num,by rw[HST.out];exact HOx,HBx⟩
     case measure=>simp[intOf];omega
  ·have hke:l.take k=l:=List.take_of_length_le (by omega)
   have hlt2:¬ (k:Int)<(l.length:Int):=by omega
   rw[hke]at HO ⊢;clear hke;go_wp2_with fail
   go_ret
   exact ⟨va,vc,rfl,HO.out,HB.out⟩
theorem zk4 (a:Option Addr) (c n:Nat) (l:List Sn) (w:World) (h:RdS w a l) (hn:n=l.length) (hl:l.length≤10) (hs:∀ s∈l,aV s.layer) :
  Calls Tryz.prog 50 #[.slice a n c] w fun r w'=>∃ x d,r=.returned (.slice x (aU l).length d)∧w'.ownsRow w.heap.size 2 1 (.slice x (aU l).length d) (aU l).length ((aU l).map (Value.int .i64))∧Below w.heap.size w w':=by
 subst hn;obtain ⟨i1,ki,kz0,kz1,kz2⟩:=info_parts Tryz.infoI64;have RD:=aA h;have O0:=aA (show (w.alloc (.cells #[] 2)).ownsRow w.heap.size 2 1 (.slice (some ⟨w.heap.size,0,none⟩) 0 0) ([]:List Int).length (([]:List Int).map (Value.int .i64)) from World.ownsRow_made w #[] 0 (Nat.le_refl _) (Nat.zero_le _) rfl)
 have B0:=aA (aC w (.cells #[] 2));have HS:=aA hs;clear h hs;go_enter Tryz.func50,Tryz.ntmps50;go_wp2_with fail
 go_loopw [3,4] (fun v i wr=>∃ (k:Nat),k≤l.length∧i=.int .i64 k∧Hid (wr.ownsRow w.heap.size 2 1 v (aU (l.take k)).length ((aU (l.take k)).map (Value.int .i64)))∧Hid (Below w.heap.size w wr)) (fun _ i _=>l.length - (intOf i).toNat)
 case atStart=>exact ⟨0,by omega,rfl,O0,B0⟩
 case round =>
  obtain ⟨k,hk,rfl,HO,HB⟩:=hrel;obtain ⟨va,vc,hv⟩:=aQ HO.out;subst hv;have hsz:=HB.out.size;by_cases hlt:k<l.length
  ·have hlt2:(k:Int)<(l.length:Int):=by omega
   obtain ⟨b,off,s,x,cc,rfl,hb,he,c0,c1,c2,c3,c4,hr⟩:=(RD.out.below HB.out).at hlt;have hRl:=HS.out s (List.mem_of_getElem? he);have HST:=aA (show aU (l.take (k+1))=(cZ (dE s.layer)).foldl dR (aU (l.take k)) by rw[List.take_add_one,he];exact vF _ _)
   have HDL:=aA (mF (l:=l.take k) (fun y hy=>HS.out y (List.mem_of_mem_take hy)))
   have htk:(l.take k).length=k:=by rw[List.length_take];omega
   have HCI:=aA (zb6 x cc s.layer.length s.layer wr hr rfl (by have:=hRl.len;omega) (fun e he=>by have:=fX (hRl.ent e he);omega))
   have hzl:=qE hRl;generalize cZ (dE s.layer)=zs at *;obtain ⟨DK,hDK⟩:∃ DK,DK=aU (l.take k):=⟨_,rfl⟩;rw[←hDK]at HO HST HDL ⊢;have hdl:DK.length≤122880:=by have:=HDL.out;omega
   clear hDK HDL htk;clear he hr hRl;go_wp2_with fail
   refine HCI.out.mono ?_;rintro e w2 ⟨v,rfl,hOz,hb2⟩;obtain ⟨za,zc,hv⟩:=aQ hOz;subst hv;have B2:=aA (aB HB.out hb2);have O2:=aA (aG HO.out hb2);have RZ:=aA (cM hOz rfl);have HZB:=aA (show ∀ y,za=some y→y.block<w2.heap.size∧wr.heap.size≤y.block from fun y hy=>by
    subst hy;have h9:=hOz.lt y.block rfl;exact ⟨h9.2,by omega⟩)
   have HFZ:Hid (zva za (.slice va DK.length vc)):=aA (fun y hy g hg e=>by
    have h9:=(HO.out.lt g hg).2;have h8:=(HZB.out y hy).2;omega)
   clear hb2 hOz c0 c1 c2 c3 c4 HO HB HCI;go_wp2_with fail
   go_loopw [3,6] (fun v i wx=>∃ (j:Nat),j≤zs.length∧i=.int .i64 j∧Hid (wx.ownsRow w.heap.size 2 1 v ((zs.take j).foldl dR DK).length (((zs.take j).foldl dR DK).map (Value.int .i64)))∧Hid (aO .i64 wx za zs)∧Hid (zva za v)∧Hid (∀ y,za=some y→y.block<wx.heap.size)∧Hid (Below w.heap.size w wx)) (fun _ i _=>zs.length - (intOf i).toNat)
   case atStart=>exact ⟨0,by omega,rfl,O2,RZ,HFZ,aA (fun y hy=>(HZB.out y hy).1),B2⟩
   case round =>
    obtain ⟨j,hj,rfl,HOx,HRx,HAx,HLx,HBx⟩:=hrel;obtain ⟨xa,xc,hv⟩:=aQ HOx.out;subst hv;have hszx:=HBx.out.size;by_cases hltj:j<zs.length
    ·have hltj2:(j:Int)<(zs.length:Int):=by omega
     obtain ⟨zb,zo,rfl,hzb,hzc⟩:=HRx.out (by intro e;simp[e]at hltj)
     have hz:=hzc j hltj;clear hzc;have HAT:=aA (zh2 (acc:=DK) hltj);obtain ⟨z,hze⟩:∃ z,z=zs.getD j 0:=⟨_,rfl⟩;rw[←hze]at hz HAT;have hDl:=yW (zs.take j) DK;have htl:(zs.take j).length=j:=by rw[List.length_take];omega
     obtain ⟨D,hD⟩:∃ D,D=(zs.take j).foldl dR DK:=⟨_,rfl⟩;rw[←hD]at HOx HAT hDl HAx ⊢;have hDb:D.length≤200000:=by omega
     clear hD hDl htl hze;have hm1:D.length+1≤maxLen:=by unfold maxLen;omega
     have hm2:(D.length+1) * 8≤140737488355328:=by omega
     go_wp2_with fail
     refine (tN xa xc D z _ (cM HOx.out rfl) (by omega)).mono ?_
     rintro e w6 ⟨rfl,hw6⟩;subst hw6;cases hcn:D.contains z with
     | true =>
      have HST2:=aA (HAT.out.trans (show dR D z=D by unfold dR;rw[if_pos hcn]))
      clear hcn;go_wp2_with fail
      go_roundw
      case rel=>exact ⟨j+1,by omega,by go_num,by rw[HST2.out];exact HOx,HRx,HAx,HLx,HBx⟩
      case measure=>simp[intOf];omega
     | false =>
      have HST2:=aA (HAT.out.trans (show dR D z=D ++ [z] by unfold dR;rw[hcn];rfl))
      clear hcn;go_wp2_with (at_builtin;refine iP rfl (.tmp 33) (.tmp 38) 48 rfl w.heap.size 2 i1 (.int .i64 0) 1 8 Tryz.underlying48 ki kz0 kz1 kz2 rfl (by decide) _ _ _ rfl HOx.out rfl rfl (by intro u hu;simp at hu;subst hu;rfl) hm1 hm2 hszx ?_;intro v' w7 hown7 hkept hat;have O7:=aA hown7;have K7:=aA hkept;have A7:=aA hat;clear hown7 hkept hat)
      go_roundw
      case rel =>
       refine ⟨j+1,by omega,by go_num,by rw[HST2.out];exact aA (by simpa using O7.out),aA ?_,aA ?_,aA (fun y hy=>Nat.lt_of_lt_of_le (HLx.out y hy) K7.out.size),aA (aD.below_own HBx.out hszx HOx.out K7.out)⟩
       ·exact HRx.out.kept K7.out (fun hz y hy e=>HAx.out y hy _ e rfl)
       ·intro y hy g hg e9
        rcases A7.out with e | ⟨g2,e,hg2⟩
        ·exact HAx.out y hy g (e.symm.trans hg) e9
        ·rw[e]at hg
         have h7:=Option.some.inj hg;have h8:=HLx.out y hy;omega
      case measure=>simp[intOf];omega
    ·have hje:zs.take j=zs:=List.take_of_length_le (by omega)
     have hltj2:¬ (j:Int)<(zs.length:Int):=by omega
     rw[hje]at HOx ⊢;clear hje;go_wp2_with fail
     go_roundw
     case rel=>exact ⟨k+1,by omega,by go_num,by rw[HST.out];exact HOx,HBx⟩
     case measure=>simp[intOf];omega
  ·have hke:l.take k=l:=List.take_of_length_le (by omega)
   have hlt2:¬ (k:Int)<(l.length:Int):=by omega
   rw[hke]at HO ⊢;clear hke;go_wp2_with fail
   go_ret
   exact ⟨va,vc,rfl,HO.out,HB.out⟩
end Go.Proofs.YtgaeikgoknoamaaGreat
