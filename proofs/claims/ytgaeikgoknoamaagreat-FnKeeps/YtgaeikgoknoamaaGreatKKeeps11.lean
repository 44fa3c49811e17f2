/-
  Texts put together: Draw DrawP DrawS DrawE DrawG DrawJ.
-/
import Derived.Test.YtgaeikgoknoamaaGreatKKeeps4
import Derived.Test.YtgaeikgoknoamaaGreatKKeeps1
import Derived.Test.YtgaeikgoknoamaaGreatKKeeps6
import Derived.Deep.RegionLaw
import Derived.Test.YtgaeikgoknoamaaGreatKKeeps10
import Derived.Deep.RegionWith
set_option linter.unusedVariables false
set_option maxHeartbeats 6400000
set_option maxRecDepth 100000
namespace Go.Proofs.YtgaeikgoknoamaaGreat
open Go.RowKit
def Src (w:World) (p:Nat) (zs:List Int) (t:Int):Prop :=
 ∃ a c,w.cell? ⟨p,0,none⟩=some (.slice a zs.length c)∧w.cell? ⟨p,1,none⟩=some (.int .i64 t)∧w.frozen? ⟨p,1,none⟩=false∧aO .u8 w a zs∧(zs≠[]→∀ x,a=some x→x.block<p)
theorem Src.step {w:World} {p:Nat} {zs:List Int} {t:Int} (h:Src w p zs t) (s:Int):Src (w.setCell ⟨p,1,none⟩ (.int .i64 s)) p zs s∧aD (fun b=>b=p) w (w.setCell ⟨p,1,none⟩ (.int .i64 s)):=by
 obtain ⟨a,c,q0,q1,q2,hr,hap⟩:=h;have hk:aD (fun b=>b=p) w (w.setCell ⟨p,1,none⟩ (.int .i64 s)):=aD.setCell (S:=fun b=>b=p) (p:=⟨p,1,none⟩) (aD.refl _ w) (fun _=>rfl) _
 refine ⟨⟨a,c,?_,dS q1,by rw[World.frozen?_setCell];exact q2,hr.kept hk (fun hz x hx e=>by have:=hap hz x hx;omega),hap⟩,hk⟩
 rw[aR (by intro e;have:=congrArg Addr.off e;simp at this)];exact q0
theorem Src.drewN {w:World} {p:Nat} {zs:List Int} {t:Int} (h:Src w p zs t) (n:Nat):Src (w.drewN n) p zs t:=h
theorem Src.kept {S:Nat→Prop} {w w':World} {p:Nat} {zs:List Int} {t:Int} (h:Src w p zs t) (hk:aD S w w') (hS:∀ b,b≤p→¬ S b):Src w' p zs t:=by
 obtain ⟨a,c,q0,q1,q2,hr,hap⟩:=h;have hlt:=World.block_lt_of_cell? w ⟨p,0,none⟩ q0;have hp:=hS p (Nat.le_refl _);exact ⟨a,c,(hk.cell (p:=⟨p,0,none⟩) hlt hp).trans q0,(hk.cell (p:=⟨p,1,none⟩) hlt hp).trans q1,(hk.frozen (p:=⟨p,1,none⟩) hlt hp).trans q2,hr.kept hk (fun hz x hx=>hS _ (Nat.le_of_lt (hap hz x hx))),hap⟩
theorem Src.below {w w':World} {p:Nat} {zs:List Int} {t:Int} (h:Src w p zs t) (hk:Below w.heap.size w w'):Src w' p zs t :=
 Src.kept (S:=fun _=>False) h (aD.of_below hk) (fun _ _=>id)
theorem Src.lt {w:World} {p:Nat} {zs:List Int} {t:Int} (h:Src w p zs t):p<w.heap.size:=by
 obtain ⟨a,c,q0,_⟩:=h;exact World.block_lt_of_cell? w ⟨p,0,none⟩ q0
theorem zh1 (v n:Int) (hn:1≤n):0≤v % n∧v % n<n:=⟨Int.emod_nonneg _ (by omega),Int.emod_lt_of_pos _ (by omega)⟩
theorem zif (t:Int) (k:Nat) (hk:0<k):0≤t % (k:Int)∧t % (k:Int)<(k:Int):=⟨Int.emod_nonneg _ (by omega),Int.emod_lt_of_pos _ (by omega)⟩
theorem zvk (t:Int) (k:Nat) (h0:0≤t):0≤t / (k:Int)∧t / (k:Int)≤t:=⟨Int.ediv_nonneg h0 (by omega),Int.ediv_le_self _ h0⟩
theorem pY (p:Nat) (zs:List Int) (t n:Int) (w:World) (h:Src w p zs t) (hu:U8 zs) (ht0:0≤t) (ht1:t≤1099511627776) (hn0:1≤n) (hn1:n≤2147483648) (hl:zs.length≤2097152) :
  Calls Tryz.prog 56 #[.pointer (some ⟨p,0,none⟩),.int .i64 n] w fun e w'=>∃ r,e=.returned (.int .i64 r)∧0≤r∧r<n∧Src w' p zs (t+1)∧aD (fun b=>b=p) w w':=by
 have HS:=aA (h.step (t+1));obtain ⟨a,c,q0,q1,q2,hr,hap⟩:=h;by_cases hz:zs=[]
 ·have hn:zs.length=0:=by rw[hz];rfl
  rw[hn]at q0;have hmod:0≤t * 7 % n∧t * 7 % n<n:=⟨Int.emod_nonneg _ (by omega),Int.emod_lt_of_pos _ (by omega)⟩
  have HM:=aA hmod;clear hmod hr hap hz hn;go_enter Tryz.func56,Tryz.ntmps56;go_wp2
  go_ret
  exact ⟨_,rfl,HM.out.1,HM.out.2,HS.out.1,HS.out.2⟩
 ·obtain ⟨b,off,rfl,hb,hc⟩:=hr hz
  have hlen:0<zs.length:=List.length_pos_iff.2 hz;have hne:((zs.length:Int)==0)=false:=by simp;omega
  have hbp:b≠p:=by have:=hap hz _ rfl;simp at this;omega
  obtain ⟨m0,m1⟩:=zif t zs.length hlen;obtain ⟨m2,m3⟩:=zif (t+1) zs.length hlen;obtain ⟨d0,d1⟩:=zvk t zs.length ht0;have hz1:=hu.get (t % (zs.length:Int)).toNat;have hz2:=hu.get ((t+1) % (zs.length:Int)).toNat;have c1:=hc (t % (zs.length:Int)).toNat (by omega)
  have c2:=hc ((t+1) % (zs.length:Int)).toNat (by omega)
  generalize zs.getD (t % (zs.length:Int)).toNat 0=z1 at hz1 c1;generalize zs.getD ((t+1) % (zs.length:Int)).toNat 0=z2 at hz2 c2;generalize hW:w.setCell ⟨p,1,none⟩ (.int .i64 (t+1))=W at HS;have k0:W.cell? ⟨p,0,none⟩=some (.slice (some ⟨b,off,none⟩) zs.length c):=by rw[←hW,aR (by intro e;have:=congrArg Addr.off e;simp at this)];exact q0
  have k1:W.cell? ⟨p,1,none⟩=some (.int .i64 (t+1)):=by rw[←hW];exact dS q1
  have k2:W.cell? ⟨b,off+(t % (zs.length:Int)).toNat,none⟩=some (.int .u8 z1):=by rw[←hW];exact qO (fun e=>hbp e.symm) c1
  have k3:W.cell? ⟨b,off+((t+1) % (zs.length:Int)).toNat,none⟩=some (.int .u8 z2):=by rw[←hW];exact qO (fun e=>hbp e.symm) c2
  have HW:=aA hW;clear hW c1 c2 hc hr hap hz;by_cases h200:200<n
  ·go_enter Tryz.func56,Tryz.ntmps56
   go_wp2
   rw[HW.out];go_quiet (fail)
   go_wp2
   go_quiet (fail)
   go_wp2
   go_ret
   exact ⟨_,rfl,(zh1 _ n hn0).1,(zh1 _ n hn0).2,HS.out.1.drewN _,HS.out.2.drewN _⟩
  ·go_enter Tryz.func56,Tryz.ntmps56
   go_wp2
   rw[HW.out];go_quiet (fail)
   go_wp2
   go_ret
   exact ⟨_,rfl,(zh1 _ n hn0).1,(zh1 _ n hn0).2,HS.out.1.drewN _,HS.out.2.drewN _⟩
theorem pX (p:Nat) (zs:List Int) (t n:Int) (w:World) (h:Src w p zs t) (hu:U8 zs) (ht0:0≤t) (ht1:t≤1099511627776) (hn0:1≤n) (hn1:n≤2147483648) (hl:zs.length≤1048576) :
  Calls Tryz.prog 56 #[.pointer (some ⟨p,0,none⟩),.int .i64 n] w fun e w'=>∃ r,e=.returned (.int .i64 r)∧0≤r∧r<n∧Src w' p zs (t+1)∧aD (fun b=>b=p) w w' :=
 pY p zs t n w h hu ht0 ht1 hn0 hn1 (by omega)
theorem za6 (a:Option Addr) (cap:Nat) (zs:List Int) (w:World) (h:aO .u8 w a zs) :
  Calls Tryz.prog 51 #[.slice a zs.length cap] w fun e w'=>e=.returned (.pointer (some ⟨w.heap.size,0,none⟩))∧Src w' w.heap.size zs 0∧w'.heap.size=w.heap.size+1∧Below w.heap.size w w':=by
 have HR:=aA h;clear h;go_enter Tryz.func51,Tryz.ntmps51;go_wp2
 go_ret
 refine ⟨rfl,⟨a,cap,by simp,by simp,by simp,HR.out.below (aC _ _),fun hz x hx=>?_⟩,by simp,aC _ _⟩
 obtain ⟨b,off,rfl,hb,_⟩:=HR.out hz;simp at hx
 subst hx;exact hb
theorem zv0 (p g c m:Nat) (vs:List Int) (zs:List Int) (t:Int) (w:World) (h:Src w p zs t) (hu:U8 zs) (ht0:0≤t) (ht1:t≤1099511627776) (hl:zs.length≤2097152)
  (hm0:0<m) (hm1:m≤1000) (hm:m=vs.length) (hg:g≠p) (hgl:g<w.heap.size) (hc:∀ i,i<m→w.cell? ⟨g,i,none⟩=some (.int .i64 (vs.getD i 0))) :
  Calls Tryz.prog 97 #[.pointer (some ⟨p,0,none⟩),.slice (some ⟨g,0,none⟩) m c] w fun e w'=>∃ v,v∈vs∧e=.returned (.int .i64 v)∧Src w' p zs (t+1)∧aD (fun b=>b=p) w w':=by
 have HS:=aA h;have HU:=aA hu;have HC:=aA hc;have HM:=aA hm;clear h hu hc hm;go_enter Tryz.func97,Tryz.ntmps97;go_wp2_with fail
 refine (pY p zs t _ _ HS.out HU.out ht0 ht1 (by omega) (by omega) hl).mono ?_
 rintro e w1 ⟨r,rfl,r0,r1,s1,k1⟩;obtain ⟨j,rfl⟩:=Int.eq_ofNat_of_zero_le r0;have hj:j<m:=by omega
 have hcj:=HC.out j hj;have hmem:vs.getD j 0∈vs:=by
  have hj2:j<vs.length:=by have:=HM.out;omega
  have e:vs.getD j 0=vs[j]:=by simp[List.getD_eq_getElem?_getD,hj2]
  rw[e];exact List.getElem_mem hj2
 generalize vs.getD j 0=v at hcj hmem;have hc1:w1.cell? ⟨g,j,none⟩=some (.int .i64 v):=(k1.cell (p:=⟨g,j,none⟩) hgl hg).trans hcj;have S1:=aA s1;have K1:=aA k1;have M1:=aA hmem;clear s1 k1 hcj hmem;go_wp2_with fail
 go_ret
 exact ⟨v,M1.out,rfl,S1.out,K1.out⟩
theorem zu0 (p g c m:Nat) (vs:List Int) (zs:List Int) (t:Int) (w:World) (h:Src w p zs t) (hu:U8 zs) (ht0:0≤t) (ht1:t≤1099511627776) (hl:zs.length≤1048576)
  (hm0:0<m) (hm1:m≤1000) (hm:m=vs.length) (hg:g≠p) (hgl:g<w.heap.size) (hc:∀ i,i<m→w.cell? ⟨g,i,none⟩=some (.int .i64 (vs.getD i 0))) :
  Calls Tryz.prog 97 #[.pointer (some ⟨p,0,none⟩),.slice (some ⟨g,0,none⟩) m c] w fun e w'=>∃ v,v∈vs∧e=.returned (.int .i64 v)∧Src w' p zs (t+1)∧aD (fun b=>b=p) w w' :=
 zv0 p g c m vs zs t w h hu ht0 ht1 (by omega) hm0 hm1 hm hg hgl hc
theorem zx0 (p:Nat) (n:Nat) (zs:List Int) (t:Int) (w:World) (h:Src w p zs t) (hu:U8 zs) (ht0:0≤t) (ht1:t≤549755813888) (hl:zs.length≤2097152) (hn:n≤1048576) (hp:p<w.heap.size) :
  Calls Tryz.prog 55 #[.pointer (some ⟨p,0,none⟩),.int .i64 n] w fun e w'=>∃ a c ds,e=.returned (.slice a n c)∧ds.length=n∧U8 ds∧w'.ownsRow w.heap.size 5 1 (.slice a n c) n (ds.map (Value.int .u8))∧Src w' p zs (t+n)∧aD (fun b=>b=p) w w':=by
 obtain ⟨i0,hi,hz0,hz1,hz2⟩:=info_parts Tryz.infoU8;have HS:=aA (h.below (aC w (.cells #[] 5)));have HU:=aA hu;clear h hu;go_enter Tryz.func55,Tryz.ntmps55;go_wp2
 go_loopw [1,5] (fun q v wr=>∃ j:Nat,∃ ds:List Int,j≤n∧q=.int .i64 ((n:Int) - j)∧ds.length=j∧U8 ds∧wr.ownsRow w.heap.size 5 1 v j (ds.map (Value.int .u8))∧Src wr p zs (t+j)∧aD (fun b=>b=p) w wr) (fun q _ _=>(intOf q).toNat)
 case atStart=>exact ⟨0,[],Nat.zero_le _,by simp,rfl,fun z hz=>by simp at hz,World.ownsRow_made w #[] 0 (Nat.le_refl _) (Nat.zero_le _) rfl,by simpa using HS.out,(aD.refl _ _).alloc _⟩
 case round =>
  obtain ⟨j,ds,hj,rfl,hds,hU,hown,hsrc,hkept⟩:=hrel;by_cases hlt:j<n
  ·have hgt:(0:Int)<(n:Int) - j:=by omega
   have hsz:=hkept.size;have hm1:j+1≤maxLen:=by unfold maxLen;omega
   have hm2:(j+1) * 1≤140737488355328:=by omega
   have H1:=aA hds;have H2:=aA hU;have H3:=aA hown;have H4:=aA hsrc;have H5:=aA hkept;clear hds hU hown hsrc hkept;go_wp2_with (first | (go_at_call 56;refine (pY p zs _ _ _ H4.out HU.out (by omega) (by omega) (by omega) (by omega) hl).mono ?_;rintro e w1 ⟨r,rfl,r0,r1,s1,k1⟩;have S1:=aA s1;have K1:=aA k1;have O1:=aA (aH H3.out k1 (fun b hb e=>by have:=(H3.out.lt b hb).1;omega));have hsz1:w.heap.size≤w1.heap.size:=Nat.le_trans hsz k1.size;clear s1 k1) | (at_builtin;refine bS rfl (.tmp 11) (.tmp 16) 22 rfl w.heap.size 5 i0 (.int .u8 0) 1 1 Tryz.underlying22 hi hz0 hz1 hz2 rfl (by decide) _ _ _ rfl O1.out rfl rfl (by intro u hu;simp at hu;subst hu;rfl) hm1 hm2 hsz1 ?_;intro v' w2 hown2 hkept2;have O2:=aA hown2;have K2:=aA hkept2;clear hown2 hkept2))
   have hp1:∀ b,b≤p→¬ (u5.ownBlock=some b):=fun b hb e=>by have:=(H3.out.lt b e).1;omega
   go_roundw
   case rel =>
    refine ⟨j+1,ds ++ [97+r],by omega,by go_num,by simp[H1.out],fun z hz=>?_,by simpa using O2.out,?_,?_⟩
    ·rcases List.mem_append.1 hz with hz | hz
     ·exact H2.out z hz
     ·simp at hz;omega
    ·have:=S1.out.kept K2.out hp1
     rwa [show t+(j:Int)+1=t+((j+1:Nat):Int) from by omega]at this
    ·exact (H5.out.trans K1.out).trans_own K2.out (fun b hb e=>by have:=(O1.out.lt b e).1;omega)
   case measure=>simp[intOf];omega
  ·have hje:j=n:=by omega
   subst hje;obtain ⟨av,cv,rfl⟩:=aQ hown;have hz:¬ (0:Int)<(j:Int) - j:=by omega
   go_wp2
   go_ret
   exact ⟨av,cv,rfl,ds,hds,hU,hown,hsrc,hkept⟩
theorem zw0 (p:Nat) (n:Nat) (zs:List Int) (t:Int) (w:World) (h:Src w p zs t) (hu:U8 zs) (ht0:0≤t) (ht1:t≤549755813888) (hl:zs.length≤1048576) (hn:n≤1048576) (hp:p<w.heap.size) :
  Calls Tryz.prog 55 #[.pointer (some ⟨p,0,none⟩),.int .i64 n] w fun e w'=>∃ a c ds,e=.returned (.slice a n c)∧ds.length=n∧U8 ds∧w'.ownsRow w.heap.size 5 1 (.slice a n c) n (ds.map (Value.int .u8))∧Src w' p zs (t+n)∧aD (fun b=>b=p) w w' :=
 zx0 p n zs t w h hu ht0 ht1 (by omega) hn hp
theorem zkj (w:World) (a b c d e:Int) (t:TypeId):∀ i,i<5→(w.alloc (.cells #[.int .i64 a,.int .i64 b,.int .i64 c,.int .i64 d,.int .i64 e] t)).cell? ⟨w.heap.size,i,none⟩=some (.int .i64 ([a,b,c,d,e].getD i 0)):=by
 intro i hi
 match i,hi with
 | 0,_ | 1,_ | 2,_ | 3,_ | 4,_=>simp
theorem zp0:∀ (ns:List Bs),(∀ n∈ns,n.length≤2)→(bR ns).length≤3 * ns.length
 | [],_=>by simp[bR]
 | n :: ns,h=>by
  have:=zp0 ns (fun m hm=>h m (by simp[hm]))
  have:=h n (by simp)
  simp[bR];omega
end Go.Proofs.YtgaeikgoknoamaaGreat
namespace Go.Proofs.YtgaeikgoknoamaaGreat
open Go.RowKit Go.Maps
def dL (w:World) (p:Nat) (zs:List Int) (T:Int):Prop:=∃ t,0≤t∧t≤T∧Src w p zs t
theorem dL.kept {S:Nat→Prop} {w w':World} {p:Nat} {zs:List Int} {T:Int} (h:dL w p zs T) (hk:aD S w w') (hS:∀ b,b≤p→¬ S b):dL w' p zs T:=by
 obtain ⟨t,h0,h1,hs⟩:=h;exact ⟨t,h0,h1,hs.kept hk hS⟩
theorem dL.below {w w':World} {p:Nat} {zs:List Int} {T:Int} (h:dL w p zs T) (hk:Below w.heap.size w w'):dL w' p zs T:=by
 obtain ⟨t,h0,h1,hs⟩:=h;exact ⟨t,h0,h1,hs.below hk⟩
theorem dL.lt {w:World} {p:Nat} {zs:List Int} {T:Int} (h:dL w p zs T):p<w.heap.size:=by
 obtain ⟨t,_,_,hs⟩:=h;exact hs.lt
theorem dL.mono {w:World} {p:Nat} {zs:List Int} {T T':Int} (h:dL w p zs T) (hT:T≤T'):dL w p zs T':=by
 obtain ⟨t,h0,h1,hs⟩:=h;exact ⟨t,h0,by omega,hs⟩
theorem fK (p:Nat) (zs:List Int) (T n:Int) (w:World) (h:dL w p zs T) (hu:U8 zs) (hT:T≤1000000) (hn0:1≤n) (hn1:n≤1000) (hl:zs.length≤2097152) :
  Calls Tryz.prog 56 #[.pointer (some ⟨p,0,none⟩),.int .i64 n] w fun e w'=>∃ r:Nat,e=.returned (.int .i64 r)∧(r:Int)<n∧dL w' p zs (T+1)∧aD (fun b=>b=p) w w':=by
 obtain ⟨t,h0,h1,hs⟩:=h;refine (pY p zs t n w hs hu h0 (by omega) hn0 (by omega) hl).mono ?_
 rintro e w' ⟨r,rfl,r0,r1,s1,k1⟩;exact ⟨r.toNat,by rw[Int.toNat_of_nonneg r0],by omega,⟨t+1,by omega,by omega,s1⟩,k1⟩
theorem qZ (p g c m:Nat) (vs:List Int) (zs:List Int) (T:Int) (w:World) (h:dL w p zs T) (hu:U8 zs) (hT:T≤1000000) (hl:zs.length≤2097152)
  (hm0:0<m) (hm1:m≤1000) (hm:m=vs.length) (hg:g≠p) (hgl:g<w.heap.size) (hc:∀ i,i<m→w.cell? ⟨g,i,none⟩=some (.int .i64 (vs.getD i 0))) :
  Calls Tryz.prog 97 #[.pointer (some ⟨p,0,none⟩),.slice (some ⟨g,0,none⟩) m c] w fun e w'=>∃ v,v∈vs∧e=.returned (.int .i64 v)∧dL w' p zs (T+1)∧aD (fun b=>b=p) w w':=by
 obtain ⟨t,h0,h1,hs⟩:=h;refine (zv0 p g c m vs zs t w hs hu h0 (by omega) hl hm0 hm1 hm hg hgl hc).mono ?_
 rintro e w' ⟨v,hv,rfl,s1,k1⟩;exact ⟨v,hv,rfl,⟨t+1,by omega,by omega,s1⟩,k1⟩
theorem zn7 (p:Nat) (n:Nat) (zs:List Int) (T:Int) (w:World) (h:dL w p zs T) (hu:U8 zs) (hT:T≤1000000) (hl:zs.length≤2097152) (hn:n≤1000) :
  Calls Tryz.prog 55 #[.pointer (some ⟨p,0,none⟩),.int .i64 n] w fun e w'=>∃ a c ds,e=.returned (.slice a n c)∧ds.length=n∧U8 ds∧w'.ownsRow w.heap.size 5 1 (.slice a n c) n (ds.map (Value.int .u8))∧dL w' p zs (T+n)∧aD (fun b=>b=p) w w':=by
 have hp:=h.lt;obtain ⟨t,h0,h1,hs⟩:=h;refine (zx0 p n zs t w hs hu h0 (by omega) hl (by omega) hp).mono ?_
 rintro e w' ⟨a,c,ds,rfl,hd,hu,ho,s1,k1⟩;exact ⟨a,c,ds,rfl,hd,hu,ho,⟨t+n,by omega,by omega,s1⟩,k1⟩
theorem tB (p:Nat) (zs:List Int) (T n:Int) (w:World) (h:dL w p zs T) (hu:U8 zs) (hT:T≤1000000) (hn0:1≤n) (hn1:n≤1000) (hl:zs.length≤2097152) :
  Calls Tryz.prog 57 #[.pointer (some ⟨p,0,none⟩),.int .i64 n] w fun e w'=>∃ r:Bool,e=.returned (.bool r)∧dL w' p zs (T+1)∧aD (fun b=>b=p) w w':=by
 have HS:=aA h;have HU:=aA hu;clear h hu;go_enter Tryz.func57,Tryz.ntmps57;go_wp2_with fail
 refine (fK p zs T n _ HS.out HU.out hT hn0 hn1 hl).mono ?_;rintro e w1 ⟨r,rfl,r1,s1,k1⟩;have S1:=aA s1;have K1:=aA k1;clear s1 k1;go_wp2_with fail
 go_ret
 exact ⟨_,rfl,S1.out,K1.out⟩
def iY (Q:Bs→Prop) (w:World) (g n:Nat):Prop:=g<w.heap.size∧∀ i,i<n→∃ x:Bs,w.cell? ⟨g,i,none⟩=some (.string (str x))∧Q x
theorem iY.new {Q:Bs→Prop} {w:World} {t:TypeId} {vs:List Bs} (h:∀ x∈vs,Q x):iY Q (w.alloc (.cells (vs.map vS).toArray t)) w.heap.size vs.length:=by
 refine ⟨by simp,fun i hi=>⟨vs[i],?_,h _ (List.getElem_mem hi)⟩⟩
 rw[cell_of_row _ w.heap.size i (vs.map vS).toArray t (0,0) (heap_alloc_new w _)];simp[hi,vS]
theorem iY.kept {Q:Bs→Prop} {S:Nat→Prop} {w w':World} {g n:Nat} (h:iY Q w g n) (hk:aD S w w') (hn:¬ S g):iY Q w' g n :=
 ⟨Nat.lt_of_lt_of_le h.1 hk.size,fun i hi=>by obtain ⟨x,hx,hl⟩:=h.2 i hi;exact ⟨x,(hk.cell (p:=⟨g,i,none⟩) h.1 hn).trans hx,hl⟩⟩
theorem zfl (p:Nat) (zs:List Int) (T:Int) (w:World) (h:dL w p zs T) (hu:U8 zs) (hT:T≤1000000) (hl:zs.length≤2097152) :
  Calls Tryz.prog 196 #[.pointer (some ⟨p,0,none⟩)] w fun e w'=>∃ x:Bs,e=.returned (.string (str x))∧(dX x=true∧x.length≤2)∧dL w' p zs (T+1)∧aD (fun b=>b=p) w w':=by
 have hp:=h.lt;have T0:=aA (iY.new (Q:=fun x=>dX x=true∧x.length≤2) (w:=w) (t:=9) (vs:=[[97],[98],[99],[97,98]]) (by decide))
 have HS:=aA (h.below (aC w (.cells ([[97],[98],[99],[97,98]].map vS).toArray 9)));have HU:=aA hu;clear h hu;go_enter Tryz.func196,Tryz.ntmps196;go_wp2_with fail
 refine (fK p zs T 4 _ HS.out HU.out hT (by decide) (by decide) hl).mono ?_
 rintro e w1 ⟨i,rfl,r1,s1,k1⟩;have T1:=aA (T0.out.kept k1 (by omega))
 have S1:=aA s1;have K1:=aA (((aD.refl (fun b=>b=p) w).alloc (.cells ([[97],[98],[99],[97,98]].map vS).toArray 9)).trans k1)
 clear s1 k1 T0 HS;obtain ⟨x,hx,hxl⟩:=T1.out.2 i (by simp;omega)
 have hb:=T1.out.1;have HX:=aA hxl;clear hxl;go_wp2_with fail
 go_ret
 exact ⟨x,rfl,HX.out,S1.out,K1.out⟩
end Go.Proofs.YtgaeikgoknoamaaGreat
namespace Go.Proofs.YtgaeikgoknoamaaGreat
open Go.RowKit Go.Maps
attribute [local go_sem ↓] Go.wp_at_zero Go.wp_at_succ
theorem zx6 (p:Nat) (zs:List Int) (T:Int) (w:World) (h:dL w p zs T) (hu:U8 zs) (hT:T≤900000) (hl:zs.length≤2097152) :
  Calls Tryz.prog 151 #[.pointer (some ⟨p,0,none⟩)] w fun e w'=>∃ x:Bs,e=.returned (.string (str x))∧aF x=0∧x.length≤9∧dL w' p zs (T+4)∧aD (fun b=>b=p) w w':=by
 obtain ⟨i1,ki,kz0,kz1,kz2⟩:=info_parts rK;have hp:=h.lt;have HS:=aA ((h.below (aC w (.cells #[] 9))).below (aC _ (.cells #[.int .i64 1,.int .i64 1,.int .i64 2,.int .i64 2,.int .i64 3] 2)));have O0:=aA (cJ.below (w':=(w.alloc (.cells #[] 9)).alloc (.cells #[.int .i64 1,.int .i64 1,.int .i64 2,.int .i64 2,.int .i64 3] 2)) (ps:=[]) (World.ownsRow_made (base:=w.heap.size) (e:=9) (size:=1) w #[] 0 (Nat.le_refl _) (Nat.zero_le _) rfl) (aC _ _));have HU:=aA hu;have K0:=aA (((aD.refl (fun b=>b=p) w).alloc (.cells #[] 9)).alloc (.cells #[.int .i64 1,.int .i64 1,.int .i64 2,.int .i64 2,.int .i64 3] 2))
 have C5:=aA (zkj (w.alloc (.cells #[] 9)) 1 1 2 2 3 2);clear h hu;go_enter Tryz.func151,Tryz.ntmps151;go_wp2_with fail
 refine (qZ p (w.heap.size+1) 5 5 [1,1,2,2,3] zs T _ HS.out HU.out (by omega) hl (by decide) (by decide) rfl (by omega) (by simp) (by simpa using C5.out)).mono ?_
 rintro e w1 ⟨v,hv,rfl,s1,k1⟩;have hv2:1≤v∧v≤3:=by simp at hv;omega
 obtain ⟨m0,rfl⟩:∃ m:Nat,v=m:=⟨v.toNat,by omega⟩
 have S1:=aA s1;have O1:=aA (O0.out.kept k1 (fun b hb e=>by have:=(O0.out.lt b hb).1;omega))
 have K1:=aA (K0.out.trans k1);clear s1 k1 O0 K0 C5 HS hv;go_wp2_with fail
 go_loopw [3,4] (fun v k wr=>∃ (q:List Bs) (m:Nat),k=.int .i64 m∧q.length+m=m0∧Hid (∀ n∈q,dX n=true∧n.length≤2)∧Hid (cJ w.heap.size wr v q)∧Hid (dL wr p zs (T+1+q.length))∧Hid (aD (fun b=>b=p) w wr)) (fun _ k _=>(intOf k).toNat)
 case atStart=>exact ⟨[],m0,rfl,by simp,aA (by simp),O1,aA (by simpa using S1.out),K1⟩
 case round =>
  obtain ⟨q,m,rfl,hqm,HN,HO,HSr,HK⟩:=hrel;obtain ⟨va,vc,rfl⟩:=HO.out.shape;by_cases hm:0<m
  ·have hm':(0:Int)<(m:Int):=by omega
   have hm1:q.length+1≤maxLen:=by unfold maxLen;omega
   have hm2:(q.length+1) * 16≤140737488355328:=by omega
   go_wp2_with fail
   refine (zfl p zs _ _ HSr.out HU.out (by omega) hl).mono ?_
   rintro e w2 ⟨x,rfl,hxl,s2,k2⟩;have S2:=aA s2;have HX:=aA hxl;have O2:=aA (HO.out.kept k2 (fun b hb e=>by have:=(HO.out.lt b hb).1;omega))
   have K2:=aA (HK.out.trans k2);have hsz:w.heap.size≤w2.heap.size:=K2.out.size;clear s2 k2 hxl;go_wp2_with (at_builtin;refine bS rfl (.tmp 13) (.tmp 16) 25 rfl w.heap.size 9 i1 (.string ⟨#[]⟩) 1 16 Tryz.underlying25 ki kz0 kz1 kz2 rfl (by decide) _ _ _ rfl O2.out rfl rfl (by intro u hu;simp at hu;subst hu;rfl) hm1 hm2 hsz ?_;intro v' w3 hown3 hkept;have O3:=aA (cJ.snoc hown3 rfl);have K3:=aA hkept;clear hown3 hkept)
   go_roundw
   case rel=>exact ⟨q ++ [x],m - 1,by go_num,by simp;omega,aA (fun n hn=>by rcases List.mem_append.1 hn with h | h;exact HN.out n h;simp at h;rw[h];exact HX.out),O3,aA ((S2.out.kept K3.out (fun b hb e=>by have:=(O2.out.lt b e).1;omega)).mono (by simp;omega)),aA (K2.out.trans_own K3.out (fun b hb e=>by have:=(O2.out.lt b e).1;omega))⟩
   case measure=>simp[intOf];omega
  ·have hm':¬ (0:Int)<(m:Int):=by omega
   have hjl:=zp0 q (fun n hn=>(HN.out n hn).2)
   have HFP:=aA (show aF (bR q)=0 from oX ⟨by intro e;rw[e]at hqm;simp at hqm;omega,fun n hn=>(HN.out n hn).1,fun n hn=>by have:=(HN.out n hn).2;omega,by omega⟩)
   go_wp2_with fail
   refine (zy0 _ _ q _ HO.out.reads (by omega) (by omega) _ rfl).mono ?_
   rintro e w2 ⟨rfl,rfl⟩;go_wp2_with fail
   go_ret
   exact ⟨bR q,rfl,HFP.out,by omega,HSr.out.mono (by omega),HK.out⟩
theorem ztk (p:Nat) (zs:List Int) (T:Int) (w:World) (h:dL w p zs T) (hu:U8 zs) (hT:T≤800000) (hl:zs.length≤2097152) :
  Calls Tryz.prog 198 #[.pointer (some ⟨p,0,none⟩)] w fun e w'=>∃ x:Bs,e=.returned (.string (str x))∧x.length≤9∧dL w' p zs (T+5)∧aD (fun b=>b=p) w w':=by
 have hp:=h.lt;have HS:=aA h;have HU:=aA hu;clear h hu;go_enter Tryz.func198,Tryz.ntmps198;go_wp2_with fail
 refine (tB p zs T 5 _ HS.out HU.out (by omega) (by decide) (by decide) hl).mono ?_
 rintro e w1 ⟨r,rfl,s1,k1⟩;have S1:=aA s1;have K1:=aA k1;have hp1:=s1.lt;clear s1 k1 HS;cases r
 ·go_wp2_with fail
  refine (zx6 p zs _ _ S1.out HU.out (by omega) hl).mono ?_
  rintro e w2 ⟨x,rfl,-,hxl,s2,k2⟩;have S2:=aA s2;have K2:=aA (K1.out.trans k2);clear k2 s2;go_wp2_with fail
  go_ret
  exact ⟨x,rfl,hxl,S2.out.mono (by omega),K2.out⟩
 ·have T0:=aA (iY.new (Q:=fun x=>x.length≤9) (w:=w1) (t:=9) (vs:=[[],[97],[47,97,47],[47,47],[47,65],[47,97,98,99,100,101],[47,97,47,98,47,99,47,100],[47],[47,97,32,98]]) (by decide))
  have S2:=aA (S1.out.below (aC w1 (.cells ([[],[97],[47,97,47],[47,47],[47,65],[47,97,98,99,100,101],[47,97,47,98,47,99,47,100],[47],[47,97,32,98]].map vS).toArray 9)));go_wp2_with fail
  refine (fK p zs _ 9 _ S2.out HU.out (by omega) (by decide) (by decide) hl).mono ?_
  rintro e w2 ⟨i,rfl,r1,s2,k2⟩;have T1:=aA (T0.out.kept k2 (by omega))
  have K2:=aA ((K1.out.alloc (.cells ([[],[97],[47,97,47],[47,47],[47,65],[47,97,98,99,100,101],[47,97,47,98,47,99,47,100],[47],[47,97,32,98]].map vS).toArray 9)).trans k2);have S3:=aA s2;clear s2 k2 T0 S2;obtain ⟨x,hx,hxl⟩:=T1.out.2 i (by simp;omega)
  have hb:=T1.out.1;go_wp2_with fail
  go_ret
  exact ⟨x,rfl,hxl,S3.out.mono (by omega),K2.out⟩
theorem nG {p:Bs} {k:Int} (hp:aF p=0) (hk:2≤k∧k≤4):aI ⟨p,k,0,[]⟩=0:=by
 rw[fN (e:=⟨p,k,0,[]⟩) hp (decide_eq_true ⟨⟨by show (1:Int)≤k;omega,by show k≤4;omega⟩,.inr ⟨rfl,rfl⟩⟩) (decide_eq_true (show (0:Int)≤0∧(0:Int)≤24 by decide)) (decide_eq_true (show ((0:Nat):Int)=((0:Int)+7) / 8 by decide))]
 rfl
theorem zlb {p:Bs} {zs:List Int} (hp:aF p=0) (hl:zs.length≤24):aI (bV p zs)=0:=by
 have h1:gR (bV p zs)=true:=decide_eq_true ⟨by simp[bV],.inl rfl⟩
 have h2:kW (bV p zs)=true:=decide_eq_true (by simp[bV];omega)
 have h3:lQ (bV p zs)=true:=decide_eq_true (by show ((kP zs (cut zs).length).length:Int)=((zs.length:Int)+7) / 8;rw[kD,gP];omega)
 rw[fN hp h1 h2 h3,if_pos];rw[List.all_eq_true];intro z hz;simp only[bV,kP,List.mem_map]at hz;obtain ⟨i,_,rfl⟩:=hz;exact decide_eq_true (qQ _)
def zmd (w:World) (p:Nat) (zs:List Int) (T:Int) (Q:En→Prop) (r:Ending) (w':World):Prop :=
 ∃ (e:En) (a:Option Addr) (c:Nat),r=.returned (.agg #[.string (str e.path),.int .i64 e.kind,.int .i64 e.size,.slice a e.chunks.length c])∧Q e∧w'.ownsRow w.heap.size 2 1 (.slice a e.chunks.length c) e.chunks.length (e.chunks.map (Value.int .i64))∧dL w' p zs T∧aD (fun b=>b=p) w w'
theorem nA.kept {S:Nat→Prop} {w w':World} {b:Nat} {u0 u1 u2 u3:Value} (h:nA w b u0 u1 u2 u3) (hk:aD S w w') (hn:¬ S b):nA w' b u0 u1 u2 u3 :=
 ⟨⟨(hk.cell (p:=⟨b,0,none⟩) h.1.lt hn).trans h.1.1,(hk.cell (p:=⟨b,1,none⟩) h.1.lt hn).trans h.1.2.1,(hk.cell (p:=⟨b,2,none⟩) h.1.lt hn).trans h.1.2.2.1,(hk.cell (p:=⟨b,3,none⟩) h.1.lt hn).trans h.1.2.2.2⟩,fun i=>(hk.frozen (p:=⟨b,i,none⟩) h.1.lt hn).trans (h.2 i)⟩
theorem yC (p:Nat) (zs:List Int) (T:Int) (w:World) (h:dL w p zs T) (hu:U8 zs) (hT:T≤700000) (hl:zs.length≤2097152) :
  Calls Tryz.prog 187 #[.pointer (some ⟨p,0,none⟩)] w (zmd w p zs (T+30) (fun e=>aI e=0∧e.path.length≤9)):=by
 have hp:=h.lt;have X0:=aA (nA.new w (.string ⟨#[]⟩) (.int .i64 0) (.int .i64 0) (.slice none 0 0) 87);have S0:=aA (h.below (aC w (.cells #[.string ⟨#[]⟩,.int .i64 0,.int .i64 0,.slice none 0 0] 87)));have K0:=aA ((aD.refl (fun b=>b=p) w).alloc (.cells #[.string ⟨#[]⟩,.int .i64 0,.int .i64 0,.slice none 0 0] 87))
 have HU:=aA hu;clear h hu;go_enter Tryz.func187,Tryz.ntmps187;go_wp2_with fail
 refine (zx6 p zs T _ S0.out HU.out (by omega) hl).mono ?_
 rintro r w1 ⟨x,rfl,hf,hxl,s1,k1⟩;have S1:=aA s1;have K1:=aA (K0.out.trans k1);have X1:=aA (X0.out.kept k1 (by omega))
 have HF:=aA hf;clear s1 k1 hf X0 S0 K0;go_wp2_with fail
 refine (fK p zs _ 7 _ S1.out HU.out (by omega) (by decide) (by decide) hl).mono ?_
 rintro r w2 ⟨i,rfl,hi,s2,k2⟩;have S2:=aA s2;have K2:=aA (K1.out.trans k2);have X2:=aA (X1.out.kept k2 (by omega))
 have hw2:w.heap.size<w2.heap.size:=X2.out.1.lt;clear s2 k2 S1 K1 X1;by_cases h0:i=0
 ·subst h0
  ·obtain ⟨⟨q0,q1,q2,q3⟩,qf⟩:=X2.out
   have qf0:=qf 0;have qf1:=qf 1;have qf2:=qf 2;have qf3:=qf 3;go_wp2_with fail
   have hk:aD (fun b=>b=w.heap.size) w2 ((((w2.setCell ⟨w.heap.size,0,none⟩ (.string (str x))).setCell ⟨w.heap.size,1,none⟩ (.int .i64 3)).setCell ⟨w.heap.size,2,none⟩ (.int .i64 0)).setCell ⟨w.heap.size,3,none⟩ (.slice none 0 0)):=aD.setCell (S:=fun b=>b=w.heap.size) (p:=⟨w.heap.size,3,none⟩) (aD.setCell (S:=fun b=>b=w.heap.size) (p:=⟨w.heap.size,2,none⟩) (aD.two _ _ _ _ _ _) (fun _=>rfl) _) (fun _=>rfl) _
   exact bodyPost_ret (v:=.agg #[.string (str x),.int .i64 3,.int .i64 0,.slice none 0 0]) (by simp[results,Tryz.results187,go_sem,q0,q1,q2,q3]) rfl ⟨⟨x,3,0,[]⟩,none,0,rfl,⟨nG HF.out (by decide),hxl⟩,World.ownsRow_nil _ _ _ _,(S2.out.kept hk (fun b hb e=>by omega)).mono (by omega),K2.out.trans_own hk (fun b hb e=>by omega)⟩
 ·by_cases h1:i=1
  ·subst h1
   obtain ⟨⟨q0,q1,q2,q3⟩,qf⟩:=X2.out;have qf0:=qf 0;have qf1:=qf 1;have qf2:=qf 2;have qf3:=qf 3;go_wp2_with fail
   have hk:aD (fun b=>b=w.heap.size) w2 ((((w2.setCell ⟨w.heap.size,0,none⟩ (.string (str x))).setCell ⟨w.heap.size,1,none⟩ (.int .i64 4)).setCell ⟨w.heap.size,2,none⟩ (.int .i64 0)).setCell ⟨w.heap.size,3,none⟩ (.slice none 0 0)):=aD.setCell (S:=fun b=>b=w.heap.size) (p:=⟨w.heap.size,3,none⟩) (aD.setCell (S:=fun b=>b=w.heap.size) (p:=⟨w.heap.size,2,none⟩) (aD.two _ _ _ _ _ _) (fun _=>rfl) _) (fun _=>rfl) _
   exact bodyPost_ret (v:=.agg #[.string (str x),.int .i64 4,.int .i64 0,.slice none 0 0]) (by simp[results,Tryz.results187,go_sem,q0,q1,q2,q3]) rfl ⟨⟨x,4,0,[]⟩,none,0,rfl,⟨nG HF.out (by decide),hxl⟩,World.ownsRow_nil _ _ _ _,(S2.out.kept hk (fun b hb e=>by omega)).mono (by omega),K2.out.trans_own hk (fun b hb e=>by omega)⟩
  ·by_cases h2:i=2∨i=3
   ·rcases h2 with rfl | rfl
    ·obtain ⟨⟨q0,q1,q2,q3⟩,qf⟩:=X2.out
     have qf0:=qf 0;have qf1:=qf 1;have qf2:=qf 2;have qf3:=qf 3;go_wp2_with fail
     have hk:aD (fun b=>b=w.heap.size) w2 ((((w2.setCell ⟨w.heap.size,0,none⟩ (.string (str x))).setCell ⟨w.heap.size,1,none⟩ (.int .i64 2)).setCell ⟨w.heap.size,2,none⟩ (.int .i64 0)).setCell ⟨w.heap.size,3,none⟩ (.slice none 0 0)):=aD.setCell (S:=fun b=>b=w.heap.size) (p:=⟨w.heap.size,3,none⟩) (aD.setCell (S:=fun b=>b=w.heap.size) (p:=⟨w.heap.size,2,none⟩) (aD.two _ _ _ _ _ _) (fun _=>rfl) _) (fun _=>rfl) _
     exact bodyPost_ret (v:=.agg #[.string (str x),.int .i64 2,.int .i64 0,.slice none 0 0]) (by simp[results,Tryz.results187,go_sem,q0,q1,q2,q3]) rfl ⟨⟨x,2,0,[]⟩,none,0,rfl,⟨nG HF.out (by decide),hxl⟩,World.ownsRow_nil _ _ _ _,(S2.out.kept hk (fun b hb e=>by omega)).mono (by omega),K2.out.trans_own hk (fun b hb e=>by omega)⟩
    ·obtain ⟨⟨q0,q1,q2,q3⟩,qf⟩:=X2.out
     have qf0:=qf 0;have qf1:=qf 1;have qf2:=qf 2;have qf3:=qf 3;go_wp2_with fail
     have hk:aD (fun b=>b=w.heap.size) w2 ((((w2.setCell ⟨w.heap.size,0,none⟩ (.string (str x))).setCell ⟨w.heap.size,1,none⟩ (.int .i64 2)).setCell ⟨w.heap.size,2,none⟩ (.int .i64 0)).setCell ⟨w.heap.size,3,none⟩ (.slice none 0 0)):=aD.setCell (S:=fun b=>b=w.heap.size) (p:=⟨w.heap.size,3,none⟩) (aD.setCell (S:=fun b=>b=w.heap.size) (p:=⟨w.heap.size,2,none⟩) (aD.two _ _ _ _ _ _) (fun _=>rfl) _) (fun _=>rfl) _
     exact bodyPost_ret (v:=.agg #[.string (str x),.int .i64 2,.int .i64 0,.slice none 0 0]) (by simp[results,Tryz.results187,go_sem,q0,q1,q2,q3]) rfl ⟨⟨x,2,0,[]⟩,none,0,rfl,⟨nG HF.out (by decide),hxl⟩,World.ownsRow_nil _ _ _ _,(S2.out.kept hk (fun b hb e=>by omega)).mono (by omega),K2.out.trans_own hk (fun b hb e=>by omega)⟩
   ·have e0:((i:Int)==0)=false:=by simp;omega
    have e1:((i:Int)==1)=false:=by simp;omega
    have e2:((i:Int)==2)=false:=by simp;omega
    have e3:((i:Int)==3)=false:=by simp;omega
    clear h0 h1 h2;go_wp2_with fail
    refine (fK p zs _ 14 _ S2.out HU.out (by omega) (by decide) (by decide) hl).mono ?_
    rintro r w3 ⟨j,rfl,hj,s3,k3⟩;have S3:=aA s3;have K3:=aA (K2.out.trans k3);have X3:=aA (X2.out.kept k3 (by omega))
    clear s3 k3 S2 K2 X2;go_wp2_with fail
    refine (zn7 p j zs _ _ S3.out HU.out (by omega) hl (by omega)).mono ?_
    rintro r w4 ⟨da,dc,ds,rfl,hdl,hdu,ho4,s4,k4⟩;subst hdl;have RD:=aA (cM ho4 rfl);have hcap:=kM ho4;have S4:=aA s4;have K4:=aA (K3.out.trans k4);have X4:=aA (X3.out.kept k4 (by omega))
    have DU:=aA hdu;clear s4 k4 S3 K3 X3 ho4 hdu;go_wp2_with fail
    refine (qA x da dc ds _ RD.out DU.out hcap (by omega)).mono ?_
    rintro r w5 ⟨av,cv,rfl,ho5,hb5⟩;have hls:=kD ds;have S5:=aA (S4.out.below hb5);have K5:=aA (K4.out.trans (aD.of_below hb5));obtain ⟨⟨q0,q1,q2,q3⟩,qf⟩:=X4.out.below hb5;have qf0:=qf 0;have qf1:=qf 1;have qf2:=qf 2;have qf3:=qf 3;have O5:=aA ho5;have hw4:w.heap.size<w4.heap.size:=X4.out.1.lt;clear ho5 hb5 S4 K4 X4 qf;go_wp2_with fail
    have hk:aD (fun b=>b=w.heap.size) w5 ((((w5.setCell ⟨w.heap.size,0,none⟩ (.string (str x))).setCell ⟨w.heap.size,1,none⟩ (.int .i64 1)).setCell ⟨w.heap.size,2,none⟩ (.int .i64 ds.length)).setCell ⟨w.heap.size,3,none⟩ (.slice av (cut ds).length cv)):=aD.setCell (S:=fun b=>b=w.heap.size) (p:=⟨w.heap.size,3,none⟩) (aD.setCell (S:=fun b=>b=w.heap.size) (p:=⟨w.heap.size,2,none⟩) (aD.two _ _ _ _ _ _) (fun _=>rfl) _) (fun _=>rfl) _
    refine bodyPost_ret (v:=.agg #[.string (str x),.int .i64 1,.int .i64 ds.length,.slice av (cut ds).length cv]) (by simp[results,Tryz.results187,go_sem,q0,q1,q2,q3]) rfl ⟨bV x ds,av,cv,by rw[show (bV x ds).chunks.length=(cut ds).length from hls];rfl,⟨zlb HF.out (by omega),hxl⟩,?_,(S5.out.kept hk (fun b hb e=>by omega)).mono (by omega),K5.out.trans_own hk (fun b hb e=>by omega)⟩
    rw[show (bV x ds).chunks.length=(cut ds).length from hls]
    exact aS (aH O5.out hk (fun b hb hS=>by have:=(O5.out.lt b hb).1;omega)) (by omega)
theorem zaa (w:World) (a b c:Int) (t:TypeId):∀ i,i<3→(w.alloc (.cells #[.int .i64 a,.int .i64 b,.int .i64 c] t)).cell? ⟨w.heap.size,i,none⟩=some (.int .i64 ([a,b,c].getD i 0)):=by
 intro i hi
 match i,hi with
 | 0,_ | 1,_ | 2,_=>simp
theorem zij (w:World) (a b:Int) (t:TypeId):∀ i,i<2→(w.alloc (.cells #[.int .i64 a,.int .i64 b] t)).cell? ⟨w.heap.size,i,none⟩=some (.int .i64 ([a,b].getD i 0)):=by
 intro i hi
 match i,hi with
 | 0,_ | 1,_=>simp
theorem zvh {w:World} {H:Nat} {u:Value} {t:TypeId} (hH:w.heap.size=H):∀ j x,[u][j]?=some x→(w.alloc (.cells #[u] t)).cell? ((⟨H,0,none⟩:Addr).add j)=some x:=by
 subst hH;intro j x hj;rw[eU,Nat.zero_add,cell_of_row _ w.heap.size j #[u] t (0,0) (heap_alloc_new w _)];simpa using hj
theorem xZ (p:Nat) (zs:List Int) (T:Int) (w:World) (h:dL w p zs T) (hu:U8 zs) (hT:T≤600000) (hl:zs.length≤2097152) :
  Calls Tryz.prog 152 #[.pointer (some ⟨p,0,none⟩)] w (zmd w p zs (T+40) (fun e=>e.path.length≤9∧e.chunks.length≤4)):=by
 obtain ⟨i0,hi0,hz0,hz1,hz2⟩:=info_parts Tryz.infoI64;have hp:=h.lt;have X0:=aA (nA.new w (.string ⟨#[]⟩) (.int .i64 0) (.int .i64 0) (.slice none 0 0) 87);have S0:=aA (h.below (aC w (.cells #[.string ⟨#[]⟩,.int .i64 0,.int .i64 0,.slice none 0 0] 87)));have K0:=aA ((aD.refl (fun b=>b=p) w).alloc (.cells #[.string ⟨#[]⟩,.int .i64 0,.int .i64 0,.slice none 0 0] 87))
 have HU:=aA hu;have hsw:(w.alloc (.cells #[.string ⟨#[]⟩,.int .i64 0,.int .i64 0,.slice none 0 0] 87)).heap.size=w.heap.size+1:=by simp
 clear h hu;go_enter Tryz.func152,Tryz.ntmps152;go_wp2_with fail
 refine (yC p zs T _ S0.out HU.out (by omega) hl).mono ?_
 rintro r w1 ⟨e,a,c,rfl,⟨hef,hxl⟩,ho1,s1,k1⟩;rw[hsw]at ho1;have hc5:e.chunks.length≤3:=fX hef;have hc3:e.chunks.length≤4:=by omega
 have hw1:w.heap.size<w1.heap.size:=by have:=k1.size;omega
 have AE:=aA (aC w1 (.cells #[.string (str e.path),.int .i64 e.kind,.int .i64 e.size,.slice a e.chunks.length c] 87));have S1:=aA (s1.below AE.out);have K1:=aA ((K0.out.trans k1).alloc (.cells #[.string (str e.path),.int .i64 e.kind,.int .i64 e.size,.slice a e.chunks.length c] 87));have X1:=aA ((X0.out.kept k1 (by omega)).below AE.out)
 have E1:=aA (nA.new w1 (.string (str e.path)) (.int .i64 e.kind) (.int .i64 e.size) (.slice a e.chunks.length c) 87);have O1:=aA (aG ho1 AE.out);have OL:=aA (fun b hb=>ho1.lt b hb)
 clear s1 k1 hef X0 S0 K0 ho1 hsw AE;go_wp2_with fail
 generalize w1.alloc (.cells #[.string (str e.path),.int .i64 e.kind,.int .i64 e.size,.slice a e.chunks.length c] 87)=W1 at *;obtain ⟨b1,hb1⟩:∃ b1,b1=w1.heap.size:=⟨_,rfl⟩;rw[←hb1]at E1 OL hw1 ⊢;clear hb1;refine (fK p zs _ 12 _ S1.out HU.out (by omega) (by decide) (by decide) hl).mono ?_
 rintro r w2 ⟨i,rfl,hi,s2,k2⟩;have S2:=aA s2;have K2:=aA (K1.out.trans k2);have E2:=aA (E1.out.kept k2 (by omega))
 have X2:=aA (X1.out.kept k2 (by omega))
 have O2:=aA (aH O1.out k2 (fun b hb e=>by have:=O1.out.lt b hb;omega))
 clear s2 k2 S1 K1 X1 O1 E1;by_cases h0:i=0
 ·subst h0
  ·go_wp2_with fail
   refine (ztk p zs _ _ S2.out HU.out (by omega) hl).mono ?_
   rintro r w3 ⟨y,rfl,hyl,s3,k3⟩;have K2':=K2;have E2':=E2;have X2':=X2;have O2':=O2;have S3:=aA s3;have K3:=aA (K2'.out.trans k3);have E3:=aA (E2'.out.kept k3 (by omega))
   have X3:=aA (X2'.out.kept k3 (by omega))
   have O3:=aA (aH O2'.out k3 (fun b hb e=>by have:=O2'.out.lt b hb;omega))
   clear s3 k3;obtain ⟨⟨p0,p1,p2,p3⟩,pf⟩:=E3.out;obtain ⟨⟨q0,q1,q2,q3⟩,qf⟩:=X3.out;have pf0:=pf 0;have pf1:=pf 1;have pf2:=pf 2;have pf3:=pf 3;have qf0:=qf 0;have qf1:=qf 1;have qf2:=qf 2;have qf3:=qf 3;have hlt3:b1<w3.heap.size:=World.block_lt_of_cell? _ _ p0;clear pf qf;go_wp2_with fail
   have hk:aD (fun b=>b=b1∨b=w.heap.size) w3 (((((w3.setCell ⟨b1,0,none⟩ (.string (str y))).setCell ⟨w.heap.size,0,none⟩ (.string (str y))).setCell ⟨w.heap.size,1,none⟩ (.int .i64 e.kind)).setCell ⟨w.heap.size,2,none⟩ (.int .i64 e.size)).setCell ⟨w.heap.size,3,none⟩ (.slice a e.chunks.length c)):=aD.setCell (S:=fun b=>b=b1∨b=w.heap.size) (p:=⟨w.heap.size,3,none⟩) (aD.setCell (S:=fun b=>b=b1∨b=w.heap.size) (p:=⟨w.heap.size,2,none⟩) (aD.setCell (S:=fun b=>b=b1∨b=w.heap.size) (p:=⟨w.heap.size,1,none⟩) (aD.setCell (S:=fun b=>b=b1∨b=w.heap.size) (p:=⟨w.heap.size,0,none⟩) (aD.setCell (S:=fun b=>b=b1∨b=w.heap.size) (p:=⟨b1,0,none⟩) (aD.refl _ _) (fun _=>.inl rfl) _) (fun _=>.inr rfl) _) (fun _=>.inr rfl) _) (fun _=>.inr rfl) _) (fun _=>.inr rfl) _
   refine bodyPost_ret (v:=.agg #[(.string (str y)),(.int .i64 e.kind),(.int .i64 e.size),(.slice a e.chunks.length c)]) (by simp[results,Tryz.results152,go_sem,q0,q1,q2,q3]) rfl ⟨⟨y,e.kind,e.size,e.chunks⟩,a,c,rfl,⟨by first | exact hyl | exact hxl,by first | exact hc3 | exact hc4⟩,?_,(S3.out.kept hk (fun b hb e=>by omega)).mono (by omega),K3.out.trans_own hk (fun b hb e=>by omega)⟩
   exact aS (aH O3.out hk (fun b hb hS=>by have:=OL.out b hb;omega)) (by omega)
 ·by_cases h1:i=1
  ·subst h1
   have K2':=aA (K2.out.alloc (.cells #[.int .i64 0,.int .i64 5,.int .i64 1] 2));have E2':=aA (E2.out.below (aC w2 (.cells #[.int .i64 0,.int .i64 5,.int .i64 1] 2)));have X2':=aA (X2.out.below (aC w2 (.cells #[.int .i64 0,.int .i64 5,.int .i64 1] 2)));have O2':=aA (aG O2.out (aC w2 (.cells #[.int .i64 0,.int .i64 5,.int .i64 1] 2)));have S2':=aA (S2.out.below (aC w2 (.cells #[.int .i64 0,.int .i64 5,.int .i64 1] 2)));have CC:=aA (zaa w2 (0) (5) (1) 2);have hw2l:b1<w2.heap.size:=E2.out.1.lt;go_wp2_with fail
   refine (qZ p w2.heap.size 3 3 [0,5,1] zs _ _ S2'.out HU.out (by omega) hl (by decide) (by decide) rfl (by omega) (by simp) CC.out).mono ?_
   rintro r w3 ⟨v,hv,rfl,s3,k3⟩;have S3:=aA s3;have K3:=aA (K2'.out.trans k3);have E3:=aA (E2'.out.kept k3 (by omega))
   have X3:=aA (X2'.out.kept k3 (by omega))
   have O3:=aA (aH O2'.out k3 (fun b hb e=>by have:=O2'.out.lt b hb;omega))
   clear s3 k3;obtain ⟨⟨p0,p1,p2,p3⟩,pf⟩:=E3.out;obtain ⟨⟨q0,q1,q2,q3⟩,qf⟩:=X3.out;have pf0:=pf 0;have pf1:=pf 1;have pf2:=pf 2;have pf3:=pf 3;have qf0:=qf 0;have qf1:=qf 1;have qf2:=qf 2;have qf3:=qf 3;have hlt3:b1<w3.heap.size:=World.block_lt_of_cell? _ _ p0;clear pf qf;go_wp2_with fail
   have hk:aD (fun b=>b=b1∨b=w.heap.size) w3 (((((w3.setCell ⟨b1,1,none⟩ (.int .i64 v)).setCell ⟨w.heap.size,0,none⟩ (.string (str e.path))).setCell ⟨w.heap.size,1,none⟩ (.int .i64 v)).setCell ⟨w.heap.size,2,none⟩ (.int .i64 e.size)).setCell ⟨w.heap.size,3,none⟩ (.slice a e.chunks.length c)):=aD.setCell (S:=fun b=>b=b1∨b=w.heap.size) (p:=⟨w.heap.size,3,none⟩) (aD.setCell (S:=fun b=>b=b1∨b=w.heap.size) (p:=⟨w.heap.size,2,none⟩) (aD.setCell (S:=fun b=>b=b1∨b=w.heap.size) (p:=⟨w.heap.size,1,none⟩) (aD.setCell (S:=fun b=>b=b1∨b=w.heap.size) (p:=⟨w.heap.size,0,none⟩) (aD.setCell (S:=fun b=>b=b1∨b=w.heap.size) (p:=⟨b1,1,none⟩) (aD.refl _ _) (fun _=>.inl rfl) _) (fun _=>.inr rfl) _) (fun _=>.inr rfl) _) (fun _=>.inr rfl) _) (fun _=>.inr rfl) _
   refine bodyPost_ret (v:=.agg #[(.string (str e.path)),(.int .i64 v),(.int .i64 e.size),(.slice a e.chunks.length c)]) (by simp[results,Tryz.results152,go_sem,q0,q1,q2,q3]) rfl ⟨⟨e.path,v,e.size,e.chunks⟩,a,c,rfl,⟨by first | exact hyl | exact hxl,by first | exact hc3 | exact hc4⟩,?_,(S3.out.kept hk (fun b hb e=>by omega)).mono (by omega),K3.out.trans_own hk (fun b hb e=>by omega)⟩
   exact aS (aH O3.out hk (fun b hb hS=>by have:=OL.out b hb;omega)) (by omega)
  ·by_cases h2:i=2
   ·subst h2
    have K2':=aA (K2.out.alloc (.cells #[.int .i64 (-1),.int .i64 25,.int .i64 9] 2));have E2':=aA (E2.out.below (aC w2 (.cells #[.int .i64 (-1),.int .i64 25,.int .i64 9] 2)));have X2':=aA (X2.out.below (aC w2 (.cells #[.int .i64 (-1),.int .i64 25,.int .i64 9] 2)));have O2':=aA (aG O2.out (aC w2 (.cells #[.int .i64 (-1),.int .i64 25,.int .i64 9] 2)));have S2':=aA (S2.out.below (aC w2 (.cells #[.int .i64 (-1),.int .i64 25,.int .i64 9] 2)));have CC:=aA (zaa w2 (-1) (25) (9) 2);have hw2l:b1<w2.heap.size:=E2.out.1.lt;go_wp2_with fail
    refine (qZ p w2.heap.size 3 3 [-1,25,9] zs _ _ S2'.out HU.out (by omega) hl (by decide) (by decide) rfl (by omega) (by simp) CC.out).mono ?_
    rintro r w3 ⟨v,hv,rfl,s3,k3⟩;have S3:=aA s3;have K3:=aA (K2'.out.trans k3);have E3:=aA (E2'.out.kept k3 (by omega))
    have X3:=aA (X2'.out.kept k3 (by omega))
    have O3:=aA (aH O2'.out k3 (fun b hb e=>by have:=O2'.out.lt b hb;omega))
    clear s3 k3;obtain ⟨⟨p0,p1,p2,p3⟩,pf⟩:=E3.out;obtain ⟨⟨q0,q1,q2,q3⟩,qf⟩:=X3.out;have pf0:=pf 0;have pf1:=pf 1;have pf2:=pf 2;have pf3:=pf 3;have qf0:=qf 0;have qf1:=qf 1;have qf2:=qf 2;have qf3:=qf 3;have hlt3:b1<w3.heap.size:=World.block_lt_of_cell? _ _ p0;clear pf qf;go_wp2_with fail
    have hk:aD (fun b=>b=b1∨b=w.heap.size) w3 (((((w3.setCell ⟨b1,2,none⟩ (.int .i64 v)).setCell ⟨w.heap.size,0,none⟩ (.string (str e.path))).setCell ⟨w.heap.size,1,none⟩ (.int .i64 e.kind)).setCell ⟨w.heap.size,2,none⟩ (.int .i64 v)).setCell ⟨w.heap.size,3,none⟩ (.slice a e.chunks.length c)):=aD.setCell (S:=fun b=>b=b1∨b=w.heap.size) (p:=⟨w.heap.size,3,none⟩) (aD.setCell (S:=fun b=>b=b1∨b=w.heap.size) (p:=⟨w.heap.size,2,none⟩) (aD.setCell (S:=fun b=>b=b1∨b=w.heap.size) (p:=⟨w.heap.size,1,none⟩) (aD.setCell (S:=fun b=>b=b1∨b=w.heap.size) (p:=⟨w.heap.size,0,none⟩) (aD.setCell (S:=fun b=>b=b1∨b=w.heap.size) (p:=⟨b1,2,none⟩) (aD.refl _ _) (fun _=>.inl rfl) _) (fun _=>.inr rfl) _) (fun _=>.inr rfl) _) (fun _=>.inr rfl) _) (fun _=>.inr rfl) _
    refine bodyPost_ret (v:=.agg #[(.string (str e.path)),(.int .i64 e.kind),(.int .i64 v),(.slice a e.chunks.length c)]) (by simp[results,Tryz.results152,go_sem,q0,q1,q2,q3]) rfl ⟨⟨e.path,e.kind,v,e.chunks⟩,a,c,rfl,⟨by first | exact hyl | exact hxl,by first | exact hc3 | exact hc4⟩,?_,(S3.out.kept hk (fun b hb e=>by omega)).mono (by omega),K3.out.trans_own hk (fun b hb e=>by omega)⟩
    exact aS (aH O3.out hk (fun b hb hS=>by have:=OL.out b hb;omega)) (by omega)
   ·by_cases h3:i=3
    ·subst h3
     have BD:=aA ((aC w2 (.cells #[.int .i64 (-1),.int .i64 5] 2)).drew);have K2':=(K2.out.alloc (.cells #[.int .i64 (-1),.int .i64 5] 2)).drew;have E2':=aA (E2.out.below BD.out);have X2':=aA (X2.out.below BD.out);have O2':=aA (aG O2.out BD.out);have S2':=aA (S2.out.below BD.out);have CC:Hid (∀ i,i<2→(w2.alloc (.cells #[.int .i64 (-1),.int .i64 5] 2)).drew.cell? ⟨w2.heap.size,i,none⟩=some (.int .i64 (([-1,5]:List Int).getD i 0))):=aA (zij w2 (-1) 5 2);have hw2l:b1<w2.heap.size:=E2.out.1.lt;obtain ⟨⟨p0,p1,p2,p3⟩,pf⟩:=E2.out;have pf3:=pf 3;have hm1:e.chunks.length+1≤maxLen:=by unfold maxLen;omega
     have hm1':(e.chunks.length+1) * 8≤140737488355328:=by omega
     go_wp2_with fail
     go_region_law
      ((
       first
       | (have hO3:=O3;clear hO3;refine bB (by rfl) (.tmp 28) (.tmp 32) 48 (by rfl) (w.heap.size+1) 2 i0 (.int .i64 0) 1 8 Tryz.underlying48 hi0 hz0 hz1 hz2 rfl (by decide) (.slice a e.chunks.length c) e.chunks.length (e.chunks.map (Value.int .i64)) (by rfl) (O3.out.alloc _) ⟨w3.heap.size,0,none⟩ 1 1 [.int .i64 v] (by rfl) (by rfl) (zvh rfl) (by intro u hu;simp at hu;subst hu;rfl) (e.chunks.length+1) rfl hm1 hm1' (by have:=K3.out.size;simp;omega) ?_;intro av4 cv4 w4 hown4 hk4;have O4:=aA hown4;have K4:=aA hk4;have E4:=(E3.out.below (aC w3 _)).kept hk4 (fun hq=>by have:=OL.out b1 hq;omega);have c5:=E4.1.2.2.2;have f5:=E4.2 3;have E4:=aA E4;clear hown4 hk4)
       | (go_simp;go_wp2_with (go_at_call 97;refine (qZ p w2.heap.size 2 2 [-1,5] zs _ _ S2'.out HU.out (by omega) hl (by decide) (by decide) rfl (by omega) (by show w2.heap.size<(w2.alloc (.cells #[.int .i64 (-1),.int .i64 5] 2)).heap.size;simp) CC.out).mono ?_;rintro r w3 ⟨v,hv,rfl,s3,k3⟩;have c3:=(E2'.out.kept k3 (by omega)).1.2.2.2;have c4:∀ o,(w3.alloc o).cell? ⟨b1,3,none⟩=some (.slice a e.chunks.length c):=(fun o=>((E2'.out.kept k3 (by omega)).below (aC w3 o)).1.2.2.2);have S3:=aA s3;have K3:=aA (K2'.trans k3);have E3:=aA (E2'.out.kept k3 (by omega));have X3:=aA (X2'.out.kept k3 (by omega));have O3:=aA (aH O2'.out k3 (fun b hb e=>by have:=O2'.out.lt b hb;omega));clear s3 k3))))
     all_goals
      have X4:=aA ((X3.out.below (aC w3 (.cells #[.int .i64 v] 2))).kept K4.out (fun hq=>by have:=OL.out _ hq;omega))
      have S4:=aA ((S3.out.below (aC w3 (.cells #[.int .i64 v] 2))).kept K4.out (fun b hb hq=>by have:=OL.out b hq;omega))
      have K5:=aA ((K3.out.alloc (.cells #[.int .i64 v] 2)).trans_own K4.out (fun b hb hq=>by have:=OL.out b hq;omega))
      have hnl:(e.chunks ++ [v]).length=e.chunks.length+1:=by simp
      have Q4:Hid (w4.ownsRow (w.heap.size+1) 2 1 (.slice av4 (e.chunks ++ [v]).length cv4) (e.chunks ++ [v]).length ((e.chunks ++ [v]).map (Value.int .i64))):=aA (by rw[hnl,List.map_append];exact O4.out)
      have hne:∀ b,(Value.slice av4 (e.chunks ++ [v]).length cv4).ownBlock=some b→b≠b1∧b≠w.heap.size:=by
       intro b hb;have hge:=Q4.out.lt b hb;refine ⟨fun hbb=>?_,by omega⟩
       obtain ⟨g,cap,hv,h1,h2,h3,h4⟩:=nP Q4.out rfl (by omega)
       rw[hv]at hb;have hg:g=b:=by simpa [Value.ownBlock] using hb
       have h5:=h3 0 (by omega)
       rw[hg,hbb,E4.out.1.1]at h5;cases h5
      clear p0 p1 p2 p3 pf pf3;obtain ⟨⟨p0,p1,p2,p3⟩,pf⟩:=E4.out;obtain ⟨⟨q0,q1,q2,q3⟩,qf⟩:=X4.out;have pf0:=pf 0;have pf1:=pf 1;have pf2:=pf 2;have pf3:=pf 3;have qf0:=qf 0;have qf1:=qf 1;have qf2:=qf 2;have qf3:=qf 3;have hlt3:b1<w4.heap.size:=World.block_lt_of_cell? _ _ p0;clear pf qf;go_wp2_with fail
      have hk:aD (fun b=>b=b1∨b=w.heap.size) w4 (((((w4.setCell ⟨b1,3,none⟩ (.slice av4 (e.chunks.length+1) cv4)).setCell ⟨w.heap.size,0,none⟩ (.string (str e.path))).setCell ⟨w.heap.size,1,none⟩ (.int .i64 e.kind)).setCell ⟨w.heap.size,2,none⟩ (.int .i64 e.size)).setCell ⟨w.heap.size,3,none⟩ (.slice av4 (e.chunks.length+1) cv4)):=aD.setCell (S:=fun b=>b=b1∨b=w.heap.size) (p:=⟨w.heap.size,3,none⟩) (aD.setCell (S:=fun b=>b=b1∨b=w.heap.size) (p:=⟨w.heap.size,2,none⟩) (aD.setCell (S:=fun b=>b=b1∨b=w.heap.size) (p:=⟨w.heap.size,1,none⟩) (aD.setCell (S:=fun b=>b=b1∨b=w.heap.size) (p:=⟨w.heap.size,0,none⟩) (aD.setCell (S:=fun b=>b=b1∨b=w.heap.size) (p:=⟨b1,3,none⟩) (aD.refl _ _) (fun _=>.inl rfl) _) (fun _=>.inr rfl) _) (fun _=>.inr rfl) _) (fun _=>.inr rfl) _) (fun _=>.inr rfl) _
      refine bodyPost_ret (v:=.agg #[(.string (str e.path)),(.int .i64 e.kind),(.int .i64 e.size),(.slice av4 (e.chunks.length+1) cv4)]) (by simp[results,Tryz.results152,go_sem,q0,q1,q2,q3]) rfl ⟨⟨e.path,e.kind,e.size,e.chunks ++ [v]⟩,av4,cv4,by rw[hnl],⟨hxl,by rw[hnl];omega⟩,?_,(S4.out.kept hk (fun b hb e=>by omega)).mono (by omega),K5.out.trans_own hk (fun b hb e=>by omega)⟩
      exact aS (aH Q4.out hk (fun b hb hS=>by have:=hne b hb;omega)) (by omega)
    ·have e0:((i:Int)==0)=false:=by simp;omega
     have e1:((i:Int)==1)=false:=by simp;omega
     have e2:((i:Int)==2)=false:=by simp;omega
     have e3:((i:Int)==3)=false:=by simp;omega
     clear h0 h1 h2 h3;have S3:=S2;have K3:=K2;have E3:=E2;have X3:=X2;have O3:=O2;obtain ⟨⟨p0,p1,p2,p3⟩,pf⟩:=E3.out;obtain ⟨⟨q0,q1,q2,q3⟩,qf⟩:=X3.out;have pf0:=pf 0;have pf1:=pf 1;have pf2:=pf 2;have pf3:=pf 3;have qf0:=qf 0;have qf1:=qf 1;have qf2:=qf 2;have qf3:=qf 3;have hlt3:b1<w2.heap.size:=World.block_lt_of_cell? _ _ p0;clear pf qf;go_wp2_with fail
     have hk:aD (fun b=>b=b1∨b=w.heap.size) w2 ((((w2.setCell ⟨w.heap.size,0,none⟩ (.string (str e.path))).setCell ⟨w.heap.size,1,none⟩ (.int .i64 e.kind)).setCell ⟨w.heap.size,2,none⟩ (.int .i64 e.size)).setCell ⟨w.heap.size,3,none⟩ (.slice a e.chunks.length c)):=aD.setCell (S:=fun b=>b=b1∨b=w.heap.size) (p:=⟨w.heap.size,3,none⟩) (aD.setCell (S:=fun b=>b=b1∨b=w.heap.size) (p:=⟨w.heap.size,2,none⟩) (aD.setCell (S:=fun b=>b=b1∨b=w.heap.size) (p:=⟨w.heap.size,1,none⟩) (aD.setCell (S:=fun b=>b=b1∨b=w.heap.size) (p:=⟨w.heap.size,0,none⟩) (aD.refl _ _) (fun _=>.inr rfl) _) (fun _=>.inr rfl) _) (fun _=>.inr rfl) _) (fun _=>.inr rfl) _
     refine bodyPost_ret (v:=.agg #[(.string (str e.path)),(.int .i64 e.kind),(.int .i64 e.size),(.slice a e.chunks.length c)]) (by simp[results,Tryz.results152,go_sem,q0,q1,q2,q3]) rfl ⟨⟨e.path,e.kind,e.size,e.chunks⟩,a,c,rfl,⟨by first | exact hyl | exact hxl,by first | exact hc3 | exact hc4⟩,?_,(S3.out.kept hk (fun b hb e=>by omega)).mono (by omega),K3.out.trans_own hk (fun b hb e=>by omega)⟩
     exact aS (aH O3.out hk (fun b hb hS=>by have:=OL.out b hb;omega)) (by omega)
end Go.Proofs.YtgaeikgoknoamaaGreat
