/-
  Texts put together: SnqV SnpW.
-/
import Derived.Test.YtolnlfnndnpiiaaGreatKSnaps31
import Derived.Test.YtolnlfnndnpiiaaGreatKSnaps30
import Derived.Test.YtolnlfnndnpiiaaGreatKSnaps29
import Derived.Test.YtolnlfnndnpiiaaGreatKSnaps20
import Derived.Test.YtolnlfnndnpiiaaGreatKSnaps21
set_option linter.unusedVariables false
set_option maxHeartbeats 6400000
set_option maxRecDepth 100000
namespace Go.Proofs.YtolnlfnndnpiiaaGreat
open Go.RowKit Go.Maps
attribute [local go_sem ↓] Go.wp_at_zero Go.wp_at_succ
theorem zcm (w:World) (a b c:Int) (t:TypeId):∀ i,i<3→(w.alloc (.cells #[.int .i64 a,.int .i64 b,.int .i64 c] t)).cell? ⟨w.heap.size,i,none⟩=some (.int .i64 ([a,b,c].getD i 0)):=by
 intro i hi;have:i=0∨i=1∨i=2:=by omega
 rcases this with rfl | rfl | rfl <;> simp
theorem zfm (w:World) (a b c d e f g:Int) (t:TypeId):∀ i,i<7→(w.alloc (.cells #[.int .i64 a,.int .i64 b,.int .i64 c,.int .i64 d,.int .i64 e,.int .i64 f,.int .i64 g] t)).cell? ⟨w.heap.size,i,none⟩=some (.int .i64 ([a,b,c,d,e,f,g].getD i 0)):=by
 intro i hi;have:i=0∨i=1∨i=2∨i=3∨i=4∨i=5∨i=6:=by omega
 rcases this with rfl | rfl | rfl | rfl | rfl | rfl | rfl <;> simp
theorem zgh (a:Option Addr) (cap:Nat) (zs:List Int) (w:World) (h:aP .u8 w a zs) (hu:U8 zs) (hl':zs.length≤1048576) :
  Calls Tryz.prog 20 #[.slice a zs.length cap] w fun r w'=>∃ (l:List Sn) (av:Option Addr) (cv:Nat) (nm:Bs),r=.returned (.tuple #[.slice av l.length cv,.string (str nm)])∧qK l∧cD l∧l.length≤10∧GS w.heap.size w' (.slice av l.length cv) l∧nm.length≤1048576∧Below w.heap.size w w':=by
 have HR:=aA h;have HU:=aA hu;have hl:zs.length≤2097152:=by omega
 clear h hu;go_enter Tryz.func20,Tryz.ntmps20;go_wp2_with fail
 refine (wZ a cap zs w HR.out).mono ?_;rintro r w1 ⟨rfl,s1,z1,b1⟩;have S1:=aA (show dS w1 w.heap.size zs 0 from ⟨0,by decide,by decide,s1⟩)
 have B1:=aA b1;have hw0:w.heap.size<w1.heap.size:=S1.out.lt;clear s1 b1 HR;obtain ⟨w0,hw0e⟩:∃ w0,w0=w.heap.size:=⟨_,rfl⟩;rw[←hw0e]at S1 hw0 ⊢;have HW0:=aA hw0e;clear hw0e;go_wp2_with fail
 refine (zfh w0 zs 0 w1 S1.out HU.out (by decide) hl).mono ?_
 rintro r w2 ⟨l,av,cv,rfl,hB⟩;have H2:=aA hB;have hl10:=hB.ten;clear hB S1;go_wp2_with fail
 refine (zl3 w0 zs _ w2 H2.out.src HU.out (by omega) hl).mono ?_
 rintro e w3 ⟨nm,rfl,hnm,s3,k3⟩;have H:=aA (H2.out.keep hw0 k3 s3);have HNM:=aA (show nm.length≤1048576 by omega)
 clear s3 k3 H2 hnm;have fin:∀ (u:World) (x:Bs) (T:Int),Hid (mT w0 zs T w1 l av cv u)→x.length≤1048576→qK l∧cD l∧l.length≤10∧GS w.heap.size u (.slice av l.length cv) l∧x.length≤1048576∧Below w.heap.size w u:=by
  intro u x T hH hx;have hw0e:=HW0.out;subst hw0e;exact ⟨hH.out.good,hH.out.small,hH.out.ten,hH.out.own.mono B1.out.size,hx,B1.out.trans (hH.out.kept.below (B:=w.heap.size) B1.out.size (fun b hb e=>by omega))⟩
 have FIN:=aA fin;clear fin;by_cases hpos:0<l.length
 ·have hpos':(0:Int)<(l.length:Int):=by omega
  have hposb:decide ((0:Int)<(l.length:Int))=true:=by simpa using hpos
  go_wp2_with fail
  refine (rG w0 zs _ 2 w3 H.out.src HU.out (by omega) (by decide) (by decide) hl).mono ?_
  rintro e w4 ⟨b,rfl,s4,k4⟩;have H4:=aA (H.out.keep hw0 k4 s4);clear s4 k4 H;cases b with
  | false =>
   go_wp2_with fail
   go_ret2
   exact ⟨l,av,cv,nm,rfl,FIN.out _ _ _ H4 HNM.out⟩
  | true =>
   go_wp2_with fail
   refine (fL w0 zs _ l.length w4 H4.out.src HU.out (by omega) (by omega) (by omega) hl).mono ?_
   rintro e w5 ⟨i,rfl,hi,s5,k5⟩;have H5:=aA (H4.out.keep hw0 k5 s5);clear s5 k5 H4;have hi':i<l.length:=by omega
   have hi0:¬ (i:Int)<0:=by omega
   obtain ⟨b,off,s,x,cc,rfl,hb,hs,c0,c1,c2,c3,c4,hr⟩:=H5.out.own.rd.at hi';have HSN:=aA ((H5.out.small.2 s (List.mem_of_getElem? hs)).1);clear hs hr;go_wp2_with fail
   go_ret2
   exact ⟨l,_,cv,s.name,rfl,FIN.out _ _ _ H5 HSN.out⟩
 ·have hposb:decide ((0:Int)<(l.length:Int))=false:=by simpa using hpos
  have hpos':¬ (0:Int)<(l.length:Int):=by omega
  go_wp2_with fail
  go_ret2
  exact ⟨l,av,cv,nm,rfl,FIN.out _ _ _ H HNM.out⟩
structure AtW (p:Nat) (zs:List Int) (T:Int) (ws:World) (u:World):Prop where
 src:dS u p zs T
 kept:aD (fun b=>b=p) ws u
theorem AtW.keep {p:Nat} {zs:List Int} {T T':Int} {ws u u':World} (h:AtW p zs T ws u) (hk:aD (fun b=>b=p) u u') (hs:dS u' p zs T'):AtW p zs T' ws u':=⟨hs,h.kept.trans hk⟩
theorem AtW.below {p:Nat} {zs:List Int} {T:Int} {ws u u':World} (h:AtW p zs T ws u) (hb:Below u.heap.size u u'):AtW p zs T ws u':=⟨h.src.below hb,h.kept.trans (aD.of_below hb)⟩
theorem AtW.mono {p:Nat} {zs:List Int} {T T':Int} {ws u:World} (h:AtW p zs T ws u) (ht:T≤T'):AtW p zs T' ws u:=⟨h.src.mono ht,h.kept⟩
theorem zo1 (a:Option Addr) (cap:Nat) (zs:List Int) (w:World) (h:aP .u8 w a zs) (hu:U8 zs) (hl':zs.length≤1048576) :
  Calls Tryz.prog 6 #[.slice a zs.length cap] w fun r w'=>∃ (l:List Sn) (av:Option Addr) (cv:Nat) (nm q:Bs) (da:Option Addr) (dc:Nat) (ds:List Int) (k:Int),r=.returned (.tuple #[.slice av l.length cv,.string (str nm),.string (str q),.slice da ds.length dc,.int .i64 k])∧qK l∧cD l∧l.length≤10∧GS w.heap.size w' (.slice av l.length cv) l∧nm.length≤1048576∧q.length≤1048576∧aP .u8 w' da ds∧ds.length≤dc∧U8 ds∧ds.length≤25∧0≤k∧k≤4∧Below w.heap.size w w':=by
 obtain ⟨i0,hi0,hz0,hz1,hz2⟩:=info_parts Tryz.infoU8;have HC:=aA (zgh a cap zs w h hu hl');have HR:=aA h;have HU:=aA hu;clear h hu;go_enter Tryz.func6,Tryz.ntmps6;go_wp2_with fail
 refine HC.out.mono ?_;rintro r w2 ⟨l,av,cv,nm,rfl,h1,h2,h3,h4,h5,hb⟩;have HGD:=aA h1;have HSM:=aA h2;have G2:=aA h4;have HNM:=aA h5;have B2:=aA hb;have hs2:=hb.size;have hl10:=h3;clear h1 h2 h4 h5 hb HC;have RD:=aA ((HR.out.below B2.out).below (aC w2 (.cells #[.int .u8 3] 5)));have OWN:=aA (zcn w2 3);have hm1:1+zs.length≤maxLen:=by unfold maxLen;omega
 have hm2:(1+zs.length) * 1≤140737488355328:=by omega
 go_wp2_with (at_builtin;refine jW rfl (.tmp 16) (.tmp 17) 22 rfl w2.heap.size 5 i0 .u8 1 Tryz.underlying22 hi0 hz0 hz1 hz2 w2.heap.size 1 1 [3] rfl OWN.out a zs.length cap zs rfl rfl RD.out (1+zs.length) rfl hm1 hm2 (by simp) ?_;intro ev ec w3 hown3 hk3;have O3:=aA hown3;have BB3:=aA ((aC w2 (.cells #[.int .u8 3] 5)).trans (hk3.below (B:=w2.heap.size) (by simp) (fun b hb e=>by have:b=w2.heap.size:=e;omega)));clear hown3 hk3)
 have hle2:([3]++zs).length=1+zs.length:=by simp;omega
 have RD3:=aA (fM (zs:=[3]++zs) O3.out hle2.symm);have HU4:=aA (show U8 ([3]++zs) from fun z hz=>by
  rcases List.mem_append.1 hz with hz | hz
  ·simp only[List.mem_singleton]at hz;subst hz;omega
  ·exact HU.out z hz)
 rw[←hle2];have hZl:([3]++zs).length≤2097152:=by rw[hle2];omega
 generalize ([3]:List Int)++zs=Z at *;clear hle2;refine (wZ ev ec Z _ RD3.out).mono ?_;rintro r w4 ⟨rfl,s1,z1,b1⟩;obtain ⟨p,hpe⟩:∃ p,p=w3.heap.size:=⟨_,rfl⟩;have hs23:=BB3.out.size;have hp2:w2.heap.size≤p:=by omega
 rw[←hpe]at s1 b1 ⊢;have S1:=aA (show dS w4 p Z 0 from ⟨0,by decide,by decide,s1⟩)
 have B24:=aA (show Below w2.heap.size w2 w4 from BB3.out.trans (b1.mono hp2))
 have A4:Hid (AtW p Z 0 w4 w4):=aA ⟨S1.out,aD.refl _ _⟩;have HGL:=aA (fun (u:World) (T:Int) (hA:AtW p Z T w4 u)=>G2.out.later B24.out hA.kept (fun b hb=>by subst hb;exact hp2))
 have HBL:=aA (fun (u:World) (T:Int) (hA:AtW p Z T w4 u)=>show Below w.heap.size w u from (aB B2.out B24.out).trans (hA.kept.below (B:=w.heap.size) (by have:=B24.out.size;omega) (fun b hb e=>by omega)))
 clear s1 b1 hpe O3 RD3 BB3 RD OWN S1;go_wp2_with fail
 go_loopw [8,10] (fun v i wr=>∃ (k:Nat) (x:Bs),k≤l.length∧i=.int .i64 k∧v=.string (str x)∧x.length≤1048576∧Hid (AtW p Z k w4 wr)) (fun _ i _=>l.length - (intOf i).toNat)
 case atStart=>exact ⟨0,nm,by omega,rfl,rfl,HNM.out,A4⟩
 case round =>
  obtain ⟨k,x,hk,rfl,rfl,hx,HA⟩:=hrel;by_cases hlt:k<l.length
  ·have hlt2:(k:Int)<(l.length:Int):=by omega
   obtain ⟨b,off,s,y,cc,hav,hb,hs,c0,c1,c2,c3,c4,hr⟩:=(HGL.out _ _ HA.out).rd.at hlt;subst hav;have hsn:=(HSM.out.2 s (List.mem_of_getElem? hs)).1;clear hs hr;by_cases hk1:s.kind=1
   ·rw[hk1]at c2
    clear hk1;go_wp2_with fail
    refine (rG p Z k 2 _ HA.out.src HU4.out (by omega) (by decide) (by decide) hZl).mono ?_
    rintro e w5 ⟨r,rfl,s5,k5⟩;have H5:=aA (HA.out.keep k5 s5);clear s5 k5;cases r with
    | false =>
     go_wp2_with fail
     go_roundw
     case rel=>exact ⟨k+1,x,by omega,by go_num,rfl,hx,aA (H5.out.mono (by omega))⟩
     case measure=>simp[intOf];omega
    | true =>
     obtain ⟨b',off',s',y',cc',hav',hb',hs',d0,d1,d2,d3,d4,hr'⟩:=(HGL.out _ _ H5.out).rd.at hlt;obtain ⟨rfl,rfl⟩:b=b'∧off=off':=by simpa using hav'
     have hsn':=(HSM.out.2 s' (List.mem_of_getElem? hs')).1;clear hs' hr' hav';go_wp2_with fail
     go_roundw
     case rel=>exact ⟨k+1,s'.name,by omega,by go_num,rfl,hsn',aA (H5.out.mono (by omega))⟩
     case measure=>simp[intOf];omega
   ·have hkb:(s.kind==1)=false:=by simpa using hk1
    go_wp2_with fail
    go_roundw
    case rel=>exact ⟨k+1,x,by omega,by go_num,rfl,hx,aA (HA.out.mono (by omega))⟩
    case measure=>simp[intOf];omega
  ·have hlt2:¬ (k:Int)<(l.length:Int):=by omega
   go_wp2_with fail
   refine (zrf p Z k _ HA.out.src HU4.out (by omega) hZl).mono ?_
   rintro e w5 ⟨q,rfl,hq,s5,k5⟩;have H5:=aA (HA.out.keep k5 s5);clear s5 k5 HA;go_wp2_with fail
   refine (fL p Z _ 20 _ H5.out.src HU4.out (by omega) (by decide) (by decide) hZl).mono ?_
   rintro e w6 ⟨r1,rfl,hr1,s6,k6⟩;have H6:=aA (H5.out.keep k6 s6);clear s6 k6 H5;go_wp2_with fail
   refine (fL p Z _ 9 _ H6.out.src HU4.out (by omega) (by decide) (by decide) hZl).mono ?_
   rintro e w7 ⟨r2,rfl,hr2,s7,k7⟩;have H7:=aA (H6.out.keep k7 s7);clear s7 k7 H6;have C3:=aA (zcm w7 r1 r2 25 2);have H8:=aA (H7.out.below (aC w7 (.cells #[.int .i64 (r1:Int),.int .i64 (r2:Int),.int .i64 25] 2)));have hp7:p<w7.heap.size:=H7.out.src.lt;go_wp2_with fail
   refine (oJ p w7.heap.size 3 3 [(r1:Int),r2,25] Z _ _ H8.out.src HU4.out (by omega) hZl (by decide) (by decide) rfl (by omega) (by simp) C3.out).mono ?_
   rintro e w9 ⟨j,hjv,rfl,s9,k9⟩;have H9:=aA (H8.out.keep k9 s9);clear s9 k9 H8 H7 C3;have hj:0≤j∧j≤25:=by simp at hjv;omega
   obtain ⟨jn,rfl⟩:∃ m:Nat,j=m:=⟨j.toNat,by omega⟩
   clear hjv;go_wp2_with fail
   refine (ze9 p jn Z _ _ H9.out.src HU4.out (by omega) hZl (by omega)).mono ?_
   rintro e w10 ⟨da,dc,ds,rfl,hdl,hdu,hdo,s10,k10⟩;have H10:=aA (H9.out.keep k10 s10);have hdc:=mQ hdo;have DO:=aA hdo;have DU:=aA hdu;have hp10:p<w9.heap.size:=H9.out.src.lt;clear s10 k10 H9 hdo hdu;have C7:=aA (zfm w10 1 1 2 3 3 0 4 2);have H11:=aA (H10.out.below (aC w10 (.cells #[.int .i64 1,.int .i64 1,.int .i64 2,.int .i64 3,.int .i64 3,.int .i64 0,.int .i64 4] 2)));have DO1:=aA (aI DO.out (aC w10 (.cells #[.int .i64 1,.int .i64 1,.int .i64 2,.int .i64 3,.int .i64 3,.int .i64 0,.int .i64 4] 2)));have hp11:p<w10.heap.size:=H10.out.src.lt
   go_wp2_with fail
   refine (oJ p w10.heap.size 7 7 [1,1,2,3,3,0,4] Z _ _ H11.out.src HU4.out (by omega) hZl (by decide) (by decide) rfl (by omega) (by simp) C7.out).mono ?_
   rintro e w12 ⟨kd,hkv,rfl,s12,k12⟩;have H12:=aA (H11.out.keep k12 s12);have DO2:=aA (aL DO1.out k12 (fun b hb e=>by have:=(DO1.out.lt b hb).1;omega))
   clear s12 k12 H11 H10 C7;have hkd:0≤kd∧kd≤4:=by simp at hkv;omega
   clear hkv;go_wp2_with fail
   subst hdl;exact bodyPost_ret (v:=.tuple #[.slice av l.length cv,.string (str x),.string (str q),.slice da ds.length dc,.int .i64 kd]) (by simp[results,Tryz.results6,go_sem]) rfl ⟨l,av,cv,x,q,da,dc,ds,kd,rfl,HGD.out,HSM.out,hl10,HGL.out _ _ H12.out,hx,by omega,fM DO2.out rfl,hdc,DU.out,by omega,hkd.1,hkd.2,HBL.out _ _ H12.out⟩
theorem RdL.front {w:World} {a:Option Addr} {ls:List (List En)} {U:List En} (h:RdL w a (ls ++ [U])):RdL w a ls:=by
 intro hz;obtain ⟨b,off,A,C,e,hb,hc⟩:=h (by simp)
 refine ⟨b,off,A,C,e,hb,fun i es hi=>hc i es ?_⟩
 rw[List.getElem?_append_left (List.getElem?_eq_some_iff.1 hi).1]
 exact hi
theorem zbd (a:Option Addr) (c n:Nat) (ls:List (List En)) (u:Option Addr) (uc m:Nat) (U:List En) (p:Bs) (zs:List Int) (dv:Value) (w:World) (h:RdL w a ls) (hn:n=ls.length) (hl:ls.length≤1000000) (hs:eJ ls) (hU:RdE w u U) (hm:m=U.length) (hUl:U.length≤1000000) (hUs:aV U) (hpl:p.length≤1048576) :
  Calls Tryz.prog 64 #[.slice a n c,.slice u m uc,.string (str p),dv] w fun r w'=>∃ q rep V,pO ls U p zs 2 q rep V∧cY q rep V w r w':=by
 subst hn;subst hm;have X0:=aA (cC.new w (.int .i64 0) (.int .i64 0) (.slice none 0 0) 64);have B0:=aA (aC w (.cells #[.int .i64 0,.int .i64 0,.slice none 0 0] 64));have HC:=aA (zo0 a c ls.length ls u uc U.length U p _ (h.below B0.out) rfl hl hs (hU.below B0.out) rfl hUl hUs hpl);clear h hs hU hUs;go_enter Tryz.func64,Tryz.ntmps64;go_wp2_with fail
 refine HC.out.mono ?_;rintro r w1 ⟨q,rep,V,hof,av,cv,rfl,hG,hb1⟩;have G1:=aA hG;have HOF:=aA hof;have B1:=aA (aB B0.out hb1);have hlt:w.heap.size<(w.alloc (.cells #[.int .i64 0,.int .i64 0,.slice none 0 0] 64)).heap.size:=X0.out.lt;obtain ⟨⟨t0,t1,t2⟩,t3,t4,t5⟩:=X0.out.below hb1;clear hG hb1 hof;go_wp2_with fail
 exact bodyPost_ret (v:=.agg #[.int .i64 q,.int .i64 rep,.slice av V.length cv]) (by simp[results,Tryz.results64,go_sem,t0,t1,t2]) rfl ⟨q,rep,V,⟨fun e=>absurd e (by decide),fun _=>HOF.out,fun e=>absurd e (by decide)⟩,cY.of hlt (Nat.le_refl _) rfl G1.out B1.out⟩
theorem zcd (a:Option Addr) (c n:Nat) (ls:List (List En)) (u:Option Addr) (uc m:Nat) (U:List En) (p:Bs) (zs:List Int) (dv:Value) (w:World) (h:RdL w a ls) (hn:n=ls.length) (hl:ls.length≤1000000) (hs:eJ ls) (hU:RdE w u U) (hm:m=U.length) (hUl:U.length≤1000000) (hUs:aV U) (hpl:p.length≤1048576) :
  Calls Tryz.prog 66 #[.slice a n c,.slice u m uc,.string (str p),dv] w fun r w'=>∃ q rep V,pO ls U p zs 3 q rep V∧cY q rep V w r w':=by
 subst hn;subst hm;have X0:=aA (cC.new w (.int .i64 0) (.int .i64 0) (.slice none 0 0) 64);have B0:=aA (aC w (.cells #[.int .i64 0,.int .i64 0,.slice none 0 0] 64));have HC:=aA (wR a c ls.length ls u uc U.length U p _ (h.below B0.out) rfl hl hs (hU.below B0.out) rfl hUl hUs hpl);clear h hs hU hUs;go_enter Tryz.func66,Tryz.ntmps66;go_wp2_with fail
 refine HC.out.mono ?_;rintro r w1 ⟨q,rep,V,hof,av,cv,rfl,hG,hb1⟩;have G1:=aA hG;have HOF:=aA hof;have B1:=aA (aB B0.out hb1);have hlt:w.heap.size<(w.alloc (.cells #[.int .i64 0,.int .i64 0,.slice none 0 0] 64)).heap.size:=X0.out.lt;obtain ⟨⟨t0,t1,t2⟩,t3,t4,t5⟩:=X0.out.below hb1;clear hG hb1 hof;go_wp2_with fail
 exact bodyPost_ret (v:=.agg #[.int .i64 q,.int .i64 rep,.slice av V.length cv]) (by simp[results,Tryz.results66,go_sem,t0,t1,t2]) rfl ⟨q,rep,V,⟨fun e=>absurd e (by decide),fun e=>absurd e (by decide),fun _=>HOF.out⟩,cY.of hlt (Nat.le_refl _) rfl G1.out B1.out⟩
theorem zad (a:Option Addr) (c n:Nat) (ls:List (List En)) (u:Option Addr) (uc m:Nat) (U:List En) (p:Bs) (zs:List Int) (d:Option Addr) (dn dc:Nat) (w:World) (h:RdL w a ls) (hn:n=ls.length) (hl:ls.length≤1000000) (hs:eJ ls) (hU:RdE w u U) (hm:m=U.length) (hUl:U.length≤1000000) (hUs:aV U) (hpl:p.length≤1048576) (hd:aP .u8 w d zs) (hdn:dn=zs.length) (hu8:U8 zs) (hdc:zs.length≤dc) (hdl:zs.length≤1048576) :
  Calls Tryz.prog 63 #[.slice a n c,.slice u m uc,.string (str p),.slice d dn dc] w fun r w'=>∃ q rep V,pO ls U p zs 1 q rep V∧cY q rep V w r w' :=
 (yW a c n ls u uc m U p zs d dn dc w h hn hl hs hU hm hUl hUs hpl hd hdn hu8 hdc hdl).mono fun r w' ⟨q,rep,V,h1,h2⟩=>⟨q,rep,V,⟨fun _=>h1,fun e=>absurd e (by decide),fun e=>absurd e (by decide)⟩,h2⟩
theorem zth (b:Nat) (q r:Int) (w:World) (h0:w.cell? ⟨b,0,none⟩=some (.int .i64 q)) (h1:w.cell? ⟨b,1,none⟩=some (.int .i64 r)) :
  Calls Tryz.prog 30 #[.slice (some ⟨b,0,none⟩) 2 2] w fun e w'=>e=.returned (.int .i64 (orI q r))∧w'=w:=by
 obtain ⟨F,hF⟩:∃ F:Int,F=orI q r:=⟨_,rfl⟩;rw[←hF];have HF:=aA hF;clear hF;go_enter Tryz.func30,Tryz.ntmps30;go_wp2_with fail
 go_loopw [8] (fun i wr=>∃ k:Nat,k≤2∧i=.int .i64 k∧wr=w∧Hid ((1≤k→q=0)∧(2≤k→r=0))) (fun i _=>2 - (intOf i).toNat)
 case atStart=>exact ⟨0,by decide,rfl,rfl,aA ⟨fun h=>by omega,fun h=>by omega⟩⟩
 case round =>
  obtain ⟨k,hk,rfl,hw,HK⟩:=hrel;subst hw;have h3:k=0∨k=1∨k=2:=by omega
  rcases h3 with rfl | rfl | rfl
  ·by_cases hq:q=0
   ·subst hq
    go_wp2_with fail
    go_roundw
    case rel=>exact ⟨1,by decide,by go_num,(by first | rfl | trivial),aA (by constructor <;> (intros;first | rfl | omega | trivial))⟩
    case measure=>simp[intOf]
   ·have hq2:(q != 0)=true:=by simp;exact hq
    have HO:=aA (show F=q by rw[HF.out,orI,if_neg hq])
    clear hq;go_wp2_with fail
    go_ret
    exact ⟨aO HO.out.symm,rfl⟩
  ·have hq:q=0:=HK.out.1 (by decide)
   by_cases hr:r=0
   ·subst hr
    go_wp2_with fail
    go_roundw
    case rel=>exact ⟨2,by decide,by go_num,(by first | rfl | trivial),aA (by constructor <;> (intros;first | exact hq | rfl | trivial))⟩
    case measure=>simp[intOf]
   ·have hr2:(r != 0)=true:=by simp;exact hr
    have HO:=aA (show F=r by rw[HF.out,orI,if_pos hq])
    clear hr hq;go_wp2_with fail
    go_ret
    exact ⟨aO HO.out.symm,rfl⟩
  ·have HO:=aA (show F=0 by rw[HF.out,orI,if_pos (HK.out.1 (by decide)),HK.out.2 (by decide)])
   go_wp2_with fail
   go_ret
   exact ⟨aO HO.out.symm,rfl⟩
theorem wB (w:World) :
  Calls Tryz.prog 27 #[] w fun r w'=>∃ t,r=.returned (.slice (some ⟨w.heap.size,0,none⟩) 3 3)∧w'=w.alloc (.cells #[.func (.func 63) #[] #[],.func (.func 64) #[] #[],.func (.func 66) #[] #[]] t):=by
 go_enter Tryz.func27,Tryz.ntmps27;go_wp2
 go_ret
 exact ⟨_,rfl,rfl⟩
end Go.Proofs.YtolnlfnndnpiiaaGreat
