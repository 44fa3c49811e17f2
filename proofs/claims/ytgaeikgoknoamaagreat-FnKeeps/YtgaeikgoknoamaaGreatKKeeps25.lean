/-
  Texts put together: FaultC Store BytesR StoreC ChunksMk Lay Rise.
-/
import Derived.Test.YtgaeikgoknoamaaGreatKKeeps24
import Derived.Maps.OwnSet
import Derived.Test.YtgaeikgoknoamaaGreatKKeeps4
import Derived.Shelf.SlIterI.Nil
import Derived.Shelf.SortM.Plain
import Derived.Shelf.SortM.SortNone
import Derived.Ground.GgzProg
import Derived.Ground.SlgmProg
import Derived.Test.YtgaeikgoknoamaaGreatProg
set_option linter.unusedVariables false
set_option maxHeartbeats 3200000
set_option maxRecDepth 100000
namespace Go.Proofs.YtgaeikgoknoamaaGreat
open Go.RowKit
theorem zq9 (d:Int) (a:Option Addr) (c:Nat) (zs:List Int) (w:World) (h:aO .u8 w a zs) (hu:U8 zs) (hl:zs.length≤1048576) :
  Calls Tryz.prog 100 #[.int .i64 d,.slice a zs.length c] w fun e w'=>e=.returned (.int .i64 (eZ d zs))∧∃ n,w'=w.drewN n:=by
 have HR:=aA h;have HU:=aA hu;clear h hu;unfold eZ;by_cases c1:0≤d
 ·by_cases c2:d≤4294967295
  ·rw[if_pos ⟨c1,c2⟩]
   by_cases c3:1≤zs.length
   ·by_cases c4:zs.length≤8
    ·rw[if_pos ⟨c3,c4⟩]
     have c3':¬ (zs.length:Int)<1:=by omega
     have c4':¬ (8:Int)<(zs.length:Int):=by omega
     have HD:=aA (mQ a c zs w HR.out HU.out hl);generalize cV zs=g at HD ⊢;by_cases c5:g=d
     ·have c5':(g != d)=false:=by simp[c5]
      rw[if_pos c5];clear c5;go_enter Tryz.func100,Tryz.ntmps100;go_wp2_with (first | (go_at_call 105;refine HD.out.mono ?_;rintro e w1 ⟨rfl,rfl⟩) | go_in)
      go_ret
      exact ⟨rfl,0,rfl⟩
     ·have c5':(g != d)=true:=by simp[c5]
      rw[if_neg c5];clear c5;go_enter Tryz.func100,Tryz.ntmps100;go_wp2_with (first | (go_at_call 105;refine HD.out.mono ?_;rintro e w1 ⟨rfl,rfl⟩) | go_in)
      go_ret
      exact ⟨rfl,0,rfl⟩
    ·rw[if_neg (fun h=>c4 h.2)]
     have c3':¬ (zs.length:Int)<1:=by omega
     have c4':(8:Int)<(zs.length:Int):=by omega
     go_enter Tryz.func100,Tryz.ntmps100;go_wp2
     go_ret
     exact ⟨rfl,0,rfl⟩
   ·rw[if_neg (fun h=>c3 h.1)]
    have c3':(zs.length:Int)<1:=by omega
    go_enter Tryz.func100,Tryz.ntmps100;go_wp2
    go_ret
    exact ⟨rfl,0,rfl⟩
  ·rw[if_neg (fun h=>c2 h.2)]
   go_enter Tryz.func100,Tryz.ntmps100;go_wp2
   go_ret
   exact ⟨rfl,0,rfl⟩
 ·rw[if_neg (fun h=>c1 h.1)]
  go_enter Tryz.func100,Tryz.ntmps100;go_wp2
  go_ret
  exact ⟨rfl,0,rfl⟩
theorem zm8 (d:Int) (a:Option Addr) (c:Nat) (zs:List Int) (w:World) (h:aO .u8 w a zs) (hu:U8 zs) (hl:zs.length≤1048576) :
  Calls Tryz.prog 74 #[.agg #[.int .i64 d,.slice a zs.length c]] w fun e w'=>e=.returned (.int .i64 (eZ d zs))∧Below w.heap.size w w':=by
 have HR:=aA h;have HU:=aA hu;clear h hu;unfold eZ;by_cases c1:0≤d
 ·by_cases c2:d≤4294967295
  ·rw[if_pos ⟨c1,c2⟩]
   by_cases c3:1≤zs.length
   ·by_cases c4:zs.length≤8
    ·rw[if_pos ⟨c3,c4⟩]
     have c3':¬ (zs.length:Int)<1:=by omega
     have c4':¬ (8:Int)<(zs.length:Int):=by omega
     have HD:=aA (fun u hr=>zC a c zs u hr HU.out hl)
     generalize cV zs=g at HD ⊢;have HR1:=aA (HR.out.below (aC w (.cells #[.int .i64 d,.slice a zs.length c] 65)));have HB1:=aA (aC w (.cells #[.int .i64 d,.slice a zs.length c] 65));by_cases c5:g=d
     ·have c5':(g != d)=false:=by simp[c5]
      rw[if_pos c5];clear c5;go_enter Tryz.func74,Tryz.ntmps74;go_wp2
      go_quiet ((go_at_call 128;exact Calls.quiet_of ((HD.out _ (show aO .u8 (World.drewN (w.alloc (.cells #[.int .i64 d,.slice a zs.length c] 65)) _) a zs from HR1.out)).mono (fun e w' ⟨he,hw⟩=>⟨he,0,hw⟩))))
      go_wp2
      go_ret
      exact ⟨rfl,below_drewN HB1.out _⟩
     ·have c5':(g != d)=true:=by simp[c5]
      rw[if_neg c5];clear c5;go_enter Tryz.func74,Tryz.ntmps74;go_wp2
      go_quiet ((go_at_call 128;exact Calls.quiet_of ((HD.out _ (show aO .u8 (World.drewN (w.alloc (.cells #[.int .i64 d,.slice a zs.length c] 65)) _) a zs from HR1.out)).mono (fun e w' ⟨he,hw⟩=>⟨he,0,hw⟩))))
      go_wp2
      go_ret
      exact ⟨rfl,below_drewN HB1.out _⟩
    ·rw[if_neg (fun h=>c4 h.2)]
     have c3':¬ (zs.length:Int)<1:=by omega
     have c4':(8:Int)<(zs.length:Int):=by omega
     go_enter Tryz.func74,Tryz.ntmps74;go_wp2
     go_ret
     exact ⟨rfl,aC _ _⟩
   ·rw[if_neg (fun h=>c3 h.1)]
    have c3':(zs.length:Int)<1:=by omega
    go_enter Tryz.func74,Tryz.ntmps74;go_wp2
    go_ret
    exact ⟨rfl,aC _ _⟩
  ·rw[if_neg (fun h=>c2 h.2)]
   go_enter Tryz.func74,Tryz.ntmps74;go_wp2
   go_ret
   exact ⟨rfl,aC _ _⟩
 ·rw[if_neg (fun h=>c1 h.1)]
  go_enter Tryz.func74,Tryz.ntmps74;go_wp2
  go_ret
  exact ⟨rfl,aC _ _⟩
theorem xY {D:Nat→Int} {P:Nat→List Int} {k:Nat} {q:Int} (h:eZ (D k) (P k)=q) (hq:q≠0):fH D P k=some q:=by
 unfold fH;rw[h,if_pos hq]
theorem uP {D:Nat→Int} {P:Nat→List Int} (h:eZ (D 0) (P 0)=0):fH D P 0=none:=by
 unfold fH;rw[h,if_neg (by simp),if_neg (by simp)]
theorem vC {D:Nat→Int} {P:Nat→List Int} {k:Nat} (h:eZ (D (k+1)) (P (k+1))=0) (hd:D (k+1)≤D k):fH D P (k+1)=some 1:=by
 unfold fH;rw[h,if_neg (by simp),if_pos ⟨by omega,by simpa using hd⟩]
theorem vD {D:Nat→Int} {P:Nat→List Int} {k:Nat} (h:eZ (D (k+1)) (P (k+1))=0) (hd:¬ D (k+1)≤D k):fH D P (k+1)=none:=by
 unfold fH;rw[h,if_neg (by simp),if_neg (fun h=>hd (by simpa using h.2))]
theorem pN (a:Option Addr) (c n:Nat) (D:Nat→Int) (P:Nat→List Int) (w:World) (h:RdC w a D P n) (hn:n≤1048576) (hP:∀ i,i<n→U8 (P i)∧(P i).length≤1048576) :
  Calls Tryz.prog 54 #[.slice a n c] w fun e w'=>e=.returned (.int .i64 (fC D P n))∧Below w.heap.size w w':=by
 have HA:=aA h;have HP:=aA hP;clear h hP;by_cases hbig:40<n
 ·have hb:(40:Int)<(n:Int):=by omega
  have hf:fC D P n=2:=by simp[fC,hbig]
  rw[hf];go_enter Tryz.func54,Tryz.ntmps54;go_wp2
  go_ret
  exact ⟨rfl,Below.refl _ _⟩
 ·have hb:¬ (40:Int)<(n:Int):=by omega
  have HF:Hid (fC D P n=eX (fH D P) 0 (n - 0)):=by simp[fC,hbig,Hid]
  generalize hfl:fC D P n=F at HF ⊢;clear hfl;go_enter Tryz.func54,Tryz.ntmps54;go_wp2
  go_loopw [3,4] (fun i _ wr=>∃ k:Nat,k≤n∧i=.int .i64 k∧F=eX (fH D P) k (n - k)∧Below w.heap.size w wr) (fun i _ _=>n - (intOf i).toNat)
  case atStart=>exact ⟨0,Nat.zero_le _,rfl,HF.out,Below.refl _ _⟩
  case round =>
   obtain ⟨k,hk,rfl,hF,hbel⟩:=hrel;have HF:=aA hF;have HW:=aA hbel;clear hF hbel;by_cases hlt:k<n
   ·obtain ⟨b1,o1,A1,C1,rfl,hb1,hc1⟩:=(HA.out.below HW.out) (by omega)
    obtain ⟨c1,e1,r1⟩:=hc1 k hlt;obtain ⟨hu,hp⟩:=HP.out k hlt;generalize A1 k=a1 at e1 r1;generalize C1 k=d1 at e1;have R1:=aA r1;have U1:=aA hu;have HC:=aA hc1;clear hc1 r1 hu;generalize hq:eZ (D k) (P k)=q;have hone:=aA (fun (m:Nat)=>by have:=zq9 (D k) a1 d1 (P k) (wr.drewN m) R1.out U1.out hp;rwa [hq]at this)
    have HQ:=aA hq;clear hq;generalize hxs:P k=xs at *;generalize hdd:D k=dd at *;have HX:=aA (And.intro hxs hdd);clear hxs hdd;by_cases hz:q=0
    ·have hz':(q != 0)=false:=by simp[hz]
     have HZ:=aA hz;clear hz;cases k with
     | zero =>
      simp only[Nat.zero_mul,Nat.add_zero]at c1 e1;go_wp2
      go_quiet ((go_at_call 100;exact Calls.quiet_of (hone.out _)))
      go_wp2
      go_quiet (fail)
      go_wp2
      go_roundw
      case rel=>exact ⟨1,by omega,by go_num,by rw[HF.out];exact mG hlt (uP (by have:=HX.out;rw[this.1,this.2,HQ.out];exact HZ.out)),below_drewN HW.out _⟩
      case measure=>simp[intOf];omega
     | succ k =>
      have hg:(0:Int)<((k+1:Nat):Int):=by omega
      obtain ⟨c0,_,_⟩:=HC.out k (by omega)
      generalize hd0:D k=d0 at c0;have HD0:=aA hd0;clear hd0;by_cases hle:dd≤d0
      ·go_wp2
       go_quiet ((go_at_call 100;exact Calls.quiet_of (hone.out _)))
       go_wp2
       go_quiet (fail)
       go_wp2
       go_ret
       exact ⟨aM (by rw[HF.out];exact (nJ hlt (vC (by have:=HX.out;rw[this.1,this.2,HQ.out];exact HZ.out) (by rw[HX.out.2,HD0.out];omega))).symm),below_drewN (below_drewN HW.out _) _⟩
      ·go_wp2
       go_quiet ((go_at_call 100;exact Calls.quiet_of (hone.out _)))
       go_wp2
       go_quiet (fail)
       go_wp2
       go_roundw
       case rel=>exact ⟨k+1+1,by omega,by go_num,by rw[HF.out];exact mG hlt (vD (by have:=HX.out;rw[this.1,this.2,HQ.out];exact HZ.out) (by rw[HX.out.2,HD0.out];omega)),below_drewN HW.out _⟩
       case measure=>simp[intOf];omega
    ·have hz':(q != 0)=true:=by simp[hz]
     go_wp2
     go_quiet ((go_at_call 100;exact Calls.quiet_of (hone.out _)))
     go_wp2
     go_ret
     exact ⟨aM (by rw[HF.out];exact (nJ hlt (xY (by rw[HX.out.1,HX.out.2];exact HQ.out) hz)).symm),below_drewN HW.out _⟩
   ·go_wp2
    go_ret
    exact ⟨aM (by rw[HF.out];exact (vJ (by omega)).symm),HW.out⟩
theorem mH (a:Option Addr) (c n:Nat) (D:Nat→Int) (P:Nat→List Int) (w:World) (h:RdC w a D P n) (hn:n≤1048576) (hP:∀ i,i<n→U8 (P i)∧(P i).length≤1048576) :
  Calls Tryz.prog 26 #[.slice a n c] w fun e w'=>e=.returned (.int .i64 (fC D P n))∧Below w.heap.size w w':=by
 have HA:=aA h;have HP:=aA hP;clear h hP;by_cases hbig:40<n
 ·have hb:(40:Int)<(n:Int):=by omega
  have hf:fC D P n=2:=by simp[fC,hbig]
  rw[hf];go_enter Tryz.func26,Tryz.ntmps26;go_wp2
  go_ret
  exact ⟨rfl,Below.refl _ _⟩
 ·have hb:¬ (40:Int)<(n:Int):=by omega
  have HF:Hid (fC D P n=eX (fH D P) 0 (n - 0)):=by simp[fC,hbig,Hid]
  generalize hfl:fC D P n=F at HF ⊢;clear hfl;go_enter Tryz.func26,Tryz.ntmps26;go_wp2
  go_loopw [3,4,5,11] (fun _ _ _ i wr=>∃ k:Nat,k≤n∧i=.int .i64 k∧F=eX (fH D P) k (n - k)∧Below w.heap.size w wr) (fun _ _ _ i _=>n - (intOf i).toNat)
  case atStart=>exact ⟨0,Nat.zero_le _,rfl,HF.out,Below.refl _ _⟩
  case round =>
   obtain ⟨k,hk,rfl,hF,hbel⟩:=hrel;have HF:=aA hF;have HW:=aA hbel;clear hF hbel;by_cases hlt:k<n
   ·obtain ⟨b1,o1,A1,C1,rfl,hb1,hc1⟩:=(HA.out.below HW.out) (by omega)
    obtain ⟨c1,e1,r1⟩:=hc1 k hlt;obtain ⟨hu,hp⟩:=HP.out k hlt;generalize A1 k=a1 at e1 r1;generalize C1 k=d1 at e1;have R1:=aA r1;have U1:=aA hu;have HC:=aA hc1;clear hc1 r1 hu;generalize hq:eZ (D k) (P k)=q;have HQ:=aA hq;clear hq;generalize hxs:P k=xs at *;generalize hdd:D k=dd at *;have HX:=aA (And.intro hxs hdd);clear hxs hdd;have hone:=zm8 dd a1 d1 xs (wr.alloc (.cells #[.int .i64 dd,.slice a1 xs.length d1] 65)) (R1.out.below (aC _ _)) U1.out hp;rw[HQ.out]at hone;have HO:=aA hone;clear hone;go_wp2_with fail
    refine HO.out.mono ?_;rintro e w2 ⟨rfl,b2⟩;obtain ⟨t0,t1⟩:=(Two.new wr (.int .i64 dd) (.slice a1 xs.length d1) 65).below b2;have B2:=aA (aB (aC _ _) b2);have BW:=aA (aB HW.out B2.out);clear b2 HO;by_cases hz:q=0
    ·have hz':(q != 0)=false:=by simp[hz]
     have HZ:=aA hz;clear hz;cases k with
     | zero =>
      go_wp2
      go_quiet (fail)
      go_wp2
      go_roundw
      case rel=>exact ⟨1,by omega,by go_num,by rw[HF.out];exact mG hlt (uP (by have:=HX.out;rw[this.1,this.2,HQ.out];exact HZ.out)),below_drewN BW.out _⟩
      case measure=>simp[intOf];omega
     | succ k =>
      have hg:(0:Int)<((k+1:Nat):Int):=by omega
      obtain ⟨c0,_,_⟩:=HC.out k (by omega)
      have c0':=(B2.out.cell (p:=⟨b1,o1+k * 2,none⟩) hb1).trans c0;generalize hd0:D k=d0 at c0';have HD0:=aA hd0;clear hd0 c0;by_cases hle:dd≤d0
      ·go_wp2
       go_quiet (fail)
       go_wp2
       go_ret
       exact ⟨aM (by rw[HF.out];exact (nJ hlt (vC (by have:=HX.out;rw[this.1,this.2,HQ.out];exact HZ.out) (by rw[HX.out.2,HD0.out];exact hle))).symm),below_drewN BW.out _⟩
      ·go_wp2
       go_quiet (fail)
       go_wp2
       go_roundw
       case rel=>exact ⟨k+1+1,by omega,by go_num,by rw[HF.out];exact mG hlt (vD (by have:=HX.out;rw[this.1,this.2,HQ.out];exact HZ.out) (by rw[HX.out.2,HD0.out];omega)),below_drewN BW.out _⟩
       case measure=>simp[intOf];omega
    ·have hz':(q != 0)=true:=by simp[hz]
     go_wp2
     go_ret
     exact ⟨aM (by rw[HF.out];exact (nJ hlt (xY (by rw[HX.out.1,HX.out.2];exact HQ.out) hz)).symm),BW.out⟩
   ·go_wp2
    go_ret
    exact ⟨aM (by rw[HF.out];exact (vJ (by omega)).symm),HW.out⟩
end Go.Proofs.YtgaeikgoknoamaaGreat
namespace Go.Proofs.YtgaeikgoknoamaaGreat
open Go.RowKit Go.Maps
abbrev Ch:=Int × List Int
def lst (D:Nat→Int) (P:Nat→List Int) (n:Nat):List Ch:=(List.range n).map fun i=>(D i,P i)
theorem zI (D:Nat→Int) (P:Nat→List Int) (n:Nat):lst D P (n+1)=lst D P n ++ [(D n,P n)]:=by simp[lst,List.range_succ]
theorem zpc (D:Nat→Int) (P:Nat→List Int) (n:Nat):(lst D P n).length=n:=by simp[lst]
theorem xG {D:Nat→Int} {P:Nat→List Int} {n:Nat} {p:Ch}:p∈lst D P n↔∃ i,i<n∧p=(D i,P i):=by
 simp[lst,eq_comm]
theorem zma {D:Nat→Int} {P:Nat→List Int} {n:Nat} {d:Int}:d∈(lst D P n).map Prod.fst↔∃ i,i<n∧D i=d:=by
 simp[lst]
def RV (v:Value):Option (DataW Value × List MemPlace):=some (.held v,[])
def chv (d:Int) (a:Option Addr) (n c:Nat):Value:=.agg #[.int .i64 d,.slice a n c]
theorem rL:Keyed Tryz.prog 2:=int_keyed Tryz.underlying2
theorem zj1 (w:World):(zeroValue 65).run Tryz.prog w=.ok (.agg #[.int .i64 0,.slice none 0 0]) w:=by kernel_rfl
theorem zs5 {d:Int} (h0:0≤d) (h1:d≤4294967295):(Lit.int .i64 d).wf=true:=by
 simp[Lit.wf,IntKind.min,IntKind.max,IntKind.signed,IntKind.bits];omega
theorem xD {d:Int} (h:(Lit.int .i64 d).wf=true):keyOf Tryz.prog 2 (.int .i64 d)=some (.int .i64 d):=keyOf_int_mk Tryz.underlying2 h
def dT (w:World) (b N:Nat) (L:List Ch) (T:Nat):Prop :=
 ∃ (Dt:DataW Value) (A:Int→Option Addr) (C:Int→Nat),w.ownsMap Tryz.prog 2 RV b N Dt∧(∀ k,has Dt (.int .i64 k)=decide (k∈L.map Prod.fst)) ∧
  (∀ p∈L,(∀ z,Dt.atKey (.int .i64 p.1) z=.held (chv p.1 (A p.1) p.2.length (C p.1)))∧aO .u8 w (A p.1) p.2∧∀ x,A p.1=some x→x.block<T)∧size Dt=L.length∧(L.map Prod.fst).Nodup
theorem dT.lt {w:World} {b N:Nat} {L:List Ch} {T:Nat} (h:dT w b N L T):b<w.heap.size:=by
 obtain ⟨Dt,A,C,h1,_⟩:=h;exact h1.lt
theorem wC {S:Nat→Prop} {w w':World} {b N:Nat} {Dt:DataW Value} (h:w.ownsMap Tryz.prog 2 RV b N Dt) (hk:aD S w w') (hb:¬ S b):w'.ownsMap Tryz.prog 2 RV b N Dt:=by
 have hlt:=h.lt;obtain ⟨es,clock,hh,r⟩:=h;exact ⟨es,clock,(hk.block b hlt hb).trans hh,r⟩
theorem zu6 {w:World} {b N:Nat} {Dt:DataW Value} (h:w.ownsMap Tryz.prog 2 RV b N Dt) {b' o:Nat} {v:Value} (hc:w.cell? ⟨b',o,none⟩=some v):b'≠b:=by
 obtain ⟨es,clock,hh,r⟩:=h;intro e;subst e;simp[World.cell?,hh]at hc
theorem aO.far {w:World} {b N:Nat} {Dt:DataW Value} (h:w.ownsMap Tryz.prog 2 RV b N Dt) {a:Option Addr} {zs:List Int} (hr:aO .u8 w a zs):zs≠[]→∀ x,a=some x→x.block≠b:=by
 intro hz x hx;obtain ⟨b1,off,e,hb,hc⟩:=hr hz;subst e;cases hx
 have h0:0<zs.length:=List.length_pos_iff.2 hz;exact zu6 h (hc 0 h0)
theorem dT.kept {S:Nat→Prop} {w w':World} {b N:Nat} {L:List Ch} {T:Nat} (h:dT w b N L T) (hk:aD S w w') (hb:¬ S b) (hS:∀ x,S x→T≤x):dT w' b N L T:=by
 obtain ⟨Dt,A,C,h1,h2,h3,h4⟩:=h;refine ⟨Dt,A,C,wC h1 hk hb,h2,fun p hp=>⟨(h3 p hp).1,(h3 p hp).2.1.kept hk (fun hz x hx hs=>?_),(h3 p hp).2.2⟩,h4⟩
 have h5:=hS _ hs;have h6:=(h3 p hp).2.2 x hx;omega
theorem dT.below {w w':World} {b N:Nat} {L:List Ch} {T:Nat} (h:dT w b N L T) (hk:Below w.heap.size w w'):dT w' b N L T :=
 h.kept (S:=fun _=>False) (aD.of_below hk) id (fun _ h=>h.elim)
theorem aD.of_grown {w w':World} {b:Nat} (h:w.grownBy w' (some b)):aD (fun x=>x=b) w w' :=
 ⟨h.os,h.tape,h.output,h.size,fun k hk hn=>h.block k hk (fun e=>hn (by simpa using e))⟩
theorem dT.made (w:World) (T:Nat):dT (w.alloc (.map #[] 0)) w.heap.size 0 [] T :=
 ⟨.map [],fun _=>none,fun _=>0,World.ownsMap_made _ _ _ _,fun k=>by simp[has],fun p hp=>by simp at hp,rfl,List.nodup_nil⟩
theorem zia (d:Int):WideAt.IsKeyLit (.int .i64 d):=trivial
theorem dT.put {w:World} {b N:Nat} {L:List Ch} {d:Int} {zs:List Int} {a:Option Addr} {c T:Nat} (h:dT w b N L T) (hd:d∉L.map Prod.fst) (hr:aO .u8 w a zs) (hT:∀ x,a=some x→x.block<T) :
  ∃ Dt,w.ownsMap Tryz.prog 2 RV b N Dt∧∀ w',w'.ownsMap Tryz.prog 2 RV b (N+1) (Dt.put (.int .i64 d) (.held (chv d a zs.length c)))→w.grownBy w' (some b)→dT w' b (N+1) (L ++ [(d,zs)]) T:=by
 obtain ⟨Dt,A,C,h1,h2,h3,h4,h5⟩:=h;refine ⟨Dt,h1,fun w' ho hg=>?_⟩
 have hk:=aD.of_grown hg;have hkeep:∀ {x:Option Addr} {ys:List Int},aO .u8 w x ys→aO .u8 w' x ys:=fun hx=>hx.kept hk (fun hz y hy e=>aO.far h1 hx hz y hy e)
 have hne:∀ p∈L,p.1≠d:=fun p hp e=>hd (by rw[←e];exact List.mem_map_of_mem hp)
 refine ⟨_,fun k=>if k=d then a else A k,fun k=>if k=d then c else C k,ho,fun k=>?_,fun p hp=>?_,?_,?_⟩
 ·by_cases e:k=d
  ·subst e
   rw[has_put_same h1.isMap (zia _)];simp
  ·rw[has_put_other (by simpa using e),h2 k]
   simp[e]
 ·rcases List.mem_append.1 hp with hp | hp
  ·have e:=hne p hp
   simp only[if_neg e];exact ⟨fun z=>by rw[atKey_put_other (by simpa using e)];exact (h3 p hp).1 z,hkeep (h3 p hp).2.1,(h3 p hp).2.2⟩
  ·simp at hp
   subst hp;simp only[if_true];exact ⟨fun z=>atKey_put_same h1.isMap (zia _) _ _,hkeep hr,hT⟩
 ·rw[size_put (h1.tidy rL),h2 d,h4]
  simp[hd]
 ·rw[List.map_append,List.nodup_append]
  refine ⟨h5,by simp,fun x hx y hy=>?_⟩
  simp at hy
  subst hy;intro e;subst e;exact hd hx
theorem dT.yes {w:World} {b N:Nat} {L:List Ch} {d:Int} {zs:List Int} {T:Nat} (h:dT w b N L T) (hp:(d,zs)∈L) (hw:(Lit.int .i64 d).wf=true) (t:TypeId) (ht:Tryz.prog.underlying t=some (.map 2 65)) :
  ∃ a c,(∀ k:Bool,(Instr.lookup t (.map (some b)) (.int .i64 d) k).run Tryz.prog w=.ok (if k then .tuple #[chv d a zs.length c,.bool true] else chv d a zs.length c) w)∧aO .u8 w a zs∧∀ x,a=some x→x.block<T:=by
 obtain ⟨Dt,A,C,h1,h2,h3,h4,h5⟩:=h;have hm:d∈L.map Prod.fst:=List.mem_map_of_mem (f:=Prod.fst) hp;refine ⟨A d,C d,fun k=>?_,(h3 _ hp).2⟩
 cases k with
 | true =>
  obtain ⟨v,ps,hrun,hv⟩:=h1.look_ok rL ht (zj1 w) (zd:=.held (.agg #[.int .i64 0,.slice none 0 0])) (zp:=[]) rfl (xD hw);simp only[RV,Option.some.injEq,Prod.mk.injEq,(h3 _ hp).1]at hv;have e:=hv.1;simp only[DataW.held.injEq]at e;rw[hrun,h2 d];simp[hm,e]
 | false =>
  obtain ⟨v,ps,hrun,hv⟩:=h1.lookup rL ht (zj1 w) (zd:=.held (.agg #[.int .i64 0,.slice none 0 0])) (zp:=[]) rfl (xD hw);simp only[RV,Option.some.injEq,Prod.mk.injEq,(h3 _ hp).1]at hv;have e:=hv.1;simp only[DataW.held.injEq]at e;rw[hrun];simp[e]
theorem dT.no {w:World} {b N:Nat} {L:List Ch} {d:Int} {T:Nat} (h:dT w b N L T) (hp:d∉L.map Prod.fst) (hw:(Lit.int .i64 d).wf=true) (t:TypeId) (ht:Tryz.prog.underlying t=some (.map 2 65)) :
  (Instr.lookup t (.map (some b)) (.int .i64 d) true).run Tryz.prog w=.ok (.tuple #[.agg #[.int .i64 0,.slice none 0 0],.bool false]) w:=by
 obtain ⟨Dt,A,C,h1,h2,h3,h4,h5⟩:=h;obtain ⟨v,ps,hrun,hv⟩:=h1.look_ok rL ht (zj1 w) (zd:=.held (.agg #[.int .i64 0,.slice none 0 0])) (zp:=[]) rfl (xD hw);have hh:has Dt (.int .i64 d)=false:=by rw[h2 d];simpa using hp
 rw[atKey_of_not_has hh]at hv;simp only[RV,Option.some.injEq,Prod.mk.injEq]at hv;have e:=hv.1;simp only[DataW.held.injEq]at e;rw[hrun,hh,e]
theorem zv9 {P:Program} {w:World} {ops:Array Oper} {rest:List Oper} {o:Oper} {a:Act} {Q:Exit→Act→World→Prop} (hg:o.guard=none) (m x:Operand) (t:TypeId) (c:Bool) (hop:o.op=Op.lookup t m x c)
  (vm vx v:Value) (hm:a.eval m=vm) (hx:a.eval x=vx) (hrun:(Instr.lookup t vm vx c).run P w=.ok v w) (h:wpList P ops Q rest (a.put o.dst v) w):wpList P ops Q (o :: rest) a w:=by
 refine wpList_plain hg fun K' hK'=>?_
 unfold Oper.wp;simp[execOp,hop,hm,hx,hrun,Result.andThen]
 exact hK' _ _ h
end Go.Proofs.YtgaeikgoknoamaaGreat
namespace Go.Proofs.YtgaeikgoknoamaaGreat
open Go.RowKit
def GB (B T:Nat) (w:World) (v:Value) (ds:List Int):Prop :=
 w.ownsRow B 5 1 v ds.length (ds.map (Value.int .u8))∧∀ b,v.ownBlock=some b→b<T
theorem GB.mk {B:Nat} {w:World} {v:Value} {ds:List Int} {n:Nat} (h:w.ownsRow B 5 1 v n (ds.map (Value.int .u8))) (hn:n=ds.length):GB B w.heap.size w v ds:=by
 subst hn;exact ⟨h,fun b hb=>(h.lt b hb).2⟩
end Go.Proofs.YtgaeikgoknoamaaGreat
namespace Go.Proofs.YtgaeikgoknoamaaGreat
open Go.RowKit Go.Maps
theorem cF.inj {D:Nat→Int} {P:Nat→List Int} {n:Nat} (h:cF D P n):∀ i j,i<j→j<n→D i<D j:=by
 intro i j hij hj
 induction j with
 | zero=>omega
 | succ j ih =>
  have h1:=h.up j hj;by_cases e:i=j
  ·subst e;exact h1
  ·have:=ih (by omega) (by omega)
   omega
theorem cF.new {D:Nat→Int} {P:Nat→List Int} {n k:Nat} (h:cF D P n) (hk:k<n):D k∉(lst D P k).map Prod.fst:=by
 rw[zma];rintro ⟨i,hi,e⟩;have:=h.inj i k hi hk;omega
theorem cF.wf {D:Nat→Int} {P:Nat→List Int} {n k:Nat} (h:cF D P n) (hk:k<n):(Lit.int .i64 (D k)).wf=true:=zs5 (h.range k hk).1 (h.range k hk).2
theorem cF.first {D:Nat→Int} {P:Nat→List Int} {n i:Nat} (h:cF D P n) (hi:i<n):∀ j,j<i→D j≠D i:=fun j hj e=>by
 have:=h.inj j i hj hi;omega
theorem cF.u8len {D:Nat→Int} {P:Nat→List Int} {n i:Nat} (h:cF D P n) (hi:i<n):0<(P i).length∧(P i).length≤1048576:=by
 have:=h.len i hi;omega
theorem aO.lt {k:IntKind} {w:World} {a:Option Addr} {zs:List Int} (h:aO k w a zs) (hz:zs≠[]):∀ x,a=some x→x.block<w.heap.size:=by
 intro x hx;obtain ⟨b,off,e,hb,_⟩:=h hz;rw[hx]at e;simp only[Option.some.injEq]at e;subst e;exact hb
theorem zqk (a:Option Addr) (c n:Nat) (D:Nat→Int) (P:Nat→List Int) (w:World) (h:RdC w a D P n) (hR:cF D P n) :
  Calls Tryz.prog 63 #[.slice a n c] w fun e w'=>∃ b,e=.returned (.map (some b))∧w.heap.size≤b∧dT w' b n (lst D P n) w.heap.size∧Below w.heap.size w w':=by
 have HA:=aA h;have HR:=aA hR;have hn:=hR.many;clear h hR;have hmm:∀ u:World,(Instr.makeMap 113 (some (.int .i64 (n:Int)))).run Tryz.prog u=.ok (.map (some u.heap.size)) (u.alloc (.map #[] 0)):=fun u=>by simp[Instr.makeMap,asInt,asIntOf,Result.andThen]
 go_enter Tryz.func63,Tryz.ntmps63;go_wp2
 go_loopw [5,11] (fun _ i wr=>∃ k:Nat,k≤n∧i=.int .i64 k∧dT wr w.heap.size k (lst D P k) w.heap.size∧Below w.heap.size w wr) (fun _ i _=>n - (intOf i).toNat)
 case atStart=>exact ⟨0,Nat.zero_le _,rfl,dT.made w _,aC _ _⟩
 case round =>
  obtain ⟨k,hk,rfl,hH,hbel⟩:=hrel;have HH:=aA hH;have HW:=aA hbel;clear hH hbel;by_cases hlt:k<n
  ·obtain ⟨b1,o1,A1,C1,rfl,hb1,hc1⟩:=HA.out (by omega)
   obtain ⟨c1,e1,r1⟩:=hc1 k hlt;have c1:=(HW.out.cell (p:=⟨b1,o1+k * 2,none⟩) hb1).trans c1;have e1:=(HW.out.cell (p:=⟨b1,o1+k * 2+1,none⟩) hb1).trans e1;have hpos:=(HR.out.u8len hlt).1;have hT:=r1.lt (by intro e;simp[e]at hpos)
   have r1:=r1.below HW.out;have hnew:=HR.out.new hlt;have hwf:=HR.out.wf hlt;have HS:=aA (zI D P k);generalize A1 k=a1 at e1 r1 hT;generalize C1 k=d1 at e1;generalize P k=xs at *;generalize D k=dd at *;generalize lst D P k=L at *;obtain ⟨Dt,hown,hput⟩:=(HH.out.below (aC wr (.cells #[.int .i64 dd,.slice a1 xs.length d1] 65))).put (c:=d1) hnew (r1.below (aC _ _)) hT;have HO:=aA hown;have HPt:=aA hput;have HK:=aA (xD hwf);clear hc1 r1 hown hput hnew hwf hT hpos;go_wp2_with (first | (at_mapUpdate;refine wpList_mapUpdate_own _ rfl _ _ _ 113 rfl 2 65 rL Tryz.underlying113 RV w.heap.size k Dt rfl HO.out (by unfold maxLen;omega) _ _ _ rfl rfl HK.out (.held (chv dd a1 xs.length d1)) [] rfl ?_;intro w1 hown1 hgrow1;have HH1:=aA (HPt.out w1 hown1 hgrow1);have HG1:=aA hgrow1;clear hown1 hgrow1) | go_in)
   go_roundw
   case rel=>exact ⟨k+1,by omega,by go_num,by rw[HS.out];exact HH1.out,(aB HW.out (aC _ _)).trans ((aD.of_grown HG1.out).below (Nat.le_trans HW.out.size (by simp)) (fun j hj e=>by omega))⟩
   case measure=>simp[intOf];omega
  ·have hke:k=n:=by omega
   subst hke;go_wp2
   go_ret
   exact ⟨_,rfl,Nat.le_refl _,HH.out,HW.out⟩
theorem zkh (a:Option Addr) (c n i:Nat) (d:Int) (D:Nat→Int) (P:Nat→List Int) (w:World) (h:RdC w a D P n) (hn:n≤1048576) (hi:i<n) (hd:D i=d) (hf:∀ j,j<i→D j≠d) :
  Calls Tryz.prog 155 #[.slice a n c,.int .i64 d] w fun e w'=>e=.returned (.int .i64 i)∧w'=w:=by
 obtain ⟨b1,o1,A1,C1,rfl,hb1,hc1⟩:=h (by omega)
 have HC:=aA hc1;have HF:=aA hf;have HD:=aA hd;clear h hc1 hf hd;go_enter Tryz.func155,Tryz.ntmps155;go_wp2
 go_loop [5] (fun q=>∃ k:Nat,k≤i∧q=.int .i64 k) (fun q=>n - (intOf q).toNat)
 case atStart=>exact ⟨0,Nat.zero_le _,rfl⟩
 case round =>
  obtain ⟨k,hk,rfl⟩:=hrel;have hlt:k<n:=by omega
  obtain ⟨c1,_,_⟩:=HC.out k hlt;by_cases e:k=i
  ·subst e
   rw[HD.out]at c1;go_wp2
   go_ret
   exact ⟨rfl,rfl⟩
  ·have hne:(D k==d)=false:=by simpa using HF.out k (by omega)
   generalize D k=dd at c1 hne;go_wp2
   go_round
   case rel=>exact ⟨k+1,by omega,by go_num⟩
   case measure=>simp[intOf];omega
theorem zja (a:Option Addr) (c n:Nat) (d:Int) (D:Nat→Int) (P:Nat→List Int) (w:World) (h:RdC w a D P n) (hn:n≤1048576) (hf:∀ j,j<n→D j≠d) :
  Calls Tryz.prog 155 #[.slice a n c,.int .i64 d] w fun e w'=>e=.returned (.int .i64 (-1))∧w'=w:=by
 have HA:=aA h;have HF:=aA hf;clear h hf;go_enter Tryz.func155,Tryz.ntmps155;go_wp2
 go_loop [5] (fun q=>∃ k:Nat,k≤n∧q=.int .i64 k) (fun q=>n - (intOf q).toNat)
 case atStart=>exact ⟨0,Nat.zero_le _,rfl⟩
 case round =>
  obtain ⟨k,hk,rfl⟩:=hrel;by_cases hlt:k<n
  ·obtain ⟨b1,o1,A1,C1,rfl,hb1,hc1⟩:=HA.out (by omega)
   obtain ⟨c1,_,_⟩:=hc1 k hlt;have hne:(D k==d)=false:=by simpa using HF.out k hlt
   generalize D k=dd at c1 hne;clear hc1;go_wp2
   go_round
   case rel=>exact ⟨k+1,by omega,by go_num⟩
   case measure=>simp[intOf];omega
  ·go_wp2
   go_ret
   exact ⟨rfl,rfl⟩
def pF (q:Int) (zs:List Int) (w:World) (e:Ending) (w':World):Prop :=
 ∃ a' c',e=.returned (.agg #[.int .i64 q,.slice a' zs.length c'])∧GB w.heap.size w'.heap.size w' (.slice a' zs.length c') zs∧Below w.heap.size w w'
theorem GB.nil (B T:Nat) (w:World):GB B T w (.slice none 0 0) []:=⟨World.ownsRow_nil _ _ _ _,fun b hb=>by simp[Value.ownBlock]at hb⟩
theorem pF.no {q:Int} {w w':World} (h:Below w.heap.size w w'):pF q [] w (.returned (.agg #[.int .i64 q,.slice none 0 0])) w':=⟨none,0,rfl,GB.nil _ _ _,h⟩
end Go.Proofs.YtgaeikgoknoamaaGreat
namespace Go.Proofs.YtgaeikgoknoamaaGreat
open Go.RowKit
def upd {α:Type} (f:Nat→α) (j:Nat) (x:α):Nat→α:=fun t=>if t=j then x else f t
theorem eO {α:Type} (f:Nat→α) (j:Nat) (x:α):upd f j x j=x:=by simp[upd]
theorem dO {α:Type} (f:Nat→α) (j:Nat) (x:α) {t:Nat} (h:t≠j):upd f j x t=f t:=by simp[upd,h]
theorem GC.congr {B T:Nat} {w:World} {v:Value} {D D':Nat→Int} {P P':Nat→List Int} {n:Nat} (h:GC B T w v D P n) (hD:∀ i,i<n→D' i=D i) (hP:∀ i,i<n→P' i=P i):GC B T w v D' P' n:=by
 obtain ⟨A,C,h1,h2,h3,h4,h5⟩:=h;refine ⟨A,C,?_,fun i hi=>by rw[hP i hi];exact h2 i hi,h3,h4,h5⟩
 rw[kE (G:=aJ D P A C) (fun i hi=>by simp[aJ,hD i hi,hP i hi])]
 exact h1
end Go.Proofs.YtgaeikgoknoamaaGreat
namespace Go.Proofs.YtgaeikgoknoamaaGreat
open Go.RowKit Go.Maps Go.Sort Go.Shelf
def Tryz.keysA_ren:Go.Shelf.Ren:=⟨fun | 7=>108 | 10=>158 | n=>n,fun | 23=>113 | 26=>2 | 3=>65 | 28=>170 | 0=>0 | 27=>169 | 33=>74 | 4=>4 | n=>n,fun | n=>n⟩
theorem Tryz.keysA:Go.Proofs.SlLaysZI.n7 Tryz.prog Tryz.keysA_ren:={
 mixed:=by kernel_rfl
 f7:=⟨Tryz.f108.name,by decide,Tryz.func108.trans (congrArg some (by kernel_rfl))⟩
 f10:=⟨Tryz.f158.name,by decide,Tryz.func158.trans (congrArg some (by kernel_rfl))⟩
 t0:=Tryz.underlying0
 a0:=Tryz.isAgg0
 z0:=Tryz.sizeOf0
 v0:=Tryz.zeroValue0
 t4:=Tryz.underlying4
 a4:=Tryz.isAgg4
 z4:=Tryz.sizeOf4
 v4:=Tryz.zeroValue4
 t23:=Tryz.underlying113
 a23:=Tryz.isAgg113
 z23:=Tryz.sizeOf113
 v23:=Tryz.zeroValue113
 t26:=Tryz.underlying2
 a26:=Tryz.isAgg2
 z26:=Tryz.sizeOf2
 v26:=Tryz.zeroValue2
 t27:=Tryz.underlying169
 a27:=Tryz.isAgg169
 z27:=Tryz.sizeOf169
 v27:=Tryz.zeroValue169
 t28:=Tryz.underlying170
 a28:=Tryz.isAgg170
 z28:=Tryz.sizeOf170
 v28:=Tryz.zeroValue170
 t33:=Tryz.underlying74
 a33:=Tryz.isAgg74
 z33:=Tryz.sizeOf74
 v33:=Tryz.zeroValue74 }
def Tryz.sortedA_ren:Go.Shelf.Ren:=⟨fun | 6=>107 | 8=>156 | 9=>157 | 11=>199 | 13=>201 | 12=>200 | 23=>234 | 24=>235 | 14=>225 | 15=>226 | 16=>227 | 17=>228 | 18=>229 | 19=>230 | 20=>231 | 21=>232 | 22=>233 | 25=>253 | 26=>254 | 27=>255 | 28=>256 | 29=>257 | 30=>258 | 31=>272 | n=>n,fun | 26=>2 | 28=>170 | 24=>48 | 0=>0 | 3=>3 | 37=>229 | 48=>217 | 50=>281 | 4=>4 | 40=>272 | 39=>271 | 45=>277 | 5=>5 | 9=>9 | 51=>291 | 55=>295 | 57=>306 | 58=>307 | 33=>74 | n=>n,fun | n=>n⟩
theorem Tryz.sortedA:Go.Proofs.SlLaysZI.n6 Tryz.prog Tryz.sortedA_ren:={
 mixed:=by kernel_rfl
 f6:=⟨Tryz.f107.name,by decide,Tryz.func107.trans (congrArg some (by kernel_rfl))⟩
 f8:=⟨Tryz.f156.name,by decide,Tryz.func156.trans (congrArg some (by kernel_rfl))⟩
 f11:=⟨Tryz.f199.name,by decide,Tryz.func199.trans (congrArg some (by kernel_rfl))⟩
 t0:=Tryz.underlying0
 a0:=Tryz.isAgg0
 z0:=Tryz.sizeOf0
 v0:=Tryz.zeroValue0
 t24:=Tryz.underlying48
 a24:=Tryz.isAgg48
 z24:=Tryz.sizeOf48
 v24:=Tryz.zeroValue48
 t26:=Tryz.underlying2
 a26:=Tryz.isAgg2
 z26:=Tryz.sizeOf2
 v26:=Tryz.zeroValue2
 t28:=Tryz.underlying170
 a28:=Tryz.isAgg170
 z28:=Tryz.sizeOf170
 v28:=Tryz.zeroValue170
 i26:=by kernel_rfl }
def Tryz.sortA_ren:Go.Shelf.Ren:=⟨fun | 5=>157 | 8=>201 | 7=>200 | 19=>234 | 20=>235 | 10=>225 | 11=>226 | 12=>227 | 13=>228 | 14=>229 | 15=>230 | 16=>231 | 17=>232 | 18=>233 | 30=>253 | 31=>254 | 32=>255 | 33=>256 | 34=>257 | 35=>258 | 40=>272 | n=>n,fun | 23=>48 | 25=>2 | 3=>3 | 32=>229 | 22=>48 | 0=>0 | 44=>217 | 46=>281 | 4=>4 | 36=>272 | 35=>271 | 41=>277 | 5=>5 | 9=>9 | 53=>291 | 57=>295 | 63=>306 | 64=>307 | n=>n,fun | n=>n⟩
theorem Tryz.sortA:Go.Proofs.SlLaysM.n5 Tryz.prog Tryz.sortA_ren:={
 mixed:=by kernel_rfl
 f5:=⟨Tryz.f157.name,by decide,Tryz.func157.trans (congrArg some (by kernel_rfl))⟩
 f7:=⟨Tryz.f200.name,by decide,Tryz.func200.trans (congrArg some (by kernel_rfl))⟩
 f8:=Tryz.func201.trans (congrArg some (by kernel_rfl))
 f10:=⟨Tryz.f225.name,by decide,Tryz.func225.trans (congrArg some (by kernel_rfl))⟩
 f11:=⟨Tryz.f226.name,by decide,Tryz.func226.trans (congrArg some (by kernel_rfl))⟩
 f12:=⟨Tryz.f227.name,by decide,Tryz.func227.trans (congrArg some (by kernel_rfl))⟩
 f13:=⟨Tryz.f228.name,by decide,Tryz.func228.trans (congrArg some (by kernel_rfl))⟩
 f14:=⟨Tryz.f229.name,by decide,Tryz.func229.trans (congrArg some (by kernel_rfl))⟩
 f15:=⟨Tryz.f230.name,by decide,Tryz.func230.trans (congrArg some (by kernel_rfl))⟩
 f16:=⟨Tryz.f231.name,by decide,Tryz.func231.trans (congrArg some (by kernel_rfl))⟩
 f17:=⟨Tryz.f232.name,by decide,Tryz.func232.trans (congrArg some (by kernel_rfl))⟩
 f18:=⟨Tryz.f233.name,by decide,Tryz.func233.trans (congrArg some (by kernel_rfl))⟩
 f19:=Tryz.func234.trans (congrArg some (by kernel_rfl))
 f20:=Tryz.func235.trans (congrArg some (by kernel_rfl))
 f30:=⟨Tryz.f253.name,by decide,Tryz.func253.trans (congrArg some (by kernel_rfl))⟩
 f31:=Tryz.func254.trans (congrArg some (by kernel_rfl))
 f32:=Tryz.func255.trans (congrArg some (by kernel_rfl))
 f33:=⟨Tryz.f256.name,by decide,Tryz.func256.trans (congrArg some (by kernel_rfl))⟩
 f34:=⟨Tryz.f257.name,by decide,Tryz.func257.trans (congrArg some (by kernel_rfl))⟩
 f35:=⟨Tryz.f258.name,by decide,Tryz.func258.trans (congrArg some (by kernel_rfl))⟩
 f40:=⟨Tryz.f272.name,by decide,Tryz.func272.trans (congrArg some (by kernel_rfl))⟩
 t0:=Tryz.underlying0
 a0:=Tryz.isAgg0
 z0:=Tryz.sizeOf0
 v0:=Tryz.zeroValue0
 t3:=Tryz.underlying3
 a3:=Tryz.isAgg3
 z3:=Tryz.sizeOf3
 v3:=Tryz.zeroValue3
 t4:=Tryz.underlying4
 a4:=Tryz.isAgg4
 z4:=Tryz.sizeOf4
 v4:=Tryz.zeroValue4
 t5:=Tryz.underlying5
 a5:=Tryz.isAgg5
 z5:=Tryz.sizeOf5
 v5:=Tryz.zeroValue5
 t9:=Tryz.underlying9
 a9:=Tryz.isAgg9
 z9:=Tryz.sizeOf9
 v9:=Tryz.zeroValue9
 t22:=Tryz.underlying48
 a22:=Tryz.isAgg48
 z22:=Tryz.sizeOf48
 v22:=Tryz.zeroValue48
 t23:=Tryz.underlying48
 a23:=Tryz.isAgg48
 z23:=Tryz.sizeOf48
 v23:=Tryz.zeroValue48
 t25:=Tryz.underlying2
 a25:=Tryz.isAgg2
 z25:=Tryz.sizeOf2
 v25:=Tryz.zeroValue2
 t32:=Tryz.underlying229
 a32:=Tryz.isAgg229
 z32:=Tryz.sizeOf229
 v32:=Tryz.zeroValue229
 t35:=Tryz.underlying271
 a35:=Tryz.isAgg271
 z35:=Tryz.sizeOf271
 v35:=Tryz.zeroValue271
 t36:=Tryz.underlying272
 a36:=Tryz.isAgg272
 z36:=Tryz.sizeOf272
 v36:=Tryz.zeroValue272
 t41:=Tryz.underlying277
 a41:=Tryz.isAgg277
 z41:=Tryz.sizeOf277
 v41:=Tryz.zeroValue277
 t44:=Tryz.underlying217
 a44:=Tryz.isAgg217
 z44:=Tryz.sizeOf217
 v44:=Tryz.zeroValue217
 t46:=Tryz.underlying281
 a46:=Tryz.isAgg281
 z46:=Tryz.sizeOf281
 v46:=Tryz.zeroValue281
 t53:=Tryz.underlying291
 a53:=Tryz.isAgg291
 z53:=Tryz.sizeOf291
 v53:=Tryz.zeroValue291
 t57:=Tryz.underlying295
 a57:=Tryz.isAgg295
 z57:=Tryz.sizeOf295
 v57:=Tryz.zeroValue295
 t63:=Tryz.underlying306
 a63:=Tryz.isAgg306
 z63:=Tryz.sizeOf306
 v63:=Tryz.zeroValue306
 t64:=Tryz.underlying307
 a64:=Tryz.isAgg307
 z64:=Tryz.sizeOf307
 v64:=Tryz.zeroValue307 }
end Go.Proofs.YtgaeikgoknoamaaGreat
namespace Go.Proofs.YtgaeikgoknoamaaGreat
open Go.RowKit Go.Maps
theorem zgl (m:Nat):AnyZI.SortsIn Tryz.prog Tryz.sortedA_ren Fence.wide m :=
 ⟨fun blk off cap ss W hH hblk hsz=>callsIn_wide.2 (AnyM.slices_Sort_int Tryz.sortA blk off cap ss W hH hblk hsz),
  fun p cap W=>callsIn_wide.2 (AnyM.slices_Sort_int_none Tryz.sortA p cap W)⟩
theorem zih (mb:Option Nat) (W:World):Calls Tryz.prog 108 #[.map mb] W fun e w'=>e=.returned (.func (.func 158) #[] #[.pointer (some ⟨W.heap.size,0,none⟩)])∧w'=W.alloc (.cells #[.map mb] 113) :=
 (callsIn_wide (n:=5)).1 (AnyZI.keys_in Tryz.keysA Fence.wide 5 trivial rfl mb W)
theorem zfd {H:Type} (b nn:Nat) (D0:DataW H) (R:Value→Option (DataW H × List MemPlace)) (w:World) (hown:w.ownsMap Tryz.prog 2 R b nn D0) (hmax:Maps.size D0≤maxLen) (hbytes:Maps.size D0 * 8≤140737488355328) :
  Calls Tryz.prog 107 #[.func (.func 158) #[] #[.pointer (some ⟨w.heap.size,0,none⟩)]] (w.alloc (.cells #[.map (some b)] 113)) fun e w'=>∃ (v:Value) (ss:List Int),e=.returned v∧ss.Perm (intKeys D0) ∧
   w'.ownsRow (w.alloc (.cells #[.map (some b)] 113)).heap.size 2 1 v ss.length ((ss.mergeSort (fun x y=>decide (x≤y))).map (Value.int .i64))∧Below (w.alloc (.cells #[.map (some b)] 113)).heap.size (w.alloc (.cells #[.map (some b)] 113)) w':=by
 refine (callsIn_wide (n:=5)).1 ?_;have hbl:=hown.lt;have hseq:SeqGives Fence.wide 2 Tryz.prog 158 #[.pointer (some ⟨w.heap.size,0,none⟩)] encZ (fun ss=>ss.Perm (intKeys D0)) (Maps.size D0) (w.alloc (.cells #[.map (some b)] 113)) :=
  AnyZI.keys_gives (ρ:=Tryz.keysA_ren) { Tryz.keysA with } Fence.wide _ trivial rfl (by omega) w.heap.size b nn D0 _ (by simp) (by simp) (by
   obtain ⟨es,clock,hb,Ft,hs,hD⟩:=hown;exact ⟨es,clock,(Below.heap_alloc _ _ b hbl).trans hb,Ft,hs,hD⟩)
 have cS:=AnyZI.sorted_in Tryz.sortedA Fence.wide 5 trivial trivial trivial trivial rfl (by omega) (zgl _) (enters_of Tryz.func157 (by kernel_rfl) rfl) 158 #[.pointer (some ⟨w.heap.size,0,none⟩)] trivial (enters_of Tryz.func158 (by kernel_rfl) rfl) _ _ hmax hbytes _ hseq
 refine cS.mono ?_;rintro e w' ⟨v,ss,he,hp,ho,_,hb⟩;exact ⟨v,ss,he,hp,ho,hb⟩
theorem GC.shape {B T:Nat} {w:World} {v:Value} {D:Nat→Int} {P:Nat→List Int} {j:Nat} (h:GC B T w v D P j):∃ a c,v=.slice a j c:=by
 obtain ⟨A,C,h1,_⟩:=h;exact aQ h1
theorem lY {B:Nat} {w w' w'':World} (h:Below B w w') (k:Below w'.heap.size w' w'') (hB:B≤w'.heap.size:=by omega):Below B w w'':=h.trans (k.mono hB)
theorem GC.push {B:Nat} {w w1 w2:World} {v v':Value} {D:Nat→Int} {P:Nat→List Int} {j g c:Nat} {A:Nat→Option Addr} {C:Nat→Nat} {d:Int} {zs:List Int}
  (h1:w.ownsRow B 65 2 v j (bZ j (aJ D P A C)))
  (h2:∀ i,i<j→w.ownsRow B 5 1 (.slice (A i) (P i).length (C i)) (P i).length ((P i).map (Value.int .u8)))
  (h3:∀ i i' g,i<j→i'<j→(A i).map Addr.block=some g→(A i').map Addr.block=some g→i=i') (hB:B≤w.heap.size) (hbel:Below w.heap.size w w1)
  (hown:w1.ownsRow w.heap.size 5 1 (.slice (some ⟨g,0,none⟩) zs.length c) zs.length (zs.map (Value.int .u8)))
  (hv':w2.ownsRow B 65 2 v' (j+1) (bZ j (aJ D P A C) ++ [.int .i64 d,.slice (some ⟨g,0,none⟩) zs.length c]))
  (hk:aD (fun b=>v.ownBlock=some b) w1 w2):GC B w2.heap.size w2 v' (upd D j d) (upd P j zs) (j+1):=by
 have hob:∀ i,∀ g',(A i).map Addr.block=some g'→(Value.slice (A i) (P i).length (C i)).ownBlock=some g':=fun i g' hg=>by
  cases hA:A i with
  | none=>rw[hA]at hg;simp at hg
  | some x=>rw[hA]at hg;simpa [Value.ownBlock] using hg
 have hA:∀ i g',i<j→(A i).map Addr.block=some g'→g'<w.heap.size:=fun i g' hi hg=>((h2 i hi).lt g' (hob i g' hg)).2
 have hg0:w.heap.size≤g∧g<w1.heap.size:=hown.lt g rfl;have k1:=aG h1 hbel;refine ⟨upd A j (some ⟨g,0,none⟩),upd C j c,?_,?_,?_,?_,fun b hb=>(hv'.lt b hb).2⟩
 ·rw[oY]
  have e:bZ j (aJ (upd D j d) (upd P j zs) (upd A j (some ⟨g,0,none⟩)) (upd C j c))=bZ j (aJ D P A C):=kE (fun i hi=>by
   have:i≠j:=by omega
   simp[aJ,dO _ _ _ this])
  rw[e];simpa [aJ,eO] using hv'
 ·intro i hi
  by_cases e:i=j
  ·subst e
   simp only[eO];exact aH (aS hown hB) hk (fun b hb hS=>aX k1 hown (by decide) hS hb)
  ·simp only[dO _ _ _ e]
   have k2:=aG (h2 i (by omega)) hbel
   exact aH k2 hk (fun b hb hS=>aX k1 k2 (by decide) hS hb)
 ·intro i i' g' hi hi' e1 e2
  by_cases e:i=j
  ·by_cases e':i'=j
   ·omega
   ·rw[e,eO]at e1
    rw[dO _ _ _ e']at e2;simp only[Option.map_some,Option.some.injEq]at e1;have:=hA i' g' (by omega) e2
    omega
  ·by_cases e':i'=j
   ·rw[dO _ _ _ e]at e1
    rw[e',eO]at e2;simp only[Option.map_some,Option.some.injEq]at e2;have:=hA i g' (by omega) e1
    omega
   ·rw[dO _ _ _ e]at e1
    rw[dO _ _ _ e']at e2;exact h3 i i' g' (by omega) (by omega) e1 e2
 ·intro i g' hi e1
  have hsz:=hk.size;by_cases e:i=j
  ·rw[e,eO]at e1
   simp only[Option.map_some,Option.some.injEq]at e1;omega
  ·rw[dO _ _ _ e]at e1
   have h5:=hA i g' (by omega) e1
   have:=hbel.size;omega
def oR (L:List Ch) (k:Int):List Int:=((L.find? fun p=>p.1==k).map Prod.snd).getD []
theorem wW:∀ {L:List Ch},(L.map Prod.fst).Nodup→∀ {p:Ch},p∈L→oR L p.1=p.2
 | [],_,p,hp=>by simp at hp
 | q :: L,hn,p,hp=>by
  rw[List.map_cons,List.nodup_cons]at hn;by_cases e:q.1=p.1
  ·rcases List.mem_cons.1 hp with rfl | hp'
   ·simp[oR]
   ·exact absurd (by rw[e];exact List.mem_map_of_mem hp') hn.1
  ·rcases List.mem_cons.1 hp with rfl | hp'
   ·exact absurd rfl e
   ·have:=wW hn.2 hp'
    unfold oR at this ⊢;rw[List.find?_cons_of_neg (by simpa using e)]
    exact this
def zo1 (L:List Ch) (ks:List Int):List Ch:=ks.map fun k=>(k,oR L k)
theorem ztd {L:List Ch} (hn:(L.map Prod.fst).Nodup):zo1 L (L.map Prod.fst)=L:=by
 unfold zo1;rw[List.map_map];have:∀ p∈L,((fun k=>(k,oR L k))∘Prod.fst) p=id p:=fun p hp=>by
  simp only[Function.comp,id,wW hn hp]
 rw[List.map_congr_left this,List.map_id]
def fD (L:List Ch):List Int:=(L.map Prod.fst).mergeSort fun x y=>decide (x≤y)
def up (L:List Ch):List Ch:=zo1 L (fD L)
theorem mA (L:List Ch):(fD L).Perm (L.map Prod.fst):=List.mergeSort_perm _ _
theorem zmk {L:List Ch} (hn:(L.map Prod.fst).Nodup):(up L).Perm L:=by
 have h:=(mA L).map fun k=>(k,oR L k)
 have e:(L.map Prod.fst).map (fun k=>(k,oR L k))=L:=ztd hn
 rw[e]at h;exact h
theorem zye {L:List Ch} (hn:(L.map Prod.fst).Nodup):(fD L).Pairwise (· < ·):=by
 have h1:(fD L).Pairwise (fun x y=>decide (x≤y)=true):=List.pairwise_mergeSort (fun a b c h1 h2=>by simp only[decide_eq_true_eq]at *;omega) (fun a b=>by simp only[Bool.or_eq_true,decide_eq_true_eq];omega) _
 have h2:(fD L).Nodup:=(mA L).nodup_iff.2 hn;have h3:(fD L).Pairwise (fun x y=>decide (x≤y)=true∧x≠y):=List.Pairwise.and h1 h2
 exact h3.imp (fun {a b} ⟨h4,h5⟩=>by simp only[decide_eq_true_eq]at h4;omega)
theorem zxl {L:List Ch} (hn:(L.map Prod.fst).Nodup):(up L).Pairwise (fun p q=>p.1<q.1):=by
 unfold up zo1;exact List.pairwise_map.2 (zye hn)
theorem zfg {M M':List Ch} (h:M.Perm M') (h1:M.Pairwise (fun p q=>p.1<q.1)) (h2:M'.Pairwise (fun p q=>p.1<q.1)):M=M' :=
 List.Perm.eq_of_pairwise (le:=fun p q=>p.1<q.1) (fun a b _ _ h3 h4=>by omega) h1 h2 h
theorem dT.keys {w:World} {b N:Nat} {L:List Ch} {T:Nat} (h:dT w b N L T):∃ Dt:DataW Value,w.ownsMap Tryz.prog 2 RV b N Dt∧size Dt=L.length∧(∀ ss:List Int,ss.Perm (intKeys Dt)→(ss.mergeSort fun x y=>decide (x≤y))=fD L∧ss.length=L.length)∧∀ x∈fD L,(Lit.int .i64 x).wf=true:=by
 obtain ⟨Dt,A,C,h1,h2,h3,h4,h5⟩:=h;have hp:(L.map Prod.fst).Perm (intKeys Dt):=CollectedI.perm (left:=fun _=>false) ⟨h5,fun x=>by rw[h2 x];simp⟩ h1 rL Tryz.underlying2 (fun _=>rfl)
 refine ⟨Dt,h1,h4,fun ss hs=>⟨mergeSort_of_perm_i (hs.trans hp.symm),by rw[(hs.trans hp.symm).length_eq,List.length_map]⟩,fun x hx=>?_⟩
 exact intKeys_wf h1 Tryz.underlying2 x (hp.subset ((mA L).subset hx))
theorem dT.nodup {w:World} {b N:Nat} {L:List Ch} {T:Nat} (h:dT w b N L T):(L.map Prod.fst).Nodup:=by
 obtain ⟨Dt,A,C,h1,h2,h3,h4,h5⟩:=h;exact h5
def dg (L:List Ch) (i:Nat):Int:=(L.getD i (0,[])).1
def bt (L:List Ch) (i:Nat):List Int:=(L.getD i (0,[])).2
theorem iH (L:List Ch):(fD L).length=L.length:=by rw[(mA L).length_eq,List.length_map]
theorem zwl {L:List Ch} {i:Nat} (hi:i<L.length):dg (up L) i=(fD L).getD i 0:=by
 have h:=iH L;have hi2:i<(fD L).length:=by omega
 simp[dg,up,zo1,List.getD_eq_getElem?_getD,hi2]
theorem zvl {L:List Ch} {i:Nat} (hi:i<L.length):bt (up L) i=oR L ((fD L).getD i 0):=by
 have h:=iH L;have hi2:i<(fD L).length:=by omega
 simp[bt,up,zo1,List.getD_eq_getElem?_getD,hi2]
theorem zl9 (b N:Nat) (L:List Ch) (T:Nat) (w:World) (h:dT w b N L T) (hL:L.length≤1048576) (hlen:∀ p∈L,0<p.2.length∧p.2.length≤1048576) (hT:T≤w.heap.size) :
  Calls Tryz.prog 64 #[.map (some b)] w fun e w'=>∃ a c,e=.returned (.slice a L.length c)∧GC w.heap.size w'.heap.size w' (.slice a L.length c) (dg (up L)) (bt (up L)) L.length∧Below w.heap.size w w':=by
 obtain ⟨i1,ki,kz0,kz1,kz2⟩:=info_parts Tryz.infoCh;obtain ⟨Dt,hown,hsize,hkeys,hwf⟩:=h.keys;have hnd:=h.nodup;have hbl:=h.lt;have HH:=aA h;have HO:=aA hown;have HK:=aA hkeys;have HWf:=aA hwf;have HLen:=aA hlen;have HND:=aA hnd;have hby:i1.bytes * L.length≤281474976710656:=by rw[kz2];omega
 have hml:L.length≤maxLen:=by unfold maxLen;omega
 have HSz:=aA hsize;clear h hown hkeys hwf hlen hnd hsize;go_enter Tryz.func64,Tryz.ntmps64;go_wp2_with (first | (at_len;refine wpList_len_own _ rfl _ 113 rfl 2 65 Tryz.underlying113 RV b N Dt rfl HO.out ?_;rw[HSz.out]) | (at_make;refine wpList_make_own _ rfl _ _ 52 rfl w.heap.size 65 i1 (.agg #[.int .i64 0,.slice none 0 0]) 2 Tryz.underlying52 ki kz0 kz1 .i64 .i64 _ L.length rfl rfl rfl hby hml (Nat.le_refl _) ?_;intro w1 ho1 hg1;have HO1:=aA ho1;have HG1:=aA hg1;clear ho1 hg1) | fail)
 refine (zih _ _).mono ?_;rintro e w2 ⟨rfl,rfl⟩;have B1:=aA ((Below.refl w.heap.size w).grown HG1.out (Nat.le_refl _) (fun k hk=>by simp at hk))
 have O1:=aA (HO.out.kept HG1.out (by simp))
 have H1:=aA (HH.out.below B1.out);clear HG1;have hs1:w.heap.size<w1.heap.size:=(HO1.out.lt w.heap.size rfl).2;go_wp2_with fail
 refine (zfd b N Dt RV w1 O1.out (by rw[HSz.out];exact hml) (by rw[HSz.out];omega)).mono ?_
 rintro e w3 ⟨v,ss,rfl,hp,hown3,b3⟩;obtain ⟨hks,hsl⟩:=HK.out ss hp;obtain ⟨av,cv,rfl⟩:=aQ hown3;rw[hks]at hown3;have R3:=aA (mC hown3 (by rw[hsl,iH])).reads
 have KR:Hid (w3.ownsRow w.heap.size 2 1 (.slice av L.length cv) L.length ((fD L).map (Value.int .i64))):=by rw[hsl]at hown3;exact aS hown3 (by simp;omega)
 have B31:=aA (aB (aC w1 (.cells #[.map (some b)] 113)) b3);have G3:=aA (aG HO1.out B31.out);have H3:=aA (H1.out.below B31.out);have B3:=aA (aB B1.out B31.out);rw[hsl];clear hown3 b3 hp hks HO1 H1 B1 B31 O1;have hs3:w.heap.size<w3.heap.size:=(G3.out.lt w.heap.size rfl).2;have K3:Hid (w3.ownsRow w.heap.size 2 1 (.slice av L.length cv) L.length ((fD L).map (Value.int .i64))):=KR.out;go_wp2
 go_loopw [3,5,13] (fun v _ i wr=>∃ j:Nat,j≤L.length∧i=.int .i64 j∧GC w.heap.size wr.heap.size wr v (dg (up L)) (bt (up L)) j∧wr.ownsRow w.heap.size 2 1 (.slice av L.length cv) L.length ((fD L).map (Value.int .i64))∧dT wr b N L T∧Below w.heap.size w wr) (fun _ _ i _=>L.length - (intOf i).toNat)
 case atStart=>exact ⟨0,Nat.zero_le _,rfl,⟨fun _=>none,fun _=>0,G3.out,fun i hi=>absurd hi (by omega),fun i i' g hi=>absurd hi (by omega),fun i g hi=>absurd hi (by omega),fun x hx=>(G3.out.lt x hx).2⟩,K3.out,H3.out,B3.out⟩
 case round =>
  obtain ⟨j,hj,rfl,hG,hKR,hH,hbel⟩:=hrel;obtain ⟨lv,lc,rfl⟩:=hG.shape;have HW:=aA hbel;have hsz:=hbel.size;clear R3 K3 G3 H3 B3;by_cases hlt:j<L.length
  ·obtain ⟨b2,o2,rfl,hb2,hc2⟩:=(mC hKR (iH L).symm).reads (by intro e;have:=iH L;rw[e]at this;simp at this;omega)
   have hc1:=hc2 j (by rw[iH];exact hlt)
   have hmem:(fD L).getD j 0∈fD L:=by
    have:j<(fD L).length:=by rw[iH];exact hlt
    rw[List.getD_eq_getElem?_getD,List.getElem?_eq_getElem this]
    exact List.getElem_mem this
   have hwz:=HWf.out _ hmem;have hd:=zwl hlt;have hb:=zvl hlt;obtain ⟨p,hp,hpk⟩:=List.mem_map.1 ((mA L).subset hmem);have hpv:=wW HND.out hp;have hpl:=HLen.out p hp;have hpair:((fD L).getD j 0,oR L ((fD L).getD j 0))∈L:=by rw[←hpk,hpv];exact hp
   rw[←hpv,hpk]at hpl;generalize (fD L).getD j 0=z at *;generalize hxs:oR L z=xs at *;clear hxs hpv;obtain ⟨a3,c3,hrun,hr3,-⟩:=hH.yes hpair hwz 113 Tryz.underlying113;have HL:=aA (hrun false);obtain ⟨b3,o3,rfl,hb3,hc3⟩:=hr3 (by intro e;rw[e]at hpl;simp at hpl)
   obtain ⟨A,C,h1,h2,h3,h4,h5⟩:=hG;have HDB:=aA (And.intro hd hb);have HC3:=aA hc3;have HA1:=aA h1;have HA2:=aA h2;have HA3:=aA h3;have HKR:=aA hKR;have HHw:=aA hH;have hm1:j+1≤maxLen:=by unfold maxLen;omega
   have hm2:(j+1) * 32≤140737488355328:=by omega
   have hfd:∀ u:World,(Instr.field 65 (.agg #[.int .i64 z,.slice (some ⟨b3,o3,none⟩) xs.length c3]) 1).run Tryz.prog u=.ok (.slice (some ⟨b3,o3,none⟩) xs.length c3) u:=fun _=>by kernel_rfl
   clear hc2 hmem hpk hp hpair hrun hr3 hc3 h1 h2 h3 h4 h5 hKR hH hbel hd hb;go_wp2_with (first | (at_lookup;refine zv9 rfl _ _ 113 false rfl _ _ _ rfl rfl HL.out ?_;simp only[chv,Bool.false_eq_true,if_false]) | (go_at_call 109;refine (zud b3 o3 c3 xs wr HC3.out hb3 hpl.1 hpl.2 _ rfl).mono ?_;rintro e w4 ⟨g,cc,rfl,hown4,hg4,hgl4,hbel4⟩;have k1:=aA (aG HA1.out hbel4);have O4:=aA hown4;have B4:=aA hbel4;have hsz4:w.heap.size≤w4.heap.size:=Nat.le_trans hsz hbel4.size;clear hown4 hbel4) | (at_builtin;refine bS rfl (.tmp 17) (.tmp 25) 52 rfl w.heap.size 65 i1 (.agg #[.int .i64 0,.slice none 0 0]) 2 32 Tryz.underlying52 ki kz0 kz1 kz2 rfl (by decide) _ _ _ rfl k1.out rfl rfl (by intro u hu;simp at hu;rcases hu with rfl | rfl <;> rfl) hm1 hm2 hsz4 ?_;intro v' w5 hown5 hkept;have O5:=aA hown5;have K5:=aA hkept;clear hown5 hkept) | fail)
   go_roundw
   case rel =>
    have hS:∀ x,(Value.slice lv j lc).ownBlock=some x→w.heap.size≤x:=fun x hx=>(k1.out.lt x hx).1
    refine ⟨j+1,by omega,by go_num,?_,?_,?_,?_⟩
    ·refine (GC.push HA1.out HA2.out HA3.out hsz B4.out O4.out O5.out K5.out).congr (fun i hi=>?_) (fun i hi=>?_)
     ·by_cases e:i=j
      ·subst e;rw[eO];exact HDB.out.1
      ·rw[dO _ _ _ e]
     ·by_cases e:i=j
      ·subst e;rw[eO];exact HDB.out.2
      ·rw[dO _ _ _ e]
    ·have k2:=aG HKR.out B4.out
     exact aH k2 K5.out (fun x hx hS'=>aX k1.out k2 (by decide) hS' hx)
    ·exact (HHw.out.below B4.out).kept K5.out (fun hx=>by have:=hS _ hx;omega) (fun x hx=>by have:=hS x hx;omega)
    ·exact (lY HW.out B4.out).trans (K5.out.below hsz4 (fun k hk hx=>by have:=hS k hx;omega))
   case measure=>simp[intOf];omega
  ·have hje:j=L.length:=by omega
   subst hje;have HG:=aA hG;clear hG hKR hH hbel;go_wp2
   go_ret
   exact ⟨_,_,rfl,HG.out,HW.out⟩
end Go.Proofs.YtgaeikgoknoamaaGreat
