/-
  Texts put together: IteH SnqU.
-/
import Derived.Test.YtgaeikgoknoamaaGreatKCollec3
import Derived.Test.YtgaeikgoknoamaaGreatKCollec6
import Derived.Test.YtgaeikgoknoamaaGreatKCollec24
set_option linter.unusedVariables false
set_option maxHeartbeats 1600000
set_option maxRecDepth 100000
namespace Go.Proofs.YtgaeikgoknoamaaGreat
open Go.RowKit
theorem zwb (a b:Option Addr) (ca cb:Nat) (xs ys:List Int) (w:World) (ha:aZ .i64 w a xs) (hb:aZ .i64 w b ys) (hl:xs.length≤1048576) (hl2:ys.length≤1048576) :
  Calls Tryz.prog 135 #[.slice a xs.length ca,.slice b ys.length cb] w fun e w'=>e=.returned (.bool (xs==ys))∧∃ n,w'=w.drewN n:=by
 by_cases hlen:xs.length=ys.length
 ·have hne:((xs.length:Int) != (ys.length:Int))=false:=by simp[hlen]
  go_enter Tryz.func135,Tryz.ntmps135;go_wp2
  go_loopw [13] (fun i wr=>∃ k:Nat,k≤xs.length∧i=.int .i64 k∧xs.take k=ys.take k∧∃ n,wr=w.drewN n) (fun i _=>xs.length - (intOf i).toNat)
  case atStart=>exact ⟨0,Nat.zero_le _,rfl,rfl,0,rfl⟩
  case round =>
   obtain ⟨k,hk,rfl,htk,n,rfl⟩:=hrel;have HT:=aA htk;clear htk;by_cases hlt:k<xs.length
   ·obtain ⟨b1,o1,rfl,hb1,hc1⟩:=ha (by intro e;simp[e]at hlt)
    obtain ⟨b2,o2,rfl,hb2,hc2⟩:=hb (by intro e;rw[e]at hlen;simp at hlen;simp[hlen]at hlt)
    obtain ⟨x,hx⟩:∃ x,x=xs.getD k 0:=⟨_,rfl⟩;obtain ⟨y,hy⟩:∃ y,y=ys.getD k 0:=⟨_,rfl⟩;have c1:w.cell? ⟨b1,o1+k,none⟩=some (.int .i64 x):=by rw[hx];exact hc1 k hlt
    have c2:w.cell? ⟨b2,o2+k,none⟩=some (.int .i64 y):=by rw[hy];exact hc2 k (by omega)
    have HX:=aA hx;have HY:=aA hy;clear hc1 hc2 ha hb hx hy;have hk2:k<ys.length:=by omega
    by_cases heq:x=y
    ·have hb:(x != y)=false:=by simp[heq]
     have HE:=aA heq;clear heq;go_wp2
     go_quiet (fail)
     go_wp2
     go_roundw
     case rel=>exact ⟨k+1,by omega,by go_num,zq5 hlt hk2 HT.out (by rw[←HX.out,←HY.out];exact HE.out),_,rfl⟩
     case measure=>simp[intOf];omega
    ·have hb:(x != y)=true:=by simp[heq]
     go_wp2
     go_quiet (fail)
     go_wp2
     go_ret
     exact ⟨cE (zoa (k:=k) (by rw[←HX.out,←HY.out];exact heq)).symm,_,World.drewN_drewN _ _ _⟩
   ·go_wp2
    go_ret
    exact ⟨cE (ze9 (k:=k) (by omega) (by omega) HT.out).symm,_,rfl⟩
 ·have hne:((xs.length:Int) != (ys.length:Int))=true:=by simp;omega
  go_enter Tryz.func135,Tryz.ntmps135;go_wp2
  go_ret
  have e:(xs==ys)=false:=by simp;intro e;exact hlen (by rw[e])
  exact ⟨cE e.symm,0,rfl⟩
theorem zq2 (z y:Int) (a b:Option Addr) (ca cb:Nat) (xs ys:List Int) (w:World) (ha:aZ .i64 w a xs) (hb:aZ .i64 w b ys) (hl:xs.length≤1048576) (hl2:ys.length≤1048576) :
  Calls Tryz.prog 88 #[.agg #[.int .i64 z,.slice a xs.length ca],.agg #[.int .i64 y,.slice b ys.length cb]] w fun e w'=>e=.returned (.bool (decide (z=y)&&(xs==ys)))∧Below w.heap.size w w':=by
 have HB:=aA (aB (aC w (.cells #[.int .i64 z,.slice a xs.length ca] 89)) (aC _ (.cells #[.int .i64 y,.slice b ys.length cb] 89)));have HR:=aA ha;have HR2:=aA hb;clear ha hb;by_cases h:z=y
 ·have hb:(z==y)=true:=by simp[h]
  have HE:=aA (show (decide (z=y)&&(xs==ys))=(xs==ys) from by simp[h])
  clear h;rw[HE.out];obtain ⟨Z,hZ⟩:∃ Z:Bool,Z=(xs==ys):=⟨_,rfl⟩;rw[←hZ];have HZ:=aA hZ;clear hZ HE;go_enter Tryz.func88,Tryz.ntmps88;go_wp2_with fail
  refine (zwb a b ca cb xs ys _ (HR.out.below HB.out) (HR2.out.below HB.out) hl hl2).mono ?_;rintro r w1 ⟨rfl,n,rfl⟩;rw[←HZ.out];go_wp2_with fail
  cases Z
  ·go_ret
   exact ⟨rfl,below_drewN HB.out n⟩
  ·go_ret
   exact ⟨rfl,below_drewN HB.out n⟩
 ·have hb:(z==y)=false:=by simp[h]
  have HE:=aA (show (decide (z=y)&&(xs==ys))=false from by simp[h])
  clear h;rw[HE.out];go_enter Tryz.func88,Tryz.ntmps88;go_wp2_with fail
  go_ret
  exact ⟨rfl,HB.out⟩
theorem zng (e f:En) (a b:Option Addr) (ca cb:Nat) (w:World) (ha:aZ .i64 w a e.chunks) (hb:aZ .i64 w b f.chunks) (hl:e.chunks.length≤1048576) (hl2:f.chunks.length≤1048576) :
  Calls Tryz.prog 46 #[.agg #[.int .i64 e.size,.slice a e.chunks.length ca,.string (str e.path),.int .i64 e.kind],.agg #[.int .i64 f.size,.slice b f.chunks.length cb,.string (str f.path),.int .i64 f.kind]] w fun r w'=>r=.returned (.bool (decide (e=f)))∧Below w.heap.size w w':=by
 have HB:=aA (aB (aC w (.cells #[.int .i64 e.size,.slice a e.chunks.length ca,.string (str e.path),.int .i64 e.kind] 91)) (aC _ (.cells #[.int .i64 f.size,.slice b f.chunks.length cb,.string (str f.path),.int .i64 f.kind] 91)));have HR:=aA ha;have HR2:=aA hb;clear ha hb;by_cases hp:e.path=f.path
 ·have hs1:=iD hp
  by_cases hk:e.kind=f.kind
  ·have hk1:(e.kind==f.kind)=true:=by simp[hk]
   have HE:=aA (show decide (e=f)=(decide (e.size=f.size)&&(e.chunks==f.chunks)) from by
    by_cases h1:e.size=f.size
    ·by_cases h2:e.chunks=f.chunks
     ·rw[decide_eq_true (En.same hp hk h1 h2)];simp[h1,h2]
     ·rw[decide_eq_false (fun x=>h2 (by rw[x]))];simp[h2]
    ·rw[decide_eq_false (fun x=>h1 (by rw[x]))];simp[h1])
   clear hp hk;generalize decide (e=f)=Z at HE ⊢;go_enter Tryz.func46,Tryz.ntmps46;go_wp2_with fail
   refine (zq2 _ _ a b ca cb e.chunks f.chunks _ (HR.out.below HB.out) (HR2.out.below HB.out) hl hl2).mono ?_;rintro r w1 ⟨rfl,hb1⟩;rw[←HE.out];have HB1:=aA (aB HB.out hb1);clear hb1 HE;go_wp2_with fail
   cases Z
   ·go_ret
    exact ⟨rfl,HB1.out⟩
   ·go_ret
    exact ⟨rfl,HB1.out⟩
  ·have hk1:(e.kind==f.kind)=false:=by simp[hk]
   have HE:=aA (show decide (e=f)=false from decide_eq_false (fun x=>hk (by rw[x])))
   clear hp hk;generalize decide (e=f)=Z at HE ⊢;go_enter Tryz.func46,Tryz.ntmps46;go_wp2_with fail
   go_ret
   exact ⟨cE HE.out.symm,HB.out⟩
 ·have hs1:=jK hp
  have HE:=aA (show decide (e=f)=false from decide_eq_false (fun x=>hp (by rw[x])))
  clear hp;generalize decide (e=f)=Z at HE ⊢;go_enter Tryz.func46,Tryz.ntmps46;go_wp2_with fail
  go_ret
  exact ⟨cE HE.out.symm,HB.out⟩
theorem zl7 (e f:En) (a b:Option Addr) (ca cb:Nat) (w:World) (ha:aZ .i64 w a e.chunks) (hb:aZ .i64 w b f.chunks) (hl:e.chunks.length≤1048576) (hl2:f.chunks.length≤1048576) :
  Calls Tryz.prog 44 #[.agg #[.string (str e.path),.int .i64 e.kind,.int .i64 e.size,.slice a e.chunks.length ca],.agg #[.string (str f.path),.int .i64 f.kind,.int .i64 f.size,.slice b f.chunks.length cb]] w fun r w'=>r=.returned (.bool (decide (e=f)))∧Below w.heap.size w w':=by
 have HB:=aA (aB (aC w (.cells #[.string (str e.path),.int .i64 e.kind,.int .i64 e.size,.slice a e.chunks.length ca] 87)) (aC _ (.cells #[.string (str f.path),.int .i64 f.kind,.int .i64 f.size,.slice b f.chunks.length cb] 87)));have F1:=aA ((cP.new w (.string (str e.path)) (.int .i64 e.kind) (.int .i64 e.size) (.slice a e.chunks.length ca) 87).below (aC _ (.cells #[.string (str f.path),.int .i64 f.kind,.int .i64 f.size,.slice b f.chunks.length cb] 87)));have F2:=aA (cP.new (w.alloc (.cells #[.string (str e.path),.int .i64 e.kind,.int .i64 e.size,.slice a e.chunks.length ca] 87)) (.string (str f.path)) (.int .i64 f.kind) (.int .i64 f.size) (.slice b f.chunks.length cb) 87)
 have h1:(w.alloc (.cells #[.string (str e.path),.int .i64 e.kind,.int .i64 e.size,.slice a e.chunks.length ca] 87)).heap.size=w.heap.size+1:=by simp
 rw[h1]at F2;clear h1;have HR:=aA (ha.below HB.out);have HR2:=aA (hb.below HB.out);clear ha hb;obtain ⟨Z,hZ⟩:∃ Z:Bool,Z=decide (e=f):=⟨_,rfl⟩;rw[←hZ];have HZ:=aA hZ;clear hZ;go_enter Tryz.func44,Tryz.ntmps44;go_wp2_with fail
 generalize (w.alloc (.cells #[.string (str e.path),.int .i64 e.kind,.int .i64 e.size,.slice a e.chunks.length ca] 87)).alloc (.cells #[.string (str f.path),.int .i64 f.kind,.int .i64 f.size,.slice b f.chunks.length cb] 87)=W at *;have KC:Hid (∀ w':World,Below W.heap.size W w'→(w'.cell? ⟨w.heap.size,0,none⟩=some (.string (str e.path))∧w'.cell? ⟨w.heap.size,1,none⟩=some (.int .i64 e.kind)∧w'.cell? ⟨w.heap.size,2,none⟩=some (.int .i64 e.size)∧w'.cell? ⟨w.heap.size,3,none⟩=some (.slice a e.chunks.length ca))∧w'.cell? ⟨w.heap.size+1,0,none⟩=some (.string (str f.path))∧w'.cell? ⟨w.heap.size+1,1,none⟩=some (.int .i64 f.kind)∧w'.cell? ⟨w.heap.size+1,2,none⟩=some (.int .i64 f.size)∧w'.cell? ⟨w.heap.size+1,3,none⟩=some (.slice b f.chunks.length cb)):=aA (fun w' hb=>⟨F1.out.below hb,F2.out.below hb⟩)
 obtain ⟨p0,p1,p2,p3⟩:=F1.out;obtain ⟨q0,q1,q2,q3⟩:=F2.out;go_region_held3 (fun w'=>(w'.cell? ⟨w.heap.size,0,none⟩=some (.string (str e.path))∧w'.cell? ⟨w.heap.size,1,none⟩=some (.int .i64 e.kind)∧w'.cell? ⟨w.heap.size,2,none⟩=some (.int .i64 e.size)∧w'.cell? ⟨w.heap.size,3,none⟩=some (.slice a e.chunks.length ca))∧w'.cell? ⟨w.heap.size+1,0,none⟩=some (.string (str f.path))∧w'.cell? ⟨w.heap.size+1,1,none⟩=some (.int .i64 f.kind)∧w'.cell? ⟨w.heap.size+1,2,none⟩=some (.int .i64 f.size)∧w'.cell? ⟨w.heap.size+1,3,none⟩=some (.slice b f.chunks.length cb)) (first | exact KC.out _ BB3.out | exact KC.out _ BB2.out | exact KC.out _ BB1.out | go_keep)
  ((
   first
   | (go_at_call 45;refine (jS _ _ _ _ _ _ _).mono ?_;rintro r w2 ⟨rfl,hb2⟩;have BB2:=aA (aB BB1.out hb2);clear hb2)
   | (go_at_call 45;refine (jS _ _ _ _ _ _ _).mono ?_;rintro r w1 ⟨rfl,hb1⟩;have BB1:=aA ((Below.refl W.heap.size W).drew.trans hb1);clear hb1)
   | (go_at_call 46;refine (zng e f _ _ _ _ _ (HR.out.below BB2.out) (HR2.out.below BB2.out) hl hl2).mono ?_;rintro r w3 ⟨rfl,hb3⟩;rw[←HZ.out];have BB3:=aA (aB BB2.out hb3);clear hb3)))
 go_wp2_with fail
 go_ret
 exact ⟨rfl,aB HB.out BB3.out⟩
theorem zh2 (a b:Option Addr) (c d n m:Nat) (es fs:List En) (w:World) (h:RdE w a es) (h2:RdE w b fs) (hn:n=es.length) (hm:m=fs.length) (hl:es.length≤1048576) (hl2:fs.length≤1048576) (hs:bJ es) (hs2:bJ fs) :
  Calls Tryz.prog 43 #[.slice a n c,.slice b m d,.func (.func 44) #[] #[]] w fun r w'=>r=.returned (.bool (decide (es=fs)))∧Below w.heap.size w w':=by
 subst hn hm;obtain ⟨Z,hZ⟩:∃ Z:Bool,Z=decide (es=fs):=⟨_,rfl⟩;rw[←hZ];have HZ:=aA hZ;clear hZ;have HA:=aA h;have HB:=aA h2;have HS:=aA hs;have HS2:=aA hs2;clear h h2 hs hs2;by_cases hlen:es.length=fs.length
 ·have hne:((es.length:Int) != (fs.length:Int))=false:=by simp[hlen]
  have HL:=aA hlen;clear hlen;go_enter Tryz.func43,Tryz.ntmps43;go_wp2_with fail
  go_loopw [17] (fun i wr=>∃ k:Nat,k≤es.length∧i=.int .i64 k∧Hid (es.take k=fs.take k)∧Hid (Below w.heap.size w wr)) (fun i _=>es.length - (intOf i).toNat)
  case atStart=>exact ⟨0,Nat.zero_le _,rfl,aA rfl,aA (Below.refl _ _)⟩
  case round =>
   obtain ⟨k,hk,rfl,HT,HW⟩:=hrel;by_cases hlt:k<es.length
   ·obtain ⟨b1,o1,e,x1,c1,rfl,hb1,he,p0,p1,p2,p3,r1⟩:=(HA.out.below HW.out).at hlt
    obtain ⟨b2,o2,f,x2,c2,rfl,hb2,hf,q0,q1,q2,q3,r2⟩:=(HB.out.below HW.out).at (show k<fs.length by have:=HL.out;omega)
    have hsm:=HS.out e (List.mem_of_getElem? he);have hsm2:=HS2.out f (List.mem_of_getElem? hf);have HX:=aA he;have HX2:=aA hf;have R1:=aA r1;have R2:=aA r2;clear he hf r1 r2;have hkl:(k:Int)<(fs.length:Int):=by have:=HL.out;omega
    have BA:=aA (aB (aC wr (.cells #[.string (str e.path),.int .i64 e.kind,.int .i64 e.size,.slice x1 e.chunks.length c1] 87)) (aC _ (.cells #[.string (str f.path),.int .i64 f.kind,.int .i64 f.size,.slice x2 f.chunks.length c2] 87)));go_wp2_with fail
    refine (zl7 e f _ _ _ _ _ (R1.out.below BA.out) (R2.out.below BA.out) hsm.2 hsm2.2).mono ?_;rintro r w3 ⟨rfl,hb3⟩;have HW3:=aA (aB HW.out (aB BA.out hb3));clear hb3 p0 p1 p2 p3 q0 q1 q2 q3;by_cases hef:e=f
    ·rw[decide_eq_true hef]
     have HT2:=aA (zee HX.out HX2.out HT.out hef);clear hef;go_wp2_with fail
     go_roundw
     case rel=>exact ⟨k+1,by omega,by go_num,HT2,HW3⟩
     case measure=>simp[intOf];omega
    ·rw[decide_eq_false hef]
     have HE:=aA (show Z=false from by rw[HZ.out];exact zzi HX.out HX2.out hef)
     clear hef;go_wp2_with fail
     go_ret
     exact ⟨cE HE.out.symm,HW3.out⟩
   ·have hke:k=es.length:=by omega
    have HE:=aA (show Z=true from by rw[HZ.out];exact decide_eq_true (zfb HT.out (by omega) (by have:=HL.out;omega)))
    clear hke;go_wp2_with fail
    go_ret
    exact ⟨cE HE.out.symm,HW.out⟩
 ·have hne:((es.length:Int) != (fs.length:Int))=true:=by simp;omega
  have HE:=aA (show Z=false from by rw[HZ.out];exact decide_eq_false (fun x=>hlen (by rw[x])))
  clear hlen;go_enter Tryz.func43,Tryz.ntmps43;go_wp2_with fail
  go_ret
  exact ⟨cE HE.out.symm,Below.refl _ _⟩
theorem tY (a b:Option Addr) (c d n m:Nat) (es fs:List En) (w:World) (h:RdE w a es) (h2:RdE w b fs) (hn:n=es.length) (hm:m=fs.length) (hl:es.length≤1048576) (hl2:fs.length≤1048576) (hs:bJ es) (hs2:bJ fs) :
  Calls Tryz.prog 15 #[.slice a n c,.slice b m d] w fun r w'=>r=.returned (.bool (decide (es=fs)))∧Below w.heap.size w w':=by
 have HF:=aA (zh2 a b c d n m es fs w h h2 hn hm hl hl2 hs hs2);clear h h2 hn hm hl hl2 hs hs2;generalize decide (es=fs)=Z at HF ⊢;go_enter Tryz.func15,Tryz.ntmps15;go_wp2_with fail
 refine HF.out.mono ?_;rintro r w1 ⟨rfl,hb⟩;have HB:=aA hb;clear hb;go_wp2_with fail
 go_ret
 exact ⟨rfl,HB.out⟩
end Go.Proofs.YtgaeikgoknoamaaGreat
namespace Go.Proofs.YtgaeikgoknoamaaGreat
theorem zi5 {ls:List (List En)} (h:cL ls=0):mE ls:=fun es he=>by
 have hr:=(fM.1 h).2 es he;exact ⟨by have:=hr.len;omega,cS hr⟩
theorem zed {ls:List (List En)} (h:cL ls=0):(mK ls).length≤40∧bJ (mK ls):=by
 by_cases h0:lA ls=0
 ·have ht:=zqf h0
  rw[mK,if_pos h0];exact ⟨(mM.1 ht).2,(mM.1 ht).1.fit.small⟩
 ·rw[mK,if_neg h0]
  exact ⟨by simp,fun e he=>by simp at he⟩
end Go.Proofs.YtgaeikgoknoamaaGreat
