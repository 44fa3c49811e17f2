/-
  Texts put together: TreR EntH TreN TreC EntY EntT Draw DrawP DrawS DrawE.
-/
import Derived.Test.YtgaeikgoknoamaaGreatKCollec4
import Derived.Test.YtgaeikgoknoamaaGreatKCollec1
import Derived.Test.YtgaeikgoknoamaaGreatKCollec8
import Derived.Test.YtgaeikgoknoamaaGreatKCollec5
import Derived.Test.YtgaeikgoknoamaaGreatKCollec6
set_option linter.unusedVariables false
set_option maxHeartbeats 3200000
set_option maxRecDepth 100000
namespace Go.Proofs.YtgaeikgoknoamaaGreat
open Go.RowKit Go.Maps
def dE (w:World) (b:Nat) (u0 u1 u2:Value):Prop:=(w.cell? ⟨b,0,none⟩=some u0∧w.cell? ⟨b,1,none⟩=some u1∧w.cell? ⟨b,2,none⟩=some u2)∧w.frozen? ⟨b,0,none⟩=false∧w.frozen? ⟨b,1,none⟩=false∧w.frozen? ⟨b,2,none⟩=false
theorem dE.new (w:World) (u0 u1 u2:Value) (t:TypeId):dE (w.alloc (.cells #[u0,u1,u2] t)) w.heap.size u0 u1 u2:=⟨⟨by simp,by simp,by simp⟩,by simp,by simp,by simp⟩
theorem dE.lt {w:World} {b:Nat} {u0 u1 u2:Value} (h:dE w b u0 u1 u2):b<w.heap.size:=World.block_lt_of_cell? w ⟨b,0,none⟩ h.1.1
theorem dE.kept {S:Nat→Prop} {w w':World} {b:Nat} {u0 u1 u2:Value} (h:dE w b u0 u1 u2) (hk:aE S w w') (hn:¬ S b):dE w' b u0 u1 u2 :=
 ⟨⟨(hk.cell (p:=⟨b,0,none⟩) h.lt hn).trans h.1.1,(hk.cell (p:=⟨b,1,none⟩) h.lt hn).trans h.1.2.1,(hk.cell (p:=⟨b,2,none⟩) h.lt hn).trans h.1.2.2⟩,(hk.frozen (p:=⟨b,0,none⟩) h.lt hn).trans h.2.1,(hk.frozen (p:=⟨b,1,none⟩) h.lt hn).trans h.2.2.1,(hk.frozen (p:=⟨b,2,none⟩) h.lt hn).trans h.2.2.2⟩
theorem dE.below {w w':World} {b:Nat} {u0 u1 u2:Value} (h:dE w b u0 u1 u2) (hk:Below w.heap.size w w'):dE w' b u0 u1 u2:=h.kept (S:=fun _=>False) (aE.of_below hk) id
theorem aE.three (w:World) (b:Nat) (u0 u1 u2:Value):aE (fun x=>x=b) w (((w.setCell ⟨b,0,none⟩ u0).setCell ⟨b,1,none⟩ u1).setCell ⟨b,2,none⟩ u2) :=
 aE.setCell (S:=fun x=>x=b) (p:=⟨b,2,none⟩) (aE.two w b 0 1 u0 u1) (fun _=>rfl) u2
def mT (q rep:Int) (es:List En) (w:World) (r:Ending) (w':World):Prop :=
 ∃ av cv,r=.returned (.agg #[.int .i64 q,.int .i64 rep,.slice av es.length cv])∧GE w.heap.size w'.heap.size w' (.slice av es.length cv) es∧Below w.heap.size w w'
theorem mT.of {q rep:Int} {es:List En} {w w3:World} {B b n:Nat} {av:Option Addr} {cv:Nat} {u0 u1 u2:Value} (hB:b<B) (hw:w.heap.size≤b) (hn:n=es.length) (hG:GE B w3.heap.size w3 (.slice av n cv) es) (hb:Below w.heap.size w w3) :
  mT q rep es w (.returned (.agg #[.int .i64 q,.int .i64 rep,.slice av n cv])) (((w3.setCell ⟨b,0,none⟩ u0).setCell ⟨b,1,none⟩ u1).setCell ⟨b,2,none⟩ u2):=by
 subst hn;refine ⟨av,cv,rfl,?_,((hb.setCell hw _).setCell hw _).setCell hw _⟩;have hs:(((w3.setCell ⟨b,0,none⟩ u0).setCell ⟨b,1,none⟩ u1).setCell ⟨b,2,none⟩ u2).heap.size=w3.heap.size:=by simp[World.setCell]
 rw[hs];exact (hG.kept (aE.three w3 b u0 u1 u2) (fun x h1 _ h2=>by omega)).mono (by omega)
theorem mT.bad {q rep:Int} {w w3:World} {b:Nat} {u0 u1 u2:Value} (hw:w.heap.size≤b) (hb:Below w.heap.size w w3) :
  mT q rep [] w (.returned (.agg #[.int .i64 q,.int .i64 rep,.slice none 0 0])) (((w3.setCell ⟨b,0,none⟩ u0).setCell ⟨b,1,none⟩ u1).setCell ⟨b,2,none⟩ u2) :=
 ⟨none,0,rfl,GE.nil _ _ _,((hb.setCell hw _).setCell hw _).setCell hw _⟩
def mD (q:Int) (ns:List Bs) (w:World) (r:Ending) (w':World):Prop :=
 ∃ av cv,r=.returned (.agg #[.int .i64 q,.slice av ns.length cv])∧bR w.heap.size w' (.slice av ns.length cv) ns∧Below w.heap.size w w'
theorem mD.of {q:Int} {ns:List Bs} {w w3:World} {B b n:Nat} {av:Option Addr} {cv:Nat} {u v:Value} (hB:b<B) (hw:w.heap.size≤b) (hn:n=ns.length) (hG:bR B w3 (.slice av n cv) ns) (hb:Below w.heap.size w w3) :
  mD q ns w (.returned (.agg #[.int .i64 q,.slice av n cv])) ((w3.setCell ⟨b,0,none⟩ u).setCell ⟨b,1,none⟩ v):=by
 subst hn;exact ⟨av,cv,rfl,(hG.kept (aE.two w3 b 0 1 u v) (fun x h1 h2=>by have:=(hG.lt x h1).1;omega)).mono (by omega),(hb.setCell hw _).setCell hw _⟩
theorem zq3 {ms:List Int} {z:Int} (h:∀ j,j<ms.length→ms.getD j 0≠z):ms.contains z=false:=by
 simp only[List.contains_eq_mem,decide_eq_false_iff_not];intro hm;obtain ⟨j,hj,e⟩:=List.mem_iff_getElem.1 hm;exact h j hj (by simp[List.getD_eq_getElem?_getD,hj,e])
theorem zd8 {ms:List Int} {z:Int} {j:Nat} (hj:j<ms.length) (h:ms.getD j 0=z):ms.contains z=true:=by
 simp only[List.contains_eq_mem,decide_eq_true_eq];have:ms.getD j 0=ms[j]:=by simp[List.getD_eq_getElem?_getD,hj]
 rw[←h,this];exact List.getElem_mem hj
theorem zB (a:Option Addr) (c:Nat) (ms:List Int) (z:Int) (w:World) (h:aZ .i64 w a ms) (hl:ms.length≤1048576) :
  Calls Tryz.prog 95 #[.slice a ms.length c,.int .i64 z] w fun e w'=>e=.returned (.bool (ms.contains z))∧w'=w:=by
 have HA:=aA h;clear h;generalize hr:ms.contains z=r;have HR:=aA hr;clear hr;go_enter Tryz.func95,Tryz.ntmps95;go_wp2
 go_loop [5] (fun i=>∃ k:Nat,k≤ms.length∧i=.int .i64 k∧∀ j,j<k→ms.getD j 0≠z) (fun i=>ms.length - (intOf i).toNat)
 case atStart=>exact ⟨0,Nat.zero_le _,rfl,fun j hj=>absurd hj (by omega)⟩
 case round =>
  obtain ⟨k,hk,rfl,hF⟩:=hrel;have HF:=aA hF;clear hF;by_cases hlt:k<ms.length
  ·obtain ⟨b,off,rfl,hb1,hc⟩:=HA.out (by intro e;simp[e]at hlt)
   have hc1:=hc k hlt;generalize hy:ms.getD k 0=y at hc1;have HY:=aA hy;clear hy hc;by_cases e:y=z
   ·have e':(y==z)=true:=by simpa using e
    have HE:=aA e;clear e;go_wp2
    go_ret
    exact ⟨cE (by rw[←HR.out];exact (zd8 hlt (HY.out.trans HE.out)).symm),rfl⟩
   ·have e':(y==z)=false:=by simpa using e
    go_wp2
    go_round
    case rel=>exact ⟨k+1,by omega,by go_num,fun j hj=>by
     by_cases ej:j=k
     ·subst ej;rw[HY.out];exact e
     ·exact HF.out j (by omega)⟩
    case measure=>simp[intOf];omega
  ·go_wp2
   go_ret
   exact ⟨cE (by rw[←HR.out];exact (zq3 (fun j hj=>HF.out j (by omega))).symm),rfl⟩
def dW (acc:List Int) (z:Int):List Int:=if acc.contains z then acc else acc ++ [z]
def dU (zs:List Int):List Int:=zs.foldl dW []
def eF (es:List En):List Int:=es.flatMap En.chunks
theorem zG (zs:List Int) (z:Int):dU (zs ++ [z])=dW (dU zs) z:=by simp[dU]
theorem xQ (zs:List Int):(dU zs).length≤zs.length:=by
 suffices ∀ (zs acc:List Int),(zs.foldl dW acc).length≤acc.length+zs.length by simpa [dU] using this zs []
 intro zs
 induction zs with
 | nil=>intro acc;simp
 | cons z r ih =>
  intro acc;have h1:=ih (dW acc z);have h2:(dW acc z).length≤acc.length+1:=by unfold dW;split <;> simp
  simp only[List.foldl_cons,List.length_cons];omega
def jW (es:List En) (j:Nat) (e:En) (k:Nat):List Int:=eF (es.take j)++e.chunks.take k
theorem zy1 {es:List En} {j k:Nat} {e:En} {z:Int} (h:e.chunks[k]?=some z):jW es j e (k+1)=jW es j e k ++ [z]:=by
 unfold jW;rw[bQ h,List.append_assoc]
theorem zs5 {es:List En} {j k:Nat} {e:En} (he:es[j]?=some e) (hk:e.chunks.length≤k):jW es j e k=eF (es.take (j+1)):=by
 unfold jW;rw[List.take_of_length_le hk,bQ he];simp[eF]
theorem zz1 (es:List En) (j:Nat) (e:En):jW es j e 0=eF (es.take j):=by simp[jW]
theorem xD {es:List En} (h:∀ e∈es,e.chunks.length≤1024):(eF es).length≤es.length * 1024:=by
 induction es with
 | nil=>simp[eF]
 | cons e r ih =>
  have h1:=ih (fun x hx=>h x (List.mem_cons_of_mem _ hx))
  have h2:=h e (List.mem_cons_self ..);simp only[eF,List.flatMap_cons,List.length_append,List.length_cons]at h1 ⊢;omega
theorem zb4 (a:Option Addr) (c n:Nat) (es:List En) (w:World) (h:RdE w a es) (hn:n=es.length) (hl:es.length≤512) (hs:∀ e∈es,e.chunks.length≤1024) :
  Calls Tryz.prog 94 #[.slice a n c] w fun r w'=>∃ v,r=.returned v∧w'.ownsRow w.heap.size 2 1 v (dU (eF es)).length ((dU (eF es)).map (Value.int .i64))∧Below w.heap.size w w':=by
 subst hn;obtain ⟨i0,hi0,hz0,hz1,hz2⟩:=info_parts Tryz.infoI64;have HA:=aA h;have HS:=aA hs;clear h hs;go_enter Tryz.func94,Tryz.ntmps94;go_wp2_with fail
 go_loopw [3,4] (fun v i wr=>∃ j:Nat,j≤es.length∧i=.int .i64 j∧Hid (wr.ownsRow w.heap.size 2 1 v (dU (eF (es.take j))).length ((dU (eF (es.take j))).map (Value.int .i64)))∧Hid (Below w.heap.size w wr)) (fun _ i _=>es.length - (intOf i).toNat)
 case atStart=>exact ⟨0,Nat.zero_le _,rfl,aA (World.ownsRow_made w #[] 0 (Nat.le_refl _) (Nat.zero_le _) rfl),aA (aC _ _)⟩
 case round =>
  obtain ⟨j,hj,rfl,HO,HW⟩:=hrel;by_cases hlt:j<es.length
  ·obtain ⟨b,off,e,x,cc,rfl,hb,he,c0,c1,c2,c3,hr⟩:=HA.out.at hlt
   have HX:=aA he;have HR:=aA hr;have hsm:=HS.out e (List.mem_of_getElem? he);have HC3:=aA c3;clear he hr c0 c1 c2 c3;rw[←zz1 es j e]at HO;go_wp2_with fail
   have hct:(eF (es.take j)).length≤512 * 1024:=by
    have h1:=xD (es:=es.take j) (fun y hy=>HS.out y (List.mem_of_mem_take hy))
    have h2:=eW hj;omega
   go_loopw [3,5] (fun v i w2=>∃ k:Nat,k≤e.chunks.length∧i=.int .i64 k∧Hid (w2.ownsRow w.heap.size 2 1 v (dU (jW es j e k)).length ((dU (jW es j e k)).map (Value.int .i64)))∧Hid (Below w.heap.size w w2)) (fun _ i _=>e.chunks.length - (intOf i).toNat)
   case atStart=>exact ⟨0,Nat.zero_le _,rfl,HO,HW⟩
   case round =>
    obtain ⟨k,hk,rfl,HO2,HW2⟩:=hrel;have c3:=(HW2.out.cell (p:=⟨b,off+j * 4+3,none⟩) hb).trans HC3.out;by_cases hkl:k<e.chunks.length
    ·obtain ⟨p1,r1,rfl,hp1,hy1⟩:=(HR.out.below HW2.out) (by intro e;simp[e]at hkl)
     have y1:=hy1 k hkl;have z1:e.chunks[k]?=some (e.chunks.getD k 0):=by rw[List.getD_eq_getElem?_getD,List.getElem?_eq_getElem hkl];rfl
     generalize e.chunks.getD k 0=z at y1 z1;have HU:=aA ((congrArg dU (zy1 (es:=es) (j:=j) z1)).trans (zG _ z));have hcl:=xQ (jW es j e k);have hcu:(jW es j e k).length≤512 * 1024+1024:=by unfold jW;rw[List.length_append,List.length_take];omega
     clear hy1 z1;generalize dU (jW es j e k)=ms at *;obtain ⟨av,cv,rfl⟩:=aR HO2.out;have RM:=aA (cY HO2.out rfl);have HAm:=aA (zB av cv ms z _ RM.out (by omega))
     have hm1:ms.length+1≤maxLen:=by unfold maxLen;omega
     have hm2:(ms.length+1) * 8≤140737488355328:=by omega
     have hsz:=HW2.out.size;cases hcn:ms.contains z
     ·have HN:=aA (show dW ms z=ms ++ [z] from by unfold dW;rw[hcn];rfl)
      rw[hcn]at HAm;clear hcn;go_wp2_with (first | (go_at_call 95;refine HAm.out.mono ?_;rintro r w1 ⟨rfl,rfl⟩) | (at_builtin;refine cH rfl (.tmp 34) (.tmp 43) 48 rfl w.heap.size 2 i0 (.int .i64 0) 1 8 Tryz.underlying48 hi0 hz0 hz1 hz2 rfl (by decide) _ _ _ rfl HO2.out rfl rfl (by intro u hu;simp at hu;subst hu;rfl) hm1 hm2 hsz ?_;intro v' w3 hown2 hkept;have O2:=aA hown2;have K2:=aA hkept;clear hown2 hkept))
      go_roundw
      case rel=>exact ⟨k+1,by omega,by go_num,aA (by rw[HU.out,HN.out];simpa using O2.out),aA (HW2.out.trans (K2.out.below hsz (fun q hq hS=>by have:=(HO2.out.lt _ hS).1;omega)))⟩
      case measure=>simp[intOf];omega
     ·have HN:=aA (show dW ms z=ms from by unfold dW;rw[hcn];rfl)
      rw[hcn]at HAm;clear hcn;go_wp2_with (go_at_call 95;refine HAm.out.mono ?_;rintro r w1 ⟨rfl,rfl⟩)
      go_roundw
      case rel=>exact ⟨k+1,by omega,by go_num,aA (by rw[HU.out,HN.out];exact HO2.out),HW2⟩
      case measure=>simp[intOf];omega
    ·have HU:=aA (zs5 (k:=k) HX.out (by omega))
     go_wp2_with fail
     go_roundw
     case rel=>exact ⟨j+1,by omega,by go_num,aA (by rw[←HU.out];exact HO2.out),HW2⟩
     case measure=>simp[intOf];omega
  ·have hE:es.take j=es:=List.take_of_length_le (by omega)
   rw[hE]at HO;clear hE;go_wp2_with fail
   go_ret
   exact ⟨_,rfl,HO.out,HW.out⟩
theorem fK {e:En} (h:aH e=0):e.chunks.length≤3:=by
 have hp:=bO h;cases h1:gD e
 ·rw[fS hp h1]at h;omega
 ·cases h2:kF e
  ·rw[tC hp h1 h2]at h;omega
  ·cases h3:kT e
   ·rw[tB hp h1 h2 h3]at h;omega
   ·have h2':0≤e.size∧e.size≤24:=by simpa [kF] using h2
    have h3':(e.chunks.length:Int)=(e.size+7) / 8:=by simpa [kT] using h3
    omega
def xB (q:Int) (zs:List Int) (w:World) (r:Ending) (w':World):Prop :=
 ∃ av cv,r=.returned (.agg #[.int .i64 q,.slice av zs.length cv])∧w'.ownsRow w.heap.size 2 1 (.slice av zs.length cv) zs.length (zs.map (Value.int .i64))∧Below w.heap.size w w'
end Go.Proofs.YtgaeikgoknoamaaGreat
namespace Go.Proofs.YtgaeikgoknoamaaGreat
open Go.RowKit Go.Maps
attribute [local go_sem ↓] Go.wp_at_zero Go.wp_at_succ
def cN (p:Bs):Bs:=sD (bB p.tail)
def fN (es:List En) (q:Bs):List Bs:=(cM es q).map fun e=>cN e.path
theorem zhe {es:List En} (h:40<es.length):dG es=2:=by simp[dG,h]
theorem zge {es:List En} (h:¬ 40<es.length) (hk:(es.any fun e=>!iX e.kind)=true):dG es=1:=by
 have:es.all (fun e=>iX e.kind)=false:=by
  rw[List.all_eq_false];obtain ⟨e,he,h1⟩:=List.any_eq_true.1 hk;exact ⟨e,he,by simpa using h1⟩
 simp[dG,h,this]
theorem zsg {es:List En} (h:¬ 40<es.length) (hk:(es.any fun e=>!iX e.kind)=false):dG es=cC (cI es) none es:=by
 have:es.all (fun e=>iX e.kind)=true:=by
  rw[List.all_eq_true];intro e he;have:=List.any_eq_false.1 hk e he;simpa using this
 rw[dG,if_neg h,this,if_pos rfl]
theorem vY (a:Option Addr) (c n:Nat) (es:List En) (w:World) (h:RdE w a es) (hn:n=es.length) (hl:es.length≤1048576) (hs:bJ es) :
  Calls Tryz.prog 89 #[.slice a n c] w fun r w'=>r=.returned (.int .i64 (dG es))∧Below w.heap.size w w':=by
 subst hn;by_cases hm:40<es.length
 ·have HE:=aA (zhe hm)
  have hm2:(40:Int)<(es.length:Int):=by omega
  go_enter Tryz.func89,Tryz.ntmps89;go_wp2_with fail
  go_ret
  exact ⟨aO HE.out.symm,Below.refl _ _⟩
 ·have hm2:¬ (40:Int)<(es.length:Int):=by omega
  have HK:=aA (zge (es:=es) hm);have HE:=aA (zsg (es:=es) hm);have HR:=aA h;have HS:=aA hs;clear h hs;generalize dG es=F at *;go_enter Tryz.func89,Tryz.ntmps89;go_wp2_with fail
  refine (zN a c es.length es _ HR.out rfl hl).mono ?_;rintro r w1 ⟨av,cv,rfl,hL,hb1⟩;have RI:=aA (hL.rd hb1);have B1:=aA hb1;clear hL hb1;go_wp2_with fail
  refine (xH av cv es.length es _ _ _ _ RI.out rfl hl HS.out (ze7 w1)).mono ?_;rintro r w2 ⟨rfl,hb2⟩;have B2:=aA (aB B1.out hb2);clear hb2;cases hk:es.any fun e=>!iX e.kind
  ·have HF:=aA (HE.out hk)
   clear hk;go_wp2_with fail
   refine (pG a c es.length es _ (HR.out.below B2.out) rfl hl HS.out).mono ?_;rintro r w3 ⟨rfl,hb3⟩;rw[←HF.out];have B3:=aA (aB B2.out hb3);clear hb3;go_wp2_with fail
   go_ret
   exact ⟨rfl,B3.out⟩
  ·have HF:=aA (HK.out hk)
   clear hk;go_wp2_with fail
   go_ret
   exact ⟨aO HF.out.symm,B2.out⟩
end Go.Proofs.YtgaeikgoknoamaaGreat
namespace Go.Proofs.YtgaeikgoknoamaaGreat
open Go.RowKit Go.Maps
theorem zv1:∀ (rs:List Rw) (j:Nat) (r:Rw) (e':En),rs[j]?=some r→e'.chunks.length=r.e.chunks.length →
  (((aX rs).set (j * 4) (.string (str e'.path))).set (j * 4+1) (.int .i64 e'.kind)).set (j * 4+2) (.int .i64 e'.size)=aX (rs.set j ⟨e',r.a,r.c⟩)
 | [],j,r,e',h,_=>by simp at h
 | x :: rs,0,r,e',h,hl=>by
  simp only[List.getElem?_cons_zero,Option.some.injEq]at h;subst h;simp[aX,bZ,hl]
 | x :: rs,j+1,r,e',h,hl=>by
  have ih:=zv1 rs j r e' (by simpa using h) hl
  have e1:aX (x :: rs)=bZ x++aX rs:=rfl;have e2:aX ((x :: rs).set (j+1) ⟨e',r.a,r.c⟩)=bZ x++aX (rs.set j ⟨e',r.a,r.c⟩):=rfl;have hx:(bZ x).length=4:=rfl;rw[e1,e2,←ih,List.set_append_right _ _ (by omega),List.set_append_right _ _ (by omega),List.set_append_right _ _ (by omega),hx]
  rw[show (j+1) * 4 - 4=j * 4 by omega,show (j+1) * 4+1 - 4=j * 4+1 by omega,show (j+1) * 4+2 - 4=j * 4+2 by omega]
theorem GE.open {B T:Nat} {w:World} {a:Option Addr} {n c:Nat} {es:List En} {j:Nat} {e:En} (h:GE B T w (.slice a n c) es) (he:es[j]?=some e) :
  ∃ (G:Nat) (x:Option Addr) (y:Nat),a=some ⟨G,0,none⟩∧B≤G∧G<T∧w.cell? ⟨G,j * 4,none⟩=some (.string (str e.path))∧w.cell? ⟨G,j * 4+1,none⟩=some (.int .i64 e.kind)∧w.cell? ⟨G,j * 4+2,none⟩=some (.int .i64 e.size)∧w.cell? ⟨G,j * 4+3,none⟩=some (.slice x e.chunks.length y) ∧
   (∀ i,w.frozen? ⟨G,i,none⟩=false)∧Own .i64 w x e.chunks∧(∀ b,zt8 x b→B≤b∧b<T∧b≠G) ∧
   ∀ (e':En) (w2:World),e'.chunks.length=e.chunks.length→Own .i64 w2 x e'.chunks→aE (zt8 x) (((w.setCell ⟨G,j * 4,none⟩ (.string (str e'.path))).setCell ⟨G,j * 4+1,none⟩ (.int .i64 e'.kind)).setCell ⟨G,j * 4+2,none⟩ (.int .i64 e'.size)) w2 →
    zl0 (((w.setCell ⟨G,j * 4,none⟩ (.string (str e'.path))).setCell ⟨G,j * 4+1,none⟩ (.int .i64 e'.kind)).setCell ⟨G,j * 4+2,none⟩ (.int .i64 e'.size)) w2 →
    GE B T w2 (.slice a n c) (es.set j e'):=by
 obtain ⟨rs,hrs,h1,h2,h3,h4,h5⟩:=h;have hj:=(List.getElem?_eq_some_iff.1 he).1;have hl:rs.length=es.length:=by rw[←hrs,List.length_map]
 obtain ⟨r,hr⟩:∃ r,rs[j]?=some r:=⟨rs[j]'(by omega),List.getElem?_eq_getElem (by omega)⟩
 have hre:r.e=e:=by
  have:(rs.map Rw.e)[j]?=some r.e:=by rw[List.getElem?_map,hr];rfl
  rw[hrs,he]at this;exact (Option.some.inj this).symm
 rcases h1.2 with ⟨_,h0⟩ | ⟨G,cap,cur,h',hb,hh,hnc,hcm,hcs,htake⟩
 ·omega
 ·simp only[Value.slice.injEq]at h'
  obtain ⟨rfl,rfl,rfl⟩:=h';have hc:=fun q hq=>(h1.cellAt (j * 4+q) (by omega)).trans (jV rs j q r hr hq)
  have hm:=List.mem_of_getElem? hr;have hne:∀ b,zt8 r.a b→b≠G:=fun b hb e=>cK h1 (h2 r hm) (by decide) (by subst e;rfl) (lV hb)
  refine ⟨G,r.a,r.c,rfl,hb,h5 G rfl,?_,?_,?_,?_,fun i=>h1.frozenAt i,?_,fun b hb=>⟨((h2 r hm).lt b (lV hb)).1,h4 r hm b hb,hne b hb⟩,?_⟩
  ·have:=hc 0 (by decide);rw[←hre];first | (simp[bZ];done) | (simpa [bZ] using this)
  ·have:=hc 1 (by decide);rw[←hre];first | (simp[bZ];done) | (simpa [bZ] using this)
  ·have:=hc 2 (by decide);rw[←hre];first | (simp[bZ];done) | (simpa [bZ] using this)
  ·have:=hc 3 (by decide);rw[←hre];first | (simp[bZ];done) | (simpa [bZ] using this)
  ·rw[←hre];exact wV (h2 r hm) rfl
  ·intro e' w2 hlen ho hk hs
   have hlen':e'.chunks.length=r.e.chunks.length:=by rw[hre];exact hlen
   have s1:=(((h1.stored (j * 4) (.string (str e'.path))).1.stored (j * 4+1) (.int .i64 e'.kind)).1.stored (j * 4+2) (.int .i64 e'.size)).1;rw[zv1 rs j r e' hr hlen']at s1;have hmapa:(rs.set j ⟨e',r.a,r.c⟩).map Rw.a=rs.map Rw.a:=by
    rw[List.map_set];apply List.ext_getElem?
    intro i;by_cases hi:i=j
    ·subst hi;rw[List.getElem?_set_self (by simp;omega),List.getElem?_map,hr];rfl
    ·rw[List.getElem?_set_ne (fun e=>hi e.symm)]
   have hk1:aE (fun b=>b=G) w (((w.setCell ⟨G,j * 4,none⟩ (.string (str e'.path))).setCell ⟨G,j * 4+1,none⟩ (.int .i64 e'.kind)).setCell ⟨G,j * 4+2,none⟩ (.int .i64 e'.size)) :=
    aE.setCell (S:=fun b=>b=G) (p:=⟨G,j * 4+2,none⟩) (aE.two _ _ _ _ _ _) (fun _=>rfl) _
   refine ⟨rs.set j ⟨e',r.a,r.c⟩,by rw[List.map_set,hrs],?_,?_,?_,?_,h5⟩
   ·rw[List.length_set]
    exact aK s1 hk (fun b hb hS=>hne b hS (by simpa [Value.ownBlock,eq_comm] using hb))
   ·intro r0 hr0
    obtain ⟨i,hi⟩:=List.mem_iff_getElem?.1 hr0;by_cases e:i=j
    ·subst e
     rw[List.getElem?_set_self (by omega)]at hi
     simp only[Option.some.injEq]at hi;subst hi;have r1:(((w.setCell ⟨G,i * 4,none⟩ (.string (str e'.path))).setCell ⟨G,i * 4+1,none⟩ (.int .i64 e'.kind)).setCell ⟨G,i * 4+2,none⟩ (.int .i64 e'.size)).ownsRow B 2 1 (.slice r.a r.e.chunks.length r.c) r.e.chunks.length (r.e.chunks.map (Value.int .i64)) :=
      aK (h2 r hm) hk1 (fun b hb e=>cK h1 (h2 r hm) (by decide) (by subst e;rfl) hb)
     show w2.ownsRow B 2 1 (.slice r.a e'.chunks.length r.c) e'.chunks.length (e'.chunks.map (Value.int .i64))
     rw[hlen'];rcases (h2 r hm).2 with ⟨h',h0⟩ | ⟨g,cap',cur',h',_⟩
     ·simp only[Value.slice.injEq]at h'
      have e1:e'.chunks=[]:=List.eq_nil_of_length_eq_zero (by omega)
      rw[h'.1,h'.2.2,h0,e1];exact World.ownsRow_nil _ _ _ _
     ·simp only[Value.slice.injEq,true_and]at h'
      obtain ⟨hA,hC⟩:=h';rw[hA]at r1 ho ⊢;refine zbg r1 hs (by simp[hlen']) (fun t ht=>?_)
      obtain ⟨b,off,e1,hb,hc⟩:=ho (by intro e;rw[e]at hlen';simp at hlen';omega)
      simp only[Option.some.injEq,Addr.mk.injEq,and_true]at e1;obtain ⟨rfl,rfl⟩:=e1;have:=(hc t (by omega)).1
      rw[Nat.zero_add]at this;rw[this];have ht2:t<e'.chunks.length:=by omega
      simp[List.getD_eq_getElem?_getD,ht2]
    ·rw[List.getElem?_set_ne (fun x=>e x.symm)]at hi
     have hm0:=List.mem_of_getElem? hi;have r1:=aK (h2 r0 hm0) hk1 (fun b hb e=>cK h1 (h2 r0 hm0) (by decide) (by subst e;rfl) hb)
     refine aK r1 hk (fun b hb hS=>?_)
     have hi':=(List.getElem?_eq_some_iff.1 hi);have hj':=(List.getElem?_eq_some_iff.1 hr);have hb0:=zn1 hb;rcases Nat.lt_or_gt_of_ne e with hlt | hlt
     ·have:=List.pairwise_iff_getElem.1 h3 i j hi'.1 hj'.1 hlt b (by rw[hi'.2];exact hb0)
      rw[hj'.2]at this;exact this hS
     ·have:=List.pairwise_iff_getElem.1 h3 j i hj'.1 hi'.1 hlt b (by rw[hj'.2];exact hS)
      rw[hi'.2]at this;exact this hb0
   ·have:(rs.map Rw.a).Pairwise (fun x y=>∀ g,x.map Addr.block=some g→y.map Addr.block≠some g):=List.pairwise_map.2 h3
    rw[←hmapa]at this;exact List.pairwise_map.1 this
   ·intro r0 hr0 g hg
    have:r0.a∈(rs.set j ⟨e',r.a,r.c⟩).map Rw.a:=List.mem_map_of_mem hr0;rw[hmapa]at this;obtain ⟨r2,hr2,e2⟩:=List.mem_map.1 this;exact h4 r2 hr2 g (by rw[e2];exact hg)
end Go.Proofs.YtgaeikgoknoamaaGreat
namespace Go.Proofs.YtgaeikgoknoamaaGreat
open Go.ChangeShapes Go.WideShapes Go.ChangeAt Go.RowKit
def zEn:En:=⟨[],0,0,[]⟩
theorem uW:∀ (rs:List Rw) (j:Nat) (r:Rw),j<rs.length →
  ((((aX rs).set (j * 4) (.string (str r.e.path))).set (j * 4+1) (.int .i64 r.e.kind)).set (j * 4+2) (.int .i64 r.e.size)).set (j * 4+3) (.slice r.a r.e.chunks.length r.c)=aX (rs.set j r)
 | [],j,r,h=>by simp at h
 | x :: rs,0,r,h=>by simp[aX,bZ]
 | x :: rs,j+1,r,h=>by
  have ih:=uW rs j r (by simpa using h)
  have e1:aX (x :: rs)=bZ x++aX rs:=rfl;have e2:aX ((x :: rs).set (j+1) r)=bZ x++aX (rs.set j r):=rfl;have hx:(bZ x).length=4:=rfl;rw[e1,e2,←ih,List.set_append_right _ _ (by omega),List.set_append_right _ _ (by omega),List.set_append_right _ _ (by omega),List.set_append_right _ _ (by omega),hx]
  rw[show (j+1) * 4 - 4=j * 4 by omega,show (j+1) * 4+1 - 4=j * 4+1 by omega,show (j+1) * 4+2 - 4=j * 4+2 by omega,show (j+1) * 4+3 - 4=j * 4+3 by omega]
theorem zle (n:Nat):(madeCells (Value.agg #[.string ⟨#[]⟩,.int .i64 0,.int .i64 0,.slice none 0 0]).cells (n * 4)).toList=aX (List.replicate n ⟨zEn,none,0⟩):=by
 have hl:=eH (List.replicate n ⟨zEn,none,0⟩);rw[List.length_replicate]at hl;apply List.ext_getElem?
 intro p;by_cases hp:p<n * 4
 ·have e:p=p / 4 * 4+p % 4:=by omega
  have h1:p / 4<n:=by omega
  have h2:p % 4<4:=by omega
  rw[e,jV _ (p / 4) (p % 4) ⟨zEn,none,0⟩ (by simp[h1]) h2,←e]
  have hm:p % 4=0∨p % 4=1∨p % 4=2∨p % 4=3:=by omega
  rcases hm with hm | hm | hm | hm <;> simp[madeCells,hp,hm,bZ,zEn,Value.cells,str]
 ·rw[List.getElem?_eq_none (by simp[madeCells];omega),List.getElem?_eq_none (by omega)]
theorem GE.zeros {B n T:Nat} {w:World} {v:Value} (h:w.ownsRow B 87 4 v n (madeCells (Value.agg #[.string ⟨#[]⟩,.int .i64 0,.int .i64 0,.slice none 0 0]).cells (n * 4)).toList) (hT:∀ b,v.ownBlock=some b→b<T):GE B T w v (List.replicate n zEn):=by
 refine ⟨List.replicate n ⟨zEn,none,0⟩,by simp,by rw[List.length_replicate,←zle];exact h,fun r hr=>?_,?_,fun r hr g hg=>?_,hT⟩
 ·rw[(List.mem_replicate.1 hr).2];exact World.ownsRow_nil _ _ _ _
 ·rw[List.pairwise_iff_getElem]
  intro i i' hi hi' hlt g hg;simp at hg
 ·rw[(List.mem_replicate.1 hr).2]at hg
  simp at hg
end Go.Proofs.YtgaeikgoknoamaaGreat
namespace Go.Proofs.YtgaeikgoknoamaaGreat
open Go.RowKit
def Src (w:World) (p:Nat) (zs:List Int) (t:Int):Prop :=
 ∃ a c,w.cell? ⟨p,0,none⟩=some (.slice a zs.length c)∧w.cell? ⟨p,1,none⟩=some (.int .i64 t)∧w.frozen? ⟨p,1,none⟩=false∧aZ .u8 w a zs∧(zs≠[]→∀ x,a=some x→x.block<p)
theorem Src.step {w:World} {p:Nat} {zs:List Int} {t:Int} (h:Src w p zs t) (s:Int):Src (w.setCell ⟨p,1,none⟩ (.int .i64 s)) p zs s∧aE (fun b=>b=p) w (w.setCell ⟨p,1,none⟩ (.int .i64 s)):=by
 obtain ⟨a,c,q0,q1,q2,hr,hap⟩:=h;have hk:aE (fun b=>b=p) w (w.setCell ⟨p,1,none⟩ (.int .i64 s)):=aE.setCell (S:=fun b=>b=p) (p:=⟨p,1,none⟩) (aE.refl _ w) (fun _=>rfl) _
 refine ⟨⟨a,c,?_,bK q1,by rw[World.frozen?_setCell];exact q2,hr.kept hk (fun hz x hx e=>by have:=hap hz x hx;omega),hap⟩,hk⟩
 rw[aD (by intro e;have:=congrArg Addr.off e;simp at this)];exact q0
theorem Src.drewN {w:World} {p:Nat} {zs:List Int} {t:Int} (h:Src w p zs t) (n:Nat):Src (w.drewN n) p zs t:=h
theorem Src.kept {S:Nat→Prop} {w w':World} {p:Nat} {zs:List Int} {t:Int} (h:Src w p zs t) (hk:aE S w w') (hS:∀ b,b≤p→¬ S b):Src w' p zs t:=by
 obtain ⟨a,c,q0,q1,q2,hr,hap⟩:=h;have hlt:=World.block_lt_of_cell? w ⟨p,0,none⟩ q0;have hp:=hS p (Nat.le_refl _);exact ⟨a,c,(hk.cell (p:=⟨p,0,none⟩) hlt hp).trans q0,(hk.cell (p:=⟨p,1,none⟩) hlt hp).trans q1,(hk.frozen (p:=⟨p,1,none⟩) hlt hp).trans q2,hr.kept hk (fun hz x hx=>hS _ (Nat.le_of_lt (hap hz x hx))),hap⟩
theorem Src.below {w w':World} {p:Nat} {zs:List Int} {t:Int} (h:Src w p zs t) (hk:Below w.heap.size w w'):Src w' p zs t :=
 Src.kept (S:=fun _=>False) h (aE.of_below hk) (fun _ _=>id)
theorem Src.lt {w:World} {p:Nat} {zs:List Int} {t:Int} (h:Src w p zs t):p<w.heap.size:=by
 obtain ⟨a,c,q0,_⟩:=h;exact World.block_lt_of_cell? w ⟨p,0,none⟩ q0
theorem zJ (v n:Int) (hn:1≤n):0≤v % n∧v % n<n:=⟨Int.emod_nonneg _ (by omega),Int.emod_lt_of_pos _ (by omega)⟩
theorem zgd (t:Int) (k:Nat) (hk:0<k):0≤t % (k:Int)∧t % (k:Int)<(k:Int):=⟨Int.emod_nonneg _ (by omega),Int.emod_lt_of_pos _ (by omega)⟩
theorem zei (t:Int) (k:Nat) (h0:0≤t):0≤t / (k:Int)∧t / (k:Int)≤t:=⟨Int.ediv_nonneg h0 (by omega),Int.ediv_le_self _ h0⟩
theorem rZ (p:Nat) (zs:List Int) (t n:Int) (w:World) (h:Src w p zs t) (hu:U8 zs) (ht0:0≤t) (ht1:t≤1099511627776) (hn0:1≤n) (hn1:n≤2147483648) (hl:zs.length≤2097152) :
  Calls Tryz.prog 56 #[.pointer (some ⟨p,0,none⟩),.int .i64 n] w fun e w'=>∃ r,e=.returned (.int .i64 r)∧0≤r∧r<n∧Src w' p zs (t+1)∧aE (fun b=>b=p) w w':=by
 have HS:=aA (h.step (t+1));obtain ⟨a,c,q0,q1,q2,hr,hap⟩:=h;by_cases hz:zs=[]
 ·have hn:zs.length=0:=by rw[hz];rfl
  rw[hn]at q0;have hmod:0≤t * 7 % n∧t * 7 % n<n:=⟨Int.emod_nonneg _ (by omega),Int.emod_lt_of_pos _ (by omega)⟩
  have HM:=aA hmod;clear hmod hr hap hz hn;go_enter Tryz.func56,Tryz.ntmps56;go_wp2
  go_ret
  exact ⟨_,rfl,HM.out.1,HM.out.2,HS.out.1,HS.out.2⟩
 ·obtain ⟨b,off,rfl,hb,hc⟩:=hr hz
  have hlen:0<zs.length:=List.length_pos_iff.2 hz;have hne:((zs.length:Int)==0)=false:=by simp;omega
  have hbp:b≠p:=by have:=hap hz _ rfl;simp at this;omega
  obtain ⟨m0,m1⟩:=zgd t zs.length hlen;obtain ⟨m2,m3⟩:=zgd (t+1) zs.length hlen;obtain ⟨d0,d1⟩:=zei t zs.length ht0;have hz1:=hu.get (t % (zs.length:Int)).toNat;have hz2:=hu.get ((t+1) % (zs.length:Int)).toNat;have c1:=hc (t % (zs.length:Int)).toNat (by omega)
  have c2:=hc ((t+1) % (zs.length:Int)).toNat (by omega)
  generalize zs.getD (t % (zs.length:Int)).toNat 0=z1 at hz1 c1;generalize zs.getD ((t+1) % (zs.length:Int)).toNat 0=z2 at hz2 c2;generalize hW:w.setCell ⟨p,1,none⟩ (.int .i64 (t+1))=W at HS;have k0:W.cell? ⟨p,0,none⟩=some (.slice (some ⟨b,off,none⟩) zs.length c):=by rw[←hW,aD (by intro e;have:=congrArg Addr.off e;simp at this)];exact q0
  have k1:W.cell? ⟨p,1,none⟩=some (.int .i64 (t+1)):=by rw[←hW];exact bK q1
  have k2:W.cell? ⟨b,off+(t % (zs.length:Int)).toNat,none⟩=some (.int .u8 z1):=by rw[←hW];exact pD (fun e=>hbp e.symm) c1
  have k3:W.cell? ⟨b,off+((t+1) % (zs.length:Int)).toNat,none⟩=some (.int .u8 z2):=by rw[←hW];exact pD (fun e=>hbp e.symm) c2
  have HW:=aA hW;clear hW c1 c2 hc hr hap hz;by_cases h200:200<n
  ·go_enter Tryz.func56,Tryz.ntmps56
   go_wp2
   rw[HW.out];go_quiet (fail)
   go_wp2
   go_quiet (fail)
   go_wp2
   go_ret
   exact ⟨_,rfl,(zJ _ n hn0).1,(zJ _ n hn0).2,HS.out.1.drewN _,HS.out.2.drewN _⟩
  ·go_enter Tryz.func56,Tryz.ntmps56
   go_wp2
   rw[HW.out];go_quiet (fail)
   go_wp2
   go_ret
   exact ⟨_,rfl,(zJ _ n hn0).1,(zJ _ n hn0).2,HS.out.1.drewN _,HS.out.2.drewN _⟩
theorem za4 (a:Option Addr) (cap:Nat) (zs:List Int) (w:World) (h:aZ .u8 w a zs) :
  Calls Tryz.prog 51 #[.slice a zs.length cap] w fun e w'=>e=.returned (.pointer (some ⟨w.heap.size,0,none⟩))∧Src w' w.heap.size zs 0∧w'.heap.size=w.heap.size+1∧Below w.heap.size w w':=by
 have HR:=aA h;clear h;go_enter Tryz.func51,Tryz.ntmps51;go_wp2
 go_ret
 refine ⟨rfl,⟨a,cap,by simp,by simp,by simp,HR.out.below (aC _ _),fun hz x hx=>?_⟩,by simp,aC _ _⟩
 obtain ⟨b,off,rfl,hb,_⟩:=HR.out hz;simp at hx
 subst hx;exact hb
theorem zda (p g c m:Nat) (vs:List Int) (zs:List Int) (t:Int) (w:World) (h:Src w p zs t) (hu:U8 zs) (ht0:0≤t) (ht1:t≤1099511627776) (hl:zs.length≤2097152)
  (hm0:0<m) (hm1:m≤1000) (hm:m=vs.length) (hg:g≠p) (hgl:g<w.heap.size) (hc:∀ i,i<m→w.cell? ⟨g,i,none⟩=some (.int .i64 (vs.getD i 0))) :
  Calls Tryz.prog 97 #[.pointer (some ⟨p,0,none⟩),.slice (some ⟨g,0,none⟩) m c] w fun e w'=>∃ v,v∈vs∧e=.returned (.int .i64 v)∧Src w' p zs (t+1)∧aE (fun b=>b=p) w w':=by
 have HS:=aA h;have HU:=aA hu;have HC:=aA hc;have HM:=aA hm;clear h hu hc hm;go_enter Tryz.func97,Tryz.ntmps97;go_wp2_with fail
 refine (rZ p zs t _ _ HS.out HU.out ht0 ht1 (by omega) (by omega) hl).mono ?_
 rintro e w1 ⟨r,rfl,r0,r1,s1,k1⟩;obtain ⟨j,rfl⟩:=Int.eq_ofNat_of_zero_le r0;have hj:j<m:=by omega
 have hcj:=HC.out j hj;have hmem:vs.getD j 0∈vs:=by
  have hj2:j<vs.length:=by have:=HM.out;omega
  have e:vs.getD j 0=vs[j]:=by simp[List.getD_eq_getElem?_getD,hj2]
  rw[e];exact List.getElem_mem hj2
 generalize vs.getD j 0=v at hcj hmem;have hc1:w1.cell? ⟨g,j,none⟩=some (.int .i64 v):=(k1.cell (p:=⟨g,j,none⟩) hgl hg).trans hcj;have S1:=aA s1;have K1:=aA k1;have M1:=aA hmem;clear s1 k1 hcj hmem;go_wp2_with fail
 go_ret
 exact ⟨v,M1.out,rfl,S1.out,K1.out⟩
theorem zea (p:Nat) (n:Nat) (zs:List Int) (t:Int) (w:World) (h:Src w p zs t) (hu:U8 zs) (ht0:0≤t) (ht1:t≤549755813888) (hl:zs.length≤2097152) (hn:n≤1048576) (hp:p<w.heap.size) :
  Calls Tryz.prog 55 #[.pointer (some ⟨p,0,none⟩),.int .i64 n] w fun e w'=>∃ a c ds,e=.returned (.slice a n c)∧ds.length=n∧U8 ds∧w'.ownsRow w.heap.size 5 1 (.slice a n c) n (ds.map (Value.int .u8))∧Src w' p zs (t+n)∧aE (fun b=>b=p) w w':=by
 obtain ⟨i0,hi,hz0,hz1,hz2⟩:=info_parts Tryz.infoU8;have HS:=aA (h.below (aC w (.cells #[] 5)));have HU:=aA hu;clear h hu;go_enter Tryz.func55,Tryz.ntmps55;go_wp2
 go_loopw [1,5] (fun q v wr=>∃ j:Nat,∃ ds:List Int,j≤n∧q=.int .i64 ((n:Int) - j)∧ds.length=j∧U8 ds∧wr.ownsRow w.heap.size 5 1 v j (ds.map (Value.int .u8))∧Src wr p zs (t+j)∧aE (fun b=>b=p) w wr) (fun q _ _=>(intOf q).toNat)
 case atStart=>exact ⟨0,[],Nat.zero_le _,by simp,rfl,fun z hz=>by simp at hz,World.ownsRow_made w #[] 0 (Nat.le_refl _) (Nat.zero_le _) rfl,by simpa using HS.out,(aE.refl _ _).alloc _⟩
 case round =>
  obtain ⟨j,ds,hj,rfl,hds,hU,hown,hsrc,hkept⟩:=hrel;by_cases hlt:j<n
  ·have hgt:(0:Int)<(n:Int) - j:=by omega
   have hsz:=hkept.size;have hm1:j+1≤maxLen:=by unfold maxLen;omega
   have hm2:(j+1) * 1≤140737488355328:=by omega
   have H1:=aA hds;have H2:=aA hU;have H3:=aA hown;have H4:=aA hsrc;have H5:=aA hkept;clear hds hU hown hsrc hkept;go_wp2_with (first | (go_at_call 56;refine (rZ p zs _ _ _ H4.out HU.out (by omega) (by omega) (by omega) (by omega) hl).mono ?_;rintro e w1 ⟨r,rfl,r0,r1,s1,k1⟩;have S1:=aA s1;have K1:=aA k1;have O1:=aA (aK H3.out k1 (fun b hb e=>by have:=(H3.out.lt b hb).1;omega));have hsz1:w.heap.size≤w1.heap.size:=Nat.le_trans hsz k1.size;clear s1 k1) | (at_builtin;refine cH rfl (.tmp 11) (.tmp 16) 22 rfl w.heap.size 5 i0 (.int .u8 0) 1 1 Tryz.underlying22 hi hz0 hz1 hz2 rfl (by decide) _ _ _ rfl O1.out rfl rfl (by intro u hu;simp at hu;subst hu;rfl) hm1 hm2 hsz1 ?_;intro v' w2 hown2 hkept2;have O2:=aA hown2;have K2:=aA hkept2;clear hown2 hkept2))
   have hp1:∀ b,b≤p→¬ (u5.ownBlock=some b):=fun b hb e=>by have:=(H3.out.lt b e).1;omega
   go_roundw
   case rel =>
    refine ⟨j+1,ds ++ [97+r],by omega,by go_num,by simp[H1.out],fun z hz=>?_,by simpa using O2.out,?_,?_⟩
    ·rcases List.mem_append.1 hz with hz | hz
     ·exact H2.out z hz
     ·simp at hz;omega
    ·have:=S1.out.kept K2.out hp1
     rwa [show t+(j:Int)+1=t+((j+1:Nat):Int) from by omega]at this
    ·exact (H5.out.trans K1.out).trans_own K2.out (fun b hb e=>by have:=(O1.out.lt b e).1;omega)
   case measure=>simp[intOf];omega
  ·have hje:j=n:=by omega
   subst hje;obtain ⟨av,cv,rfl⟩:=aR hown;have hz:¬ (0:Int)<(j:Int) - j:=by omega
   go_wp2
   go_ret
   exact ⟨av,cv,rfl,ds,hds,hU,hown,hsrc,hkept⟩
theorem zeh (w:World) (a b c d e:Int) (t:TypeId):∀ i,i<5→(w.alloc (.cells #[.int .i64 a,.int .i64 b,.int .i64 c,.int .i64 d,.int .i64 e] t)).cell? ⟨w.heap.size,i,none⟩=some (.int .i64 ([a,b,c,d,e].getD i 0)):=by
 intro i hi
 match i,hi with
 | 0,_ | 1,_ | 2,_ | 3,_ | 4,_=>simp
theorem yY:∀ (ns:List Bs),(∀ n∈ns,n.length≤2)→(bL ns).length≤3 * ns.length
 | [],_=>by simp[bL]
 | n :: ns,h=>by
  have:=yY ns (fun m hm=>h m (by simp[hm]))
  have:=h n (by simp)
  simp[bL];omega
end Go.Proofs.YtgaeikgoknoamaaGreat
namespace Go.Proofs.YtgaeikgoknoamaaGreat
open Go.RowKit Go.Maps
def dH (w:World) (p:Nat) (zs:List Int) (T:Int):Prop:=∃ t,0≤t∧t≤T∧Src w p zs t
theorem dH.kept {S:Nat→Prop} {w w':World} {p:Nat} {zs:List Int} {T:Int} (h:dH w p zs T) (hk:aE S w w') (hS:∀ b,b≤p→¬ S b):dH w' p zs T:=by
 obtain ⟨t,h0,h1,hs⟩:=h;exact ⟨t,h0,h1,hs.kept hk hS⟩
theorem dH.below {w w':World} {p:Nat} {zs:List Int} {T:Int} (h:dH w p zs T) (hk:Below w.heap.size w w'):dH w' p zs T:=by
 obtain ⟨t,h0,h1,hs⟩:=h;exact ⟨t,h0,h1,hs.below hk⟩
theorem dH.lt {w:World} {p:Nat} {zs:List Int} {T:Int} (h:dH w p zs T):p<w.heap.size:=by
 obtain ⟨t,_,_,hs⟩:=h;exact hs.lt
theorem dH.mono {w:World} {p:Nat} {zs:List Int} {T T':Int} (h:dH w p zs T) (hT:T≤T'):dH w p zs T':=by
 obtain ⟨t,h0,h1,hs⟩:=h;exact ⟨t,h0,by omega,hs⟩
theorem eZ (p:Nat) (zs:List Int) (T n:Int) (w:World) (h:dH w p zs T) (hu:U8 zs) (hT:T≤1000000) (hn0:1≤n) (hn1:n≤1000) (hl:zs.length≤2097152) :
  Calls Tryz.prog 56 #[.pointer (some ⟨p,0,none⟩),.int .i64 n] w fun e w'=>∃ r:Nat,e=.returned (.int .i64 r)∧(r:Int)<n∧dH w' p zs (T+1)∧aE (fun b=>b=p) w w':=by
 obtain ⟨t,h0,h1,hs⟩:=h;refine (rZ p zs t n w hs hu h0 (by omega) hn0 (by omega) hl).mono ?_
 rintro e w' ⟨r,rfl,r0,r1,s1,k1⟩;exact ⟨r.toNat,by rw[Int.toNat_of_nonneg r0],by omega,⟨t+1,by omega,by omega,s1⟩,k1⟩
theorem pP (p g c m:Nat) (vs:List Int) (zs:List Int) (T:Int) (w:World) (h:dH w p zs T) (hu:U8 zs) (hT:T≤1000000) (hl:zs.length≤2097152)
  (hm0:0<m) (hm1:m≤1000) (hm:m=vs.length) (hg:g≠p) (hgl:g<w.heap.size) (hc:∀ i,i<m→w.cell? ⟨g,i,none⟩=some (.int .i64 (vs.getD i 0))) :
  Calls Tryz.prog 97 #[.pointer (some ⟨p,0,none⟩),.slice (some ⟨g,0,none⟩) m c] w fun e w'=>∃ v,v∈vs∧e=.returned (.int .i64 v)∧dH w' p zs (T+1)∧aE (fun b=>b=p) w w':=by
 obtain ⟨t,h0,h1,hs⟩:=h;refine (zda p g c m vs zs t w hs hu h0 (by omega) hl hm0 hm1 hm hg hgl hc).mono ?_
 rintro e w' ⟨v,hv,rfl,s1,k1⟩;exact ⟨v,hv,rfl,⟨t+1,by omega,by omega,s1⟩,k1⟩
theorem zce (p:Nat) (n:Nat) (zs:List Int) (T:Int) (w:World) (h:dH w p zs T) (hu:U8 zs) (hT:T≤1000000) (hl:zs.length≤2097152) (hn:n≤1000) :
  Calls Tryz.prog 55 #[.pointer (some ⟨p,0,none⟩),.int .i64 n] w fun e w'=>∃ a c ds,e=.returned (.slice a n c)∧ds.length=n∧U8 ds∧w'.ownsRow w.heap.size 5 1 (.slice a n c) n (ds.map (Value.int .u8))∧dH w' p zs (T+n)∧aE (fun b=>b=p) w w':=by
 have hp:=h.lt;obtain ⟨t,h0,h1,hs⟩:=h;refine (zea p n zs t w hs hu h0 (by omega) hl (by omega) hp).mono ?_
 rintro e w' ⟨a,c,ds,rfl,hd,hu,ho,s1,k1⟩;exact ⟨a,c,ds,rfl,hd,hu,ho,⟨t+n,by omega,by omega,s1⟩,k1⟩
theorem rP (p:Nat) (zs:List Int) (T n:Int) (w:World) (h:dH w p zs T) (hu:U8 zs) (hT:T≤1000000) (hn0:1≤n) (hn1:n≤1000) (hl:zs.length≤2097152) :
  Calls Tryz.prog 57 #[.pointer (some ⟨p,0,none⟩),.int .i64 n] w fun e w'=>∃ r:Bool,e=.returned (.bool r)∧dH w' p zs (T+1)∧aE (fun b=>b=p) w w':=by
 have HS:=aA h;have HU:=aA hu;clear h hu;go_enter Tryz.func57,Tryz.ntmps57;go_wp2_with fail
 refine (eZ p zs T n _ HS.out HU.out hT hn0 hn1 hl).mono ?_;rintro e w1 ⟨r,rfl,r1,s1,k1⟩;have S1:=aA s1;have K1:=aA k1;clear s1 k1;go_wp2_with fail
 go_ret
 exact ⟨_,rfl,S1.out,K1.out⟩
def iP (Q:Bs→Prop) (w:World) (g n:Nat):Prop:=g<w.heap.size∧∀ i,i<n→∃ x:Bs,w.cell? ⟨g,i,none⟩=some (.string (str x))∧Q x
theorem iP.new {Q:Bs→Prop} {w:World} {t:TypeId} {vs:List Bs} (h:∀ x∈vs,Q x):iP Q (w.alloc (.cells (vs.map vS).toArray t)) w.heap.size vs.length:=by
 refine ⟨by simp,fun i hi=>⟨vs[i],?_,h _ (List.getElem_mem hi)⟩⟩
 rw[cell_of_row _ w.heap.size i (vs.map vS).toArray t (0,0) (heap_alloc_new w _)];simp[hi,vS]
theorem iP.kept {Q:Bs→Prop} {S:Nat→Prop} {w w':World} {g n:Nat} (h:iP Q w g n) (hk:aE S w w') (hn:¬ S g):iP Q w' g n :=
 ⟨Nat.lt_of_lt_of_le h.1 hk.size,fun i hi=>by obtain ⟨x,hx,hl⟩:=h.2 i hi;exact ⟨x,(hk.cell (p:=⟨g,i,none⟩) h.1 hn).trans hx,hl⟩⟩
theorem zmi (p:Nat) (zs:List Int) (T:Int) (w:World) (h:dH w p zs T) (hu:U8 zs) (hT:T≤1000000) (hl:zs.length≤2097152) :
  Calls Tryz.prog 196 #[.pointer (some ⟨p,0,none⟩)] w fun e w'=>∃ x:Bs,e=.returned (.string (str x))∧(dQ x=true∧x.length≤2)∧dH w' p zs (T+1)∧aE (fun b=>b=p) w w':=by
 have hp:=h.lt;have T0:=aA (iP.new (Q:=fun x=>dQ x=true∧x.length≤2) (w:=w) (t:=9) (vs:=[[97],[98],[99],[97,98]]) (by decide))
 have HS:=aA (h.below (aC w (.cells ([[97],[98],[99],[97,98]].map vS).toArray 9)));have HU:=aA hu;clear h hu;go_enter Tryz.func196,Tryz.ntmps196;go_wp2_with fail
 refine (eZ p zs T 4 _ HS.out HU.out hT (by decide) (by decide) hl).mono ?_
 rintro e w1 ⟨i,rfl,r1,s1,k1⟩;have T1:=aA (T0.out.kept k1 (by omega))
 have S1:=aA s1;have K1:=aA (((aE.refl (fun b=>b=p) w).alloc (.cells ([[97],[98],[99],[97,98]].map vS).toArray 9)).trans k1)
 clear s1 k1 T0 HS;obtain ⟨x,hx,hxl⟩:=T1.out.2 i (by simp;omega)
 have hb:=T1.out.1;have HX:=aA hxl;clear hxl;go_wp2_with fail
 go_ret
 exact ⟨x,rfl,HX.out,S1.out,K1.out⟩
end Go.Proofs.YtgaeikgoknoamaaGreat
namespace Go.Proofs.YtgaeikgoknoamaaGreat
open Go.RowKit Go.Maps
attribute [local go_sem ↓] Go.wp_at_zero Go.wp_at_succ
theorem zz4 (p:Nat) (zs:List Int) (T:Int) (w:World) (h:dH w p zs T) (hu:U8 zs) (hT:T≤900000) (hl:zs.length≤2097152) :
  Calls Tryz.prog 151 #[.pointer (some ⟨p,0,none⟩)] w fun e w'=>∃ x:Bs,e=.returned (.string (str x))∧aG x=0∧x.length≤9∧dH w' p zs (T+4)∧aE (fun b=>b=p) w w':=by
 obtain ⟨i1,ki,kz0,kz1,kz2⟩:=info_parts mI;have hp:=h.lt;have HS:=aA ((h.below (aC w (.cells #[] 9))).below (aC _ (.cells #[.int .i64 1,.int .i64 1,.int .i64 2,.int .i64 2,.int .i64 3] 2)));have O0:=aA (bR.below (w':=(w.alloc (.cells #[] 9)).alloc (.cells #[.int .i64 1,.int .i64 1,.int .i64 2,.int .i64 2,.int .i64 3] 2)) (ps:=[]) (World.ownsRow_made (base:=w.heap.size) (e:=9) (size:=1) w #[] 0 (Nat.le_refl _) (Nat.zero_le _) rfl) (aC _ _));have HU:=aA hu;have K0:=aA (((aE.refl (fun b=>b=p) w).alloc (.cells #[] 9)).alloc (.cells #[.int .i64 1,.int .i64 1,.int .i64 2,.int .i64 2,.int .i64 3] 2))
 have C5:=aA (zeh (w.alloc (.cells #[] 9)) 1 1 2 2 3 2);clear h hu;go_enter Tryz.func151,Tryz.ntmps151;go_wp2_with fail
 refine (pP p (w.heap.size+1) 5 5 [1,1,2,2,3] zs T _ HS.out HU.out (by omega) hl (by decide) (by decide) rfl (by omega) (by simp) (by simpa using C5.out)).mono ?_
 rintro e w1 ⟨v,hv,rfl,s1,k1⟩;have hv2:1≤v∧v≤3:=by simp at hv;omega
 obtain ⟨m0,rfl⟩:∃ m:Nat,v=m:=⟨v.toNat,by omega⟩
 have S1:=aA s1;have O1:=aA (O0.out.kept k1 (fun b hb e=>by have:=(O0.out.lt b hb).1;omega))
 have K1:=aA (K0.out.trans k1);clear s1 k1 O0 K0 C5 HS hv;go_wp2_with fail
 go_loopw [3,4] (fun v k wr=>∃ (q:List Bs) (m:Nat),k=.int .i64 m∧q.length+m=m0∧Hid (∀ n∈q,dQ n=true∧n.length≤2)∧Hid (bR w.heap.size wr v q)∧Hid (dH wr p zs (T+1+q.length))∧Hid (aE (fun b=>b=p) w wr)) (fun _ k _=>(intOf k).toNat)
 case atStart=>exact ⟨[],m0,rfl,by simp,aA (by simp),O1,aA (by simpa using S1.out),K1⟩
 case round =>
  obtain ⟨q,m,rfl,hqm,HN,HO,HSr,HK⟩:=hrel;obtain ⟨va,vc,rfl⟩:=HO.out.shape;by_cases hm:0<m
  ·have hm':(0:Int)<(m:Int):=by omega
   have hm1:q.length+1≤maxLen:=by unfold maxLen;omega
   have hm2:(q.length+1) * 16≤140737488355328:=by omega
   go_wp2_with fail
   refine (zmi p zs _ _ HSr.out HU.out (by omega) hl).mono ?_
   rintro e w2 ⟨x,rfl,hxl,s2,k2⟩;have S2:=aA s2;have HX:=aA hxl;have O2:=aA (HO.out.kept k2 (fun b hb e=>by have:=(HO.out.lt b hb).1;omega))
   have K2:=aA (HK.out.trans k2);have hsz:w.heap.size≤w2.heap.size:=K2.out.size;clear s2 k2 hxl;go_wp2_with (at_builtin;refine cH rfl (.tmp 13) (.tmp 16) 25 rfl w.heap.size 9 i1 (.string ⟨#[]⟩) 1 16 Tryz.underlying25 ki kz0 kz1 kz2 rfl (by decide) _ _ _ rfl O2.out rfl rfl (by intro u hu;simp at hu;subst hu;rfl) hm1 hm2 hsz ?_;intro v' w3 hown3 hkept;have O3:=aA (bR.snoc hown3 rfl);have K3:=aA hkept;clear hown3 hkept)
   go_roundw
   case rel=>exact ⟨q ++ [x],m - 1,by go_num,by simp;omega,aA (fun n hn=>by rcases List.mem_append.1 hn with h | h;exact HN.out n h;simp at h;rw[h];exact HX.out),O3,aA ((S2.out.kept K3.out (fun b hb e=>by have:=(O2.out.lt b e).1;omega)).mono (by simp;omega)),aA (K2.out.trans_own K3.out (fun b hb e=>by have:=(O2.out.lt b e).1;omega))⟩
   case measure=>simp[intOf];omega
  ·have hm':¬ (0:Int)<(m:Int):=by omega
   have hjl:=yY q (fun n hn=>(HN.out n hn).2)
   have HFP:=aA (show aG (bL q)=0 from nU ⟨by intro e;rw[e]at hqm;simp at hqm;omega,fun n hn=>(HN.out n hn).1,fun n hn=>by have:=(HN.out n hn).2;omega,by omega⟩)
   go_wp2_with fail
   refine (zC _ _ q _ HO.out.reads (by omega) (by omega) _ rfl).mono ?_
   rintro e w2 ⟨rfl,rfl⟩;go_wp2_with fail
   go_ret
   exact ⟨bL q,rfl,HFP.out,by omega,HSr.out.mono (by omega),HK.out⟩
theorem zci (p:Nat) (zs:List Int) (T:Int) (w:World) (h:dH w p zs T) (hu:U8 zs) (hT:T≤800000) (hl:zs.length≤2097152) :
  Calls Tryz.prog 198 #[.pointer (some ⟨p,0,none⟩)] w fun e w'=>∃ x:Bs,e=.returned (.string (str x))∧x.length≤9∧dH w' p zs (T+5)∧aE (fun b=>b=p) w w':=by
 have hp:=h.lt;have HS:=aA h;have HU:=aA hu;clear h hu;go_enter Tryz.func198,Tryz.ntmps198;go_wp2_with fail
 refine (rP p zs T 5 _ HS.out HU.out (by omega) (by decide) (by decide) hl).mono ?_
 rintro e w1 ⟨r,rfl,s1,k1⟩;have S1:=aA s1;have K1:=aA k1;have hp1:=s1.lt;clear s1 k1 HS;cases r
 ·go_wp2_with fail
  refine (zz4 p zs _ _ S1.out HU.out (by omega) hl).mono ?_
  rintro e w2 ⟨x,rfl,-,hxl,s2,k2⟩;have S2:=aA s2;have K2:=aA (K1.out.trans k2);clear k2 s2;go_wp2_with fail
  go_ret
  exact ⟨x,rfl,hxl,S2.out.mono (by omega),K2.out⟩
 ·have T0:=aA (iP.new (Q:=fun x=>x.length≤9) (w:=w1) (t:=9) (vs:=[[],[97],[47,97,47],[47,47],[47,65],[47,97,98,99,100,101],[47,97,47,98,47,99,47,100],[47],[47,97,32,98]]) (by decide))
  have S2:=aA (S1.out.below (aC w1 (.cells ([[],[97],[47,97,47],[47,47],[47,65],[47,97,98,99,100,101],[47,97,47,98,47,99,47,100],[47],[47,97,32,98]].map vS).toArray 9)));go_wp2_with fail
  refine (eZ p zs _ 9 _ S2.out HU.out (by omega) (by decide) (by decide) hl).mono ?_
  rintro e w2 ⟨i,rfl,r1,s2,k2⟩;have T1:=aA (T0.out.kept k2 (by omega))
  have K2:=aA ((K1.out.alloc (.cells ([[],[97],[47,97,47],[47,47],[47,65],[47,97,98,99,100,101],[47,97,47,98,47,99,47,100],[47],[47,97,32,98]].map vS).toArray 9)).trans k2);have S3:=aA s2;clear s2 k2 T0 S2;obtain ⟨x,hx,hxl⟩:=T1.out.2 i (by simp;omega)
  have hb:=T1.out.1;go_wp2_with fail
  go_ret
  exact ⟨x,rfl,hxl,S3.out.mono (by omega),K2.out⟩
theorem mF {p:Bs} {k:Int} (hp:aG p=0) (hk:2≤k∧k≤4):aH ⟨p,k,0,[]⟩=0:=by
 rw[fB (e:=⟨p,k,0,[]⟩) hp (decide_eq_true ⟨⟨by show (1:Int)≤k;omega,by show k≤4;omega⟩,.inr ⟨rfl,rfl⟩⟩) (decide_eq_true (show (0:Int)≤0∧(0:Int)≤24 by decide)) (decide_eq_true (show ((0:Nat):Int)=((0:Int)+7) / 8 by decide))]
 rfl
theorem zi9 {p:Bs} {zs:List Int} (hp:aG p=0) (hl:zs.length≤24):aH (dT p zs)=0:=by
 have h1:gD (dT p zs)=true:=decide_eq_true ⟨by simp[dT],.inl rfl⟩
 have h2:kF (dT p zs)=true:=decide_eq_true (by simp[dT];omega)
 have h3:kT (dT p zs)=true:=decide_eq_true (by show ((lK zs (cut zs).length).length:Int)=((zs.length:Int)+7) / 8;rw[jR,kS];omega)
 rw[fB hp h1 h2 h3,if_pos];rw[List.all_eq_true];intro z hz;simp only[dT,lK,List.mem_map]at hz;obtain ⟨i,_,rfl⟩:=hz;exact decide_eq_true (tQ _)
def zib (w:World) (p:Nat) (zs:List Int) (T:Int) (Q:En→Prop) (r:Ending) (w':World):Prop :=
 ∃ (e:En) (a:Option Addr) (c:Nat),r=.returned (.agg #[.string (str e.path),.int .i64 e.kind,.int .i64 e.size,.slice a e.chunks.length c])∧Q e∧w'.ownsRow w.heap.size 2 1 (.slice a e.chunks.length c) e.chunks.length (e.chunks.map (Value.int .i64))∧dH w' p zs T∧aE (fun b=>b=p) w w'
end Go.Proofs.YtgaeikgoknoamaaGreat
