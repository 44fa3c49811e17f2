/-
  Texts put together: LazL FetL LazI LazR LazS MapF LazT LazU.
-/
import Derived.Test.YtgaeikgoknoamaaGreatKKeeps8
import Derived.Test.YtgaeikgoknoamaaGreatKKeeps19
import Derived.Test.YtgaeikgoknoamaaGreatKKeeps27
import Derived.Test.YtgaeikgoknoamaaGreatKKeeps24
import Derived.Test.YtgaeikgoknoamaaGreatKKeeps25
import Derived.Test.YtgaeikgoknoamaaGreatKKeeps10
import Derived.Test.YtgaeikgoknoamaaGreatKKeeps20
import Derived.Test.YtgaeikgoknoamaaGreatKKeeps9
import Derived.Deep.RegionHeld3
set_option linter.unusedVariables false
set_option maxHeartbeats 3200000
set_option maxRecDepth 100000
namespace Go.Proofs.YtgaeikgoknoamaaGreat
def nN (ls:List (List En)) (D:Nat→Int) (P:Nat→List Int) (n:Nat):Int:=if bY ls=0 then fC D P n else bY ls
theorem zg6 {ls:List (List En)} {D:Nat→Int} {P:Nat→List Int} {n:Nat}:nN ls D P n=0↔bY ls=0∧fC D P n=0:=by
 unfold nN;by_cases h:bY ls=0
 ·simp[h]
 ·rw[if_neg h];simp[h]
theorem zw7 (e:En):(asT e).chunks=e.chunks:=by unfold asT;split <;> rfl
def lR (D:Nat→Int) (P:Nat→List Int):Nat→Int→Option (List Int)
 | 0,_=>none
 | n+1,z=>if D n=z then some (P n) else lR D P n z
theorem nQ {D:Nat→Int} {P:Nat→List Int} {z:Int}:∀ {n:Nat},lR D P n z=none↔∀ i,i<n→D i≠z
 | 0=>by simp[lR]
 | n+1=>by
  unfold lR;by_cases h:D n=z
  ·rw[if_pos h]
   constructor
   ·intro h2;cases h2
   ·intro h2;exact absurd h (h2 n (by omega))
  ·rw[if_neg h,nQ]
   constructor
   ·intro h2 i hi
    by_cases e:i=n
    ·subst e;exact h
    ·exact h2 i (by omega)
   ·intro h2 i hi;exact h2 i (by omega)
theorem qG {D:Nat→Int} {P:Nat→List Int} {z:Int} {x:List Int}:∀ {n:Nat},lR D P n z=some x→∃ i,i<n∧D i=z∧P i=x
 | 0,h=>by cases h
 | n+1,h=>by
  unfold lR at h;by_cases e:D n=z
  ·rw[if_pos e]at h
   exact ⟨n,by omega,e,Option.some.inj h⟩
  ·rw[if_neg e]at h
   obtain ⟨i,h1,h2⟩:=qG h;exact ⟨i,by omega,h2⟩
theorem zzh {D:Nat→Int} {P:Nat→List Int} {n i:Nat} (hR:cF D P n) (hi:i<n):lR D P n (D i)=some (P i):=by
 cases h:lR D P n (D i) with
 | none=>exact absurd rfl (nQ.1 h i hi)
 | some x =>
  obtain ⟨j,hj,h1,h2⟩:=qG h;have:j=i:=by
   rcases Nat.lt_trichotomy j i with h3 | h3 | h3
   ·exact absurd h1 (hR.first hi j h3)
   ·exact h3
   ·exact absurd h1.symm (hR.first hj i h3)
  subst this;rw[h2]
def pV (D:Nat→Int) (P:Nat→List Int) (n:Nat):List Int→Option (List Int)
 | []=>some []
 | z :: r=>(lR D P n z).bind fun x=>(pV D P n r).map (x ++ ·)
theorem zo8 (js:Nat→List Int) (k:Nat):lZ js (k+1)=js 0++lZ (fun j=>js (j+1)) k:=by
 unfold lZ;rw[List.range_succ_eq_map,List.flatMap_cons,List.flatMap_map]
theorem zo0 (D:Nat→Int) (P:Nat→List Int) (n:Nat):∀ zs:List Int,∃ (m:Nat) (js:Nat→List Int),m≤zs.length∧(∀ j,j<m→∃ i,i<n∧D i=zs.getD j 0∧P i=js j)∧(m<zs.length→∀ i,i<n→D i≠zs.getD m 0)∧pV D P n zs=if m=zs.length then some (lZ js m) else none
 | []=>⟨0,fun _=>[],Nat.le_refl _,fun j hj=>absurd hj (by omega),fun h=>absurd h (by simp),by simp[pV,lZ]⟩
 | z :: r=>by
  obtain ⟨m,js,h1,h2,h3,h4⟩:=zo0 D P n r;cases hp:lR D P n z with
  | none=>exact ⟨0,fun _=>[],Nat.zero_le _,fun j hj=>absurd hj (by omega),fun _=>by simpa using nQ.1 hp,by simp[pV,hp]⟩
  | some x =>
   refine ⟨m+1,fun j=>if j=0 then x else js (j - 1),by simp;omega,fun j hj=>?_,fun h i hi=>?_,?_⟩
   ·cases j with
    | zero =>
     obtain ⟨i,a1,a2,a3⟩:=qG hp;exact ⟨i,a1,by simpa using a2,by simpa using a3⟩
    | succ j =>
     obtain ⟨i,a1,a2,a3⟩:=h2 j (by omega)
     exact ⟨i,a1,by simpa using a2,by simpa using a3⟩
   ·have:=h3 (by simpa using h) i hi
    simpa using this
   ·rw[zo8]
    simp only[pV,hp,Option.bind_some,h4,if_true,List.length_cons,Nat.add_right_cancel_iff];by_cases hm:m=r.length
    ·rw[if_pos hm,if_pos hm];simp
    ·rw[if_neg hm,if_neg hm];rfl
end Go.Proofs.YtgaeikgoknoamaaGreat
namespace Go.Proofs.YtgaeikgoknoamaaGreat
open Go.RowKit
theorem zch {α:Type} {l:List α} {i:Nat} (x:α) (h:i<l.length):l.getD i x∈l:=by
 rw[List.getD_eq_getElem?_getD,List.getElem?_eq_getElem h];exact List.getElem_mem h
end Go.Proofs.YtgaeikgoknoamaaGreat
namespace Go.Proofs.YtgaeikgoknoamaaGreat
open Go.RowKit Go.Maps
attribute [local go_sem ↓] Go.wp_at_zero Go.wp_at_succ
theorem vW (a:Option Addr) (c m:Nat) (ls:List (List En)) (b:Option Addr) (d n:Nat) (D:Nat→Int) (P:Nat→List Int) (w:World) (h:RdL w a ls) (hm:m=ls.length) (hl:ls.length≤1048576) (hs:fV ls) (hC:RdC w b D P n) (hn:n≤1048576) (hP:∀ i,i<n→U8 (P i)∧(P i).length≤1048576) :
  Calls Tryz.prog 123 #[.slice a m c,.slice b n d] w fun e w'=>e=.returned (.int .i64 (nN ls D P n))∧Below w.heap.size w w':=by
 subst hm;have HLF:=aA (kR a c ls.length ls w h rfl hl hs);have HCF:=aA (fun (u:World) (hu:Below w.heap.size w u)=>mH b d n D P u (hC.below hu) hn hP)
 unfold nN;clear h hC hP hs;by_cases hz:bY ls=0
 ·rw[hz]at HLF
  rw[if_pos hz];generalize fC D P n=F at *;clear hz;go_enter Tryz.func123,Tryz.ntmps123;go_wp2_with fail
  refine HLF.out.mono ?_;rintro r w1 ⟨rfl,hb1⟩;have B1:=aA hb1;clear hb1;go_wp2_with fail
  refine (HCF.out _ B1.out).mono ?_;rintro r w2 ⟨rfl,hb2⟩;have B2:=aA (aB B1.out hb2);clear hb2;go_wp2_with fail
  go_ret
  exact ⟨rfl,B2.out⟩
 ·rw[if_neg hz]
  generalize bY ls=F at *;have hz2:(F != 0)=true:=by simp;exact hz
  clear hz;go_enter Tryz.func123,Tryz.ntmps123;go_wp2_with fail
  refine HLF.out.mono ?_;rintro r w1 ⟨rfl,hb1⟩;have B1:=aA hb1;clear hb1;go_wp2_with fail
  go_ret
  exact ⟨rfl,B1.out⟩
theorem zwg {e:En} (hz:aI e=0):∀ d∈e.chunks,0≤d∧d≤4294967295:=by
 intro d hc;have hall:e.chunks.all fO=true:=by
  by_cases hx:e.chunks.all fO=true
  ·exact hx
  ·exfalso
   unfold aI at hz;rw[if_neg hx]at hz;split at hz
   ·split at hz
    ·split at hz
     ·split at hz
      ·omega
      ·omega
     ·omega
    ·omega
   ·contradiction
 have:=List.all_eq_true.1 hall d hc;simpa [fO] using this
def sW (w:World) (b:Nat) (u0 u1 u2:Value):Prop:=w.cell? ⟨b,0,none⟩=some u0∧w.cell? ⟨b,1,none⟩=some u1∧w.cell? ⟨b,2,none⟩=some u2
theorem sW.new (w:World) (u0 u1 u2:Value) (t:TypeId):sW (w.alloc (.cells #[u0,u1,u2] t)) w.heap.size u0 u1 u2:=by
 refine ⟨?_,?_,?_⟩ <;> simp
theorem sW.below {w w':World} {b:Nat} {u0 u1 u2:Value} (h:sW w b u0 u1 u2) (hk:Below w.heap.size w w'):sW w' b u0 u1 u2:=by
 obtain ⟨h0,h1,h2⟩:=h;have hb:b<w.heap.size:=World.block_lt_of_cell? w ⟨b,0,none⟩ h0;exact ⟨(hk.cell (p:=⟨b,0,none⟩) hb).trans h0,(hk.cell (p:=⟨b,1,none⟩) hb).trans h1,(hk.cell (p:=⟨b,2,none⟩) hb).trans h2⟩
theorem dT.yesB {w:World} {b N:Nat} {L:List Ch} {d:Int} {zs:List Int} {T:Nat} (h:dT w b N L T) (hp:(d,zs)∈L) (hw:(Lit.int .i64 d).wf=true) (t:TypeId) (ht:Tryz.prog.underlying t=some (.map 2 65)) :
  ∃ a c,(∀ u:World,Below w.heap.size w u→(Instr.lookup t (.map (some b)) (.int .i64 d) true).run Tryz.prog u=.ok (.tuple #[.agg #[.int .i64 d,.slice a zs.length c],.bool true]) u)∧aO .u8 w a zs∧∀ x,a=some x→x.block<T:=by
 obtain ⟨Dt,A,C,h1,h2,h3,h4,h5⟩:=h;have hm:d∈L.map Prod.fst:=List.mem_map_of_mem (f:=Prod.fst) hp;refine ⟨A d,C d,fun u hu=>?_,(h3 _ hp).2⟩
 have k1:=wC (S:=fun _=>False) h1 (aD.of_below hu) id
 obtain ⟨v,ps,hrun,hv⟩:=k1.look_ok rL ht (zj1 u) (zd:=.held (.agg #[.int .i64 0,.slice none 0 0])) (zp:=[]) rfl (xD hw);simp only[RV,Option.some.injEq,Prod.mk.injEq,(h3 _ hp).1]at hv;have e:=hv.1;simp only[DataW.held.injEq]at e;rw[hrun,h2 d];simp[hm,e,chv]
theorem zai (s:Int) (x:Option Addr) (c:Nat) (zs:List Int) (bm n j T:Nat) (D:Nat→Int) (P:Nat→List Int) (w:World) (h:aO .i64 w x zs) (hH:dT w bm n (lst D P n) T) (hj:j<zs.length) (hl:zs.length≤3) (z:Int) (hzj:zs.getD j 0=z) (hz:0≤z∧z≤4294967295) (ys:List Int) (hi:∃ i,i<n∧D i=z∧P i=ys) :
  Calls Tryz.prog 126 #[.agg #[.int .i64 s,.slice x zs.length c,.map (some bm)],.int .i64 j] w fun e w'=>∃ a' c',e=.returned (.tuple #[.slice a' ys.length c',.bool true])∧aO .u8 w' a' ys∧(∀ x,a'=some x→x.block<T)∧Below w.heap.size w w':=by
 obtain ⟨i,hi,hd,hy⟩:=hi;obtain ⟨b1,o1,rfl,hb1,hc1⟩:=h (by intro e;simp[e]at hj)
 have hc:=hc1 j hj;rw[hzj]at hc;have hwf:=zs5 hz.1 hz.2;obtain ⟨a3,c3,hrun,hr3,hlow⟩:=hH.yesB (xG.2 ⟨i,hi,by rw[hd,hy]⟩:(z,ys)∈lst D P n) hwf 113 Tryz.underlying113
 have A0:=aA (aC w (.cells #[.int .i64 s,.slice (some ⟨b1,o1,none⟩) zs.length c,.map (some bm)] 126));have X0:=aA (sW.new w (.int .i64 s) (.slice (some ⟨b1,o1,none⟩) zs.length c) (.map (some bm)) 126);have HR3:=aA hr3;have HLW:=aA hlow;have KB:Hid (∀ u:World,Below (w.alloc (.cells #[.int .i64 s,.slice (some ⟨b1,o1,none⟩) zs.length c,.map (some bm)] 126)).heap.size (w.alloc (.cells #[.int .i64 s,.slice (some ⟨b1,o1,none⟩) zs.length c,.map (some bm)] 126)) u→(u.cell? ⟨w.heap.size,0,none⟩=some (.int .i64 s)∧u.cell? ⟨w.heap.size,1,none⟩=some (.slice (some ⟨b1,o1,none⟩) zs.length c)∧u.cell? ⟨w.heap.size,2,none⟩=some (.map (some bm)))∧u.cell? ⟨b1,o1+j,none⟩=some (.int .i64 z)∧(Instr.lookup 113 (.map (some bm)) (.int .i64 z) true).run Tryz.prog u=.ok (.tuple #[.agg #[.int .i64 z,.slice a3 ys.length c3],.bool true]) u):=aA (fun u hu=>by
  have hwu:=aB A0.out hu;exact ⟨X0.out.below hu,(hwu.cell (p:=⟨b1,o1+j,none⟩) hb1).trans hc,hrun u hwu⟩)
 have hj0:(0:Int)≤(j:Int):=by omega
 have hj1:(j:Int)<(zs.length:Int):=by omega
 clear hc hc1 hrun hr3 hlow hH h hd hy hz hzj hwf;go_enter Tryz.func126,Tryz.ntmps126;go_wp2_with fail
 generalize w.alloc (.cells #[.int .i64 s,.slice (some ⟨b1,o1,none⟩) zs.length c,.map (some bm)] 126)=W1 at *;obtain ⟨B,hB⟩:∃ B,B=w.heap.size:=⟨_,rfl⟩;rw[←hB]at KB ⊢;have hBl:B<W1.heap.size:=World.block_lt_of_cell? W1 ⟨B,0,none⟩ (KB.out W1 (Below.refl _ _)).1.1;clear hB;go_region_held3 (fun u=>(u.cell? ⟨B,0,none⟩=some (.int .i64 s)∧u.cell? ⟨B,1,none⟩=some (.slice (some ⟨b1,o1,none⟩) zs.length c)∧u.cell? ⟨B,2,none⟩=some (.map (some bm)))∧u.cell? ⟨b1,o1+j,none⟩=some (.int .i64 z)∧(Instr.lookup 113 (.map (some bm)) (.int .i64 z) true).run Tryz.prog u=.ok (.tuple #[.agg #[.int .i64 z,.slice a3 ys.length c3],.bool true]) u) (first | exact KB.out _ (Below.refl _ _).drew | exact KB.out _ (aB (Below.refl _ _).drew (aC _ _)) | go_keep) (fail)
 all_goals
  go_wp2_with fail
  exact bodyPost_ret (v:=.tuple #[.slice a3 ys.length c3,.bool true]) (by simp[results,Tryz.results126,go_sem]) rfl ⟨a3,c3,rfl,HR3.out.below (aB A0.out (aB (Below.refl _ _).drew (aC _ _))),HLW.out,aB A0.out (aB (Below.refl _ _).drew (aC _ _))⟩
theorem zbk (s:Int) (x:Option Addr) (c:Nat) (zs:List Int) (bm n j T:Nat) (D:Nat→Int) (P:Nat→List Int) (w:World) (h:aO .i64 w x zs) (hH:dT w bm n (lst D P n) T) (hj:j<zs.length) (hl:zs.length≤3) (z:Int) (hzj:zs.getD j 0=z) (hz:0≤z∧z≤4294967295) (hi:∀ i,i<n→D i≠z) :
  Calls Tryz.prog 126 #[.agg #[.int .i64 s,.slice x zs.length c,.map (some bm)],.int .i64 j] w fun e w'=>e=.returned (.tuple #[.slice none 0 0,.bool false])∧Below w.heap.size w w':=by
 obtain ⟨b1,o1,rfl,hb1,hc1⟩:=h (by intro e;simp[e]at hj)
 have hc:=hc1 j hj;rw[hzj]at hc;have hwf:=zs5 hz.1 hz.2;have hrun:=fun (u:World) (hu:Below w.heap.size w u)=>(hH.below hu).no (by intro hm;obtain ⟨i,hi2,e⟩:=zma.1 hm;exact hi i hi2 e) hwf 113 Tryz.underlying113
 have A0:=aA (aC w (.cells #[.int .i64 s,.slice (some ⟨b1,o1,none⟩) zs.length c,.map (some bm)] 126));have X0:=aA (sW.new w (.int .i64 s) (.slice (some ⟨b1,o1,none⟩) zs.length c) (.map (some bm)) 126);have KB:Hid (∀ u:World,Below (w.alloc (.cells #[.int .i64 s,.slice (some ⟨b1,o1,none⟩) zs.length c,.map (some bm)] 126)).heap.size (w.alloc (.cells #[.int .i64 s,.slice (some ⟨b1,o1,none⟩) zs.length c,.map (some bm)] 126)) u→(u.cell? ⟨w.heap.size,0,none⟩=some (.int .i64 s)∧u.cell? ⟨w.heap.size,1,none⟩=some (.slice (some ⟨b1,o1,none⟩) zs.length c)∧u.cell? ⟨w.heap.size,2,none⟩=some (.map (some bm)))∧u.cell? ⟨b1,o1+j,none⟩=some (.int .i64 z)∧(Instr.lookup 113 (.map (some bm)) (.int .i64 z) true).run Tryz.prog u=.ok (.tuple #[.agg #[.int .i64 0,.slice none 0 0],.bool false]) u):=aA (fun u hu=>by
  have hwu:=aB A0.out hu;exact ⟨X0.out.below hu,(hwu.cell (p:=⟨b1,o1+j,none⟩) hb1).trans hc,hrun u hwu⟩)
 have hj0:(0:Int)≤(j:Int):=by omega
 have hj1:(j:Int)<(zs.length:Int):=by omega
 clear hc hc1 hrun hH h hi hz hzj hwf;go_enter Tryz.func126,Tryz.ntmps126;go_wp2_with fail
 generalize w.alloc (.cells #[.int .i64 s,.slice (some ⟨b1,o1,none⟩) zs.length c,.map (some bm)] 126)=W1 at *;obtain ⟨B,hB⟩:∃ B,B=w.heap.size:=⟨_,rfl⟩;rw[←hB]at KB ⊢;have hBl:B<W1.heap.size:=World.block_lt_of_cell? W1 ⟨B,0,none⟩ (KB.out W1 (Below.refl _ _)).1.1;clear hB;go_region_held3 (fun u=>(u.cell? ⟨B,0,none⟩=some (.int .i64 s)∧u.cell? ⟨B,1,none⟩=some (.slice (some ⟨b1,o1,none⟩) zs.length c)∧u.cell? ⟨B,2,none⟩=some (.map (some bm)))∧u.cell? ⟨b1,o1+j,none⟩=some (.int .i64 z)∧(Instr.lookup 113 (.map (some bm)) (.int .i64 z) true).run Tryz.prog u=.ok (.tuple #[.agg #[.int .i64 0,.slice none 0 0],.bool false]) u) (first | exact KB.out _ (Below.refl _ _).drew | exact KB.out _ (aB (Below.refl _ _).drew (aC _ _)) | go_keep) (fail)
 all_goals
  go_wp2_with fail
  exact bodyPost_ret (v:=.tuple #[.slice none 0 0,.bool false]) (by simp[results,Tryz.results126,go_sem]) rfl ⟨rfl,aB A0.out (aB (Below.refl _ _).drew (aC _ _))⟩
abbrev Pt:=Option Addr × List Int × Nat
def ptV (p:Pt):Value:=.slice p.1 p.2.1.length p.2.2
structure PsW (B:Nat) (w:World) (v:Value) (ps:List Pt):Prop where
 row:w.ownsRow B 22 1 v ps.length (ps.map ptV)
 rd:∀ p∈ps,aO .u8 w p.1 p.2.1
 low:∀ p∈ps,∀ x,p.1=some x→x.block<B
theorem PsW.nil (B:Nat) (w:World):PsW B w (.slice none 0 0) []:=⟨World.ownsRow_nil _ _ _ _,by simp,by simp⟩
theorem PsW.below {B:Nat} {w w':World} {v:Value} {ps:List Pt} (h:PsW B w v ps) (hk:Below w.heap.size w w'):PsW B w' v ps :=
 ⟨aG h.row hk,fun p hp=>(h.rd p hp).below hk,h.low⟩
theorem PsW.push {B:Nat} {w w':World} {v v':Value} {ps:List Pt} {p:Pt} (h:PsW B w v ps) (hp:aO .u8 w p.1 p.2.1) (hl:∀ x,p.1=some x→x.block<B) (ho:w'.ownsRow B 22 1 v' (ps.length+1) (ps.map ptV ++ [ptV p])) (hk:aD (fun b=>v.ownBlock=some b) w w'):PsW B w' v' (ps ++ [p]):=by
 have far:∀ q:Pt,aO .u8 w q.1 q.2.1→(∀ x,q.1=some x→x.block<B)→aO .u8 w' q.1 q.2.1:=fun q hq hlq=>hq.kept hk (fun _ x hx e=>by
  have:=(h.row.lt _ e).1;have:=hlq x hx;omega)
 refine ⟨by simpa using ho,fun q hq=>?_,fun q hq=>?_⟩
 ·rcases List.mem_append.1 hq with hq | hq
  ·exact far q (h.rd q hq) (h.low q hq)
  ·have:q=p:=by simpa using hq
   subst this;exact far q hp hl
 ·rcases List.mem_append.1 hq with hq | hq
  ·exact h.low q hq
  ·have:q=p:=by simpa using hq
   subst this;exact hl
theorem zyk:(Tryz.prog.info? 22).map (fun i=>(i.zero,i.size,i.bytes))=some (some (.slice none 0 0),1,24):=by kernel_rfl
theorem zof (s:Int) (x:Option Addr) (c:Nat) (zs:List Int) (bm n T:Nat) (D:Nat→Int) (P:Nat→List Int) (w:World) (h:aO .i64 w x zs) (hH:dT w bm n (lst D P n) T) (hT:T≤w.heap.size) (hl:zs.length≤3) (hz:∀ j,j<zs.length→0≤zs.getD j 0∧zs.getD j 0≤4294967295)
  (m:Nat) (hm:m≤zs.length) (js:Nat→List Int) (hj:∀ j,j<m→∃ i,i<n∧D i=zs.getD j 0∧P i=js j) (hno:m<zs.length→∀ i,i<n→D i≠zs.getD m 0) :
  Calls Tryz.prog 72 #[.agg #[.int .i64 s,.slice x zs.length c,.map (some bm)]] w fun e w'=>((m=zs.length∧∃ v ps B,e=.returned (.tuple #[v,.bool true])∧PsW B w' v ps∧ps.map (fun p=>p.2.1)=(List.range m).map js)∨(m<zs.length∧e=.returned (.tuple #[.slice none 0 0,.bool false])))∧Below w.heap.size w w':=by
 obtain ⟨i1,ki,kz0,kz1,kz2⟩:=info_parts zyk;have A0:=aA (aC w (.cells #[.int .i64 s,.slice x zs.length c,.map (some bm)] 126));have X0:=aA (sW.new w (.int .i64 s) (.slice x zs.length c) (.map (some bm)) 126);have HR:=aA h;have HH:=aA hH;have HZ:=aA hz;have HJ:=aA hj;have HN:=aA hno;clear h hH hz hj hno;obtain ⟨t0,t1,t2⟩:=X0.out;go_enter Tryz.func72,Tryz.ntmps72;go_wp2_with fail
 clear t0 t1 t2;generalize w.alloc (.cells #[.int .i64 s,.slice x zs.length c,.map (some bm)] 126)=W1 at *;obtain ⟨B,hB⟩:∃ B,B=w.heap.size:=⟨_,rfl⟩;rw[←hB];rw[←hB]at X0;have HBe:=aA hB;clear hB;go_loopw [4,5,6,7,12] (fun v _ _ _ i wr=>∃ (j:Nat) (ps:List Pt),j≤m∧i=.int .i64 j∧ps.length=j∧Hid (PsW W1.heap.size wr v ps)∧Hid (ps.map (fun p=>p.2.1)=(List.range j).map js)∧Hid (Below W1.heap.size W1 wr)) (fun _ _ _ _ i _=>zs.length - (intOf i).toNat)
 case atStart=>exact ⟨0,[],Nat.zero_le _,rfl,rfl,aA (PsW.nil _ _),aA rfl,aA (Below.refl _ _)⟩
 case round =>
  obtain ⟨j,ps,hjm,rfl,hpl,HP,HM,HW⟩:=hrel;obtain ⟨pv,pc,hv⟩:=aQ HP.out.row;rw[hpl]at hv;subst hv;have BW:=aA (aB A0.out HW.out);obtain ⟨t0,t1,t2⟩:=X0.out.below HW.out;by_cases hlt:j<zs.length
  ·have hlt':(j:Int)<(zs.length:Int):=by omega
   obtain ⟨z,hzz⟩:∃ z,zs.getD j 0=z:=⟨_,rfl⟩;have hzr:=HZ.out j hlt;rw[hzz]at hzr;by_cases hjlt:j<m
   ·have HPY:=aA (zai s x c zs bm n j T D P wr (HR.out.below BW.out) (HH.out.below BW.out) hlt hl z hzz hzr (js j) (by obtain ⟨i,h1,h2,h3⟩:=HJ.out j hjlt;exact ⟨i,h1,h2.trans hzz,h3⟩))
    have HRS:=aA (show (List.range (j+1)).map js=(List.range j).map js ++ [js j] from by rw[List.range_succ,List.map_append];rfl)
    generalize js j=ys at *;clear hzz hzr;go_wp2_with fail
    refine HPY.out.mono ?_;rintro e w2 ⟨a2,c2,rfl,hr2,hl2,hb2⟩;have HP2:=aA (HP.out.below hb2);have HW2:=aA (aB HW.out hb2);have BW2:=aA (aB BW.out hb2);have R2:=aA hr2;have L2:=aA hl2;have hsz:=HW2.out.size;have hsA:=A0.out.size;have HPL:=aA hpl;have HO2:Hid (w2.ownsRow W1.heap.size 22 1 (.slice pv j pc) j (ps.map ptV)):=by have:=HP2.out.row;rw[hpl]at this;exact aA this
    have hm1:j+1≤maxLen:=by unfold maxLen;omega
    have hm2:(j+1) * 24≤140737488355328:=by omega
    clear hr2 hl2 hb2 hpl HPY t0 t1 t2;go_wp2_with (at_builtin;refine bS rfl (.tmp 23) (.tmp 25) 129 rfl W1.heap.size 22 i1 (.slice none 0 0) 1 24 Tryz.underlying129 ki kz0 kz1 kz2 rfl (by decide) _ _ _ rfl HO2.out rfl rfl (by intro u hu;simp at hu;subst hu;rfl) hm1 hm2 hsz ?_;intro v' w3 hown3 hkept;have O3:=aA hown3;have K3:=aA hkept;clear hown3 hkept)
    go_roundw
    case rel =>
     refine ⟨j+1,ps ++ [(a2,ys,c2)],by omega,by go_num,by simp[HPL.out],aA ?_,aA ?_,aA ?_⟩
     ·exact PsW.push (p:=(a2,ys,c2)) HP2.out R2.out (fun x hx=>by have:=L2.out x hx;omega) (by rw[HPL.out];simpa [ptV] using O3.out) K3.out
     ·rw[List.map_append,HM.out,HRS.out];rfl
     ·exact aD.below_own HW2.out hsz HO2.out K3.out
    case measure=>simp[intOf];omega
   ·have hje:j=m:=by omega
    subst hje;have HPN:=aA (zbk s x c zs bm n j T D P wr (HR.out.below BW.out) (HH.out.below BW.out) hlt hl z hzz hzr (by rw[←hzz];exact HN.out hlt))
    clear hzz hzr;go_wp2_with fail
    refine HPN.out.mono ?_;rintro e w2 ⟨rfl,hb2⟩;have BW2:=aA (aB BW.out hb2);clear hb2;go_wp2_with fail
    exact bodyPost_ret (v:=.tuple #[.slice none 0 0,.bool false]) (by simp[results,Tryz.results72,go_sem]) rfl ⟨.inr ⟨hlt,rfl⟩,BW2.out⟩
  ·have hje:j=m:=by omega
   subst hje;have hme:j=zs.length:=by omega
   have hlt':¬ (j:Int)<(zs.length:Int):=by omega
   have HME:=aA hme;clear hme;go_wp2_with fail
   exact bodyPost_ret (v:=.tuple #[.slice pv j pc,.bool true]) (by simp[results,Tryz.results72,go_sem]) rfl ⟨⟨HME.out,_,rfl,ps,⟨_,HP.out⟩,HM.out⟩,BW.out⟩
theorem zec (a:Option Addr) (c B:Nat) (ps:List Pt) (w:World) (h:PsW B w (.slice a ps.length c) ps) (hl:ps.length≤3) (hp:∀ p∈ps,1≤p.2.1.length∧p.2.1.length≤8) :
  Calls Tryz.prog 73 #[.slice a ps.length c] w fun e w'=>∃ a' c',e=.returned (.slice a' (ps.map (fun p=>p.2.1)).flatten.length c')∧w'.ownsRow w.heap.size 5 1 (.slice a' (ps.map (fun p=>p.2.1)).flatten.length c') (ps.map (fun p=>p.2.1)).flatten.length ((ps.map (fun p=>p.2.1)).flatten.map (Value.int .u8))∧Below w.heap.size w w':=by
 obtain ⟨i1,ki,kz0,kz1,kz2⟩:=info_parts Tryz.infoU8;have HP:=aA h;have HL:=aA hp;clear h hp;have HFL:=aA (fun (j:Nat) (hj:j≤ps.length)=>show (((ps.take j).map (fun p=>p.2.1)).flatten).length≤8 * j from by
  induction j with
  | zero=>simp
  | succ j ih =>
   have:=ih (by omega)
   have he:ps[j]?=some (ps[j]'(by omega)):=List.getElem?_eq_getElem (by omega)
   have h8:=(HL.out _ (List.mem_of_getElem? he)).2;rw[List.take_add_one,he];simp only[Option.toList_some,List.map_append,List.map_cons,List.map_nil,List.flatten_append,List.flatten_cons,List.flatten_nil,List.append_nil,List.length_append];omega)
 go_enter Tryz.func73,Tryz.ntmps73;go_wp2_with fail
 go_loopw [3,5,8] (fun v _ i wr=>∃ j:Nat,j≤ps.length∧i=.int .i64 j∧Hid (wr.ownsRow w.heap.size 5 1 v (((ps.take j).map (fun p=>p.2.1)).flatten).length ((((ps.take j).map (fun p=>p.2.1)).flatten).map (Value.int .u8)))∧Hid (Below w.heap.size w wr)) (fun _ _ i _=>ps.length - (intOf i).toNat)
 case atStart=>exact ⟨0,Nat.zero_le _,rfl,aA (by simpa using World.ownsRow_nil _ _ _ _),aA (Below.refl _ _)⟩
 case round =>
  obtain ⟨j,hj,rfl,HO,HW⟩:=hrel;obtain ⟨lv,lc,hv⟩:=aQ HO.out;subst hv;by_cases hlt:j<ps.length
  ·have he:ps[j]?=some (ps[j]'hlt):=List.getElem?_eq_getElem hlt
   generalize ps[j]'hlt=p at he;have hpm:=List.mem_of_getElem? he;have hl8:=HL.out p hpm;have hr:=(HP.out.rd p hpm).below HW.out;have hlow:=HP.out.low p hpm;have hfl:=HFL.out j hj;have HST:=aA (show ((ps.take (j+1)).map (fun p=>p.2.1)).flatten=((ps.take j).map (fun p=>p.2.1)).flatten++p.2.1 from by rw[List.take_add_one,he];simp)
   obtain ⟨bn,hpa,hcn⟩:∃ bn,a=some ⟨bn,0,none⟩∧wr.cell? ⟨bn,j,none⟩=some (ptV p):=by
    have hrow:=aG HP.out.row HW.out;rcases hrow.2 with ⟨h',h0⟩ | ⟨g,cap,cur,h',hb,hgb,hx⟩
    ·omega
    ·simp only[Value.slice.injEq]at h'
     obtain ⟨rfl,-,rfl⟩:=h';refine ⟨g,rfl,?_⟩;have:=hrow.cellAt j (by omega)
     rw[this,List.getElem?_map,he];rfl
   subst hpa;unfold ptV at hcn;obtain ⟨px,pbs,pcc⟩:=p;simp only at hl8 hr hlow HST hcn;obtain ⟨b2,o2,rfl,hb2,hc2⟩:=hr (by intro e;subst e;simp at hl8)
   generalize ((ps.take j).map (fun p=>p.2.1)).flatten=ys at *
   have hsz:=HW.out.size;have HC2:=aA hc2;have hm1:ys.length+pbs.length≤maxLen:=by unfold maxLen;omega
   have hm2:(ys.length+pbs.length) * 1≤140737488355328:=by omega
   clear he hpm hc2 hlow hr;go_wp2_with (at_builtin;refine wY rfl (.tmp 12) (.tmp 13) 22 rfl w.heap.size 5 i1 .u8 1 Tryz.underlying22 ki kz0 kz1 kz2 _ _ ys rfl HO.out b2 o2 _ pcc pbs rfl rfl HC2.out hm1 hm2 hsz ?_;intro v' w3 hown2 hkept;have O2:=aA hown2;have K2:=aA hkept;clear hown2 hkept)
   go_roundw
   case rel=>exact ⟨j+1,by omega,by go_num,by rw[HST.out,List.length_append];exact O2,aA (aD.below_own HW.out hsz HO.out K2.out)⟩
   case measure=>simp[intOf];omega
  ·have hke:ps.take j=ps:=List.take_of_length_le (by omega)
   rw[hke]at HO ⊢;clear hke;go_wp2_with fail
   go_ret
   exact ⟨_,_,rfl,HO.out,HW.out⟩
end Go.Proofs.YtgaeikgoknoamaaGreat
namespace Go.Proofs.YtgaeikgoknoamaaGreat
open Go.RowKit Go.Maps
theorem sT (a:Option Addr) (c n:Nat) (D:Nat→Int) (P:Nat→List Int) (w0 w:World) (h:RdC w0 a D P n) (hb0:Below w0.heap.size w0 w) (hR:cF D P n) :
  Calls Tryz.prog 63 #[.slice a n c] w fun e w'=>∃ b,e=.returned (.map (some b))∧w.heap.size≤b∧dT w' b n (lst D P n) w0.heap.size∧Below w.heap.size w w':=by
 have HA:=aA h;have HR:=aA hR;have HB0:=aA hb0;have hn:=hR.many;clear h hR hb0;have hmm:∀ u:World,(Instr.makeMap 113 (some (.int .i64 (n:Int)))).run Tryz.prog u=.ok (.map (some u.heap.size)) (u.alloc (.map #[] 0)):=fun u=>by simp[Instr.makeMap,asInt,asIntOf,Result.andThen]
 go_enter Tryz.func63,Tryz.ntmps63;go_wp2
 go_loopw [5,11] (fun _ i wr=>∃ k:Nat,k≤n∧i=.int .i64 k∧dT wr w.heap.size k (lst D P k) w0.heap.size∧Below w.heap.size w wr) (fun _ i _=>n - (intOf i).toNat)
 case atStart=>exact ⟨0,Nat.zero_le _,rfl,dT.made w _,aC _ _⟩
 case round =>
  obtain ⟨k,hk,rfl,hH,hbel⟩:=hrel;have HH:=aA hH;have HW:=aA hbel;have HWW:=aA (aB HB0.out hbel);clear hH hbel;by_cases hlt:k<n
  ·obtain ⟨b1,o1,A1,C1,rfl,hb1,hc1⟩:=HA.out (by omega)
   obtain ⟨c1,e1,r1⟩:=hc1 k hlt;have c1:=(HWW.out.cell (p:=⟨b1,o1+k * 2,none⟩) hb1).trans c1;have e1:=(HWW.out.cell (p:=⟨b1,o1+k * 2+1,none⟩) hb1).trans e1;have hpos:=(HR.out.u8len hlt).1;have hT:=r1.lt (by intro e;simp[e]at hpos)
   have r1:=r1.below HWW.out;have hnew:=HR.out.new hlt;have hwf:=HR.out.wf hlt;have HS:=aA (zI D P k);generalize A1 k=a1 at e1 r1 hT;generalize C1 k=d1 at e1;generalize P k=xs at *;generalize D k=dd at *;generalize lst D P k=L at *;obtain ⟨Dt,hown,hput⟩:=(HH.out.below (aC wr (.cells #[.int .i64 dd,.slice a1 xs.length d1] 65))).put (c:=d1) hnew (r1.below (aC _ _)) hT;have HO:=aA hown;have HPt:=aA hput;have HK:=aA (xD hwf);clear hc1 r1 hown hput hnew hwf hT hpos;go_wp2_with (first | (at_mapUpdate;refine wpList_mapUpdate_own _ rfl _ _ _ 113 rfl 2 65 rL Tryz.underlying113 RV w.heap.size k Dt rfl HO.out (by unfold maxLen;omega) _ _ _ rfl rfl HK.out (.held (chv dd a1 xs.length d1)) [] rfl ?_;intro w1 hown1 hgrow1;have HH1:=aA (HPt.out w1 hown1 hgrow1);have HG1:=aA hgrow1;clear hown1 hgrow1) | go_in)
   go_roundw
   case rel=>exact ⟨k+1,by omega,by go_num,by rw[HS.out];exact HH1.out,(aB HW.out (aC _ _)).trans ((aD.of_grown HG1.out).below (Nat.le_trans HW.out.size (by simp)) (fun j hj e=>by omega))⟩
   case measure=>simp[intOf];omega
  ·have hke:k=n:=by omega
   subst hke;go_wp2
   go_ret
   exact ⟨_,rfl,Nat.le_refl _,HH.out,HW.out⟩
end Go.Proofs.YtgaeikgoknoamaaGreat
namespace Go.Proofs.YtgaeikgoknoamaaGreat
open Go.RowKit Go.Maps
attribute [local go_sem ↓] Go.wp_at_zero Go.wp_at_succ
def yU (w:World) (b:Nat) (u0 u1 u2:Value):Prop:=(w.cell? ⟨b,0,none⟩=some u0∧w.cell? ⟨b,1,none⟩=some u1∧w.cell? ⟨b,2,none⟩=some u2)∧w.frozen? ⟨b,0,none⟩=false∧w.frozen? ⟨b,1,none⟩=false∧w.frozen? ⟨b,2,none⟩=false
theorem yU.new (w:World) (u0 u1 u2:Value) (t:TypeId):yU (w.alloc (.cells #[u0,u1,u2] t)) w.heap.size u0 u1 u2:=by
 refine ⟨⟨?_,?_,?_⟩,?_,?_,?_⟩ <;> simp
theorem yU.below {w w':World} {b:Nat} {u0 u1 u2:Value} (h:yU w b u0 u1 u2) (hk:Below w.heap.size w w'):yU w' b u0 u1 u2:=by
 obtain ⟨⟨h0,h1,h2⟩,f0,f1,f2⟩:=h;have hb:b<w.heap.size:=World.block_lt_of_cell? w ⟨b,0,none⟩ h0;exact ⟨⟨(hk.cell (p:=⟨b,0,none⟩) hb).trans h0,(hk.cell (p:=⟨b,1,none⟩) hb).trans h1,(hk.cell (p:=⟨b,2,none⟩) hb).trans h2⟩,(hk.frozen (p:=⟨b,0,none⟩) hb).trans f0,(hk.frozen (p:=⟨b,1,none⟩) hb).trans f1,(hk.frozen (p:=⟨b,2,none⟩) hb).trans f2⟩
def pI (ls:List (List En)) (D:Nat→Int) (P:Nat→List Int) (n:Nat) (p:Bs):Int :=
 if nN ls D P n=0 then (if kS ls p=0 then (if (kI ls p).any (fun e=>bX e.kind) then 9 else 0) else kS ls p) else nN ls D P n
structure vA (ls:List (List En)) (D:Nat→Int) (P:Nat→List Int) (n:Nat) (p:Bs) (e:En):Prop where
 lays:bY ls=0
 flt:fC D P n=0
 plc:kS ls p=0
 look:kI ls p=[e]
 find:aK (aY ls) p=some e
 kind:e.kind=1
 ent:aI e=0
theorem zzg {ls:List (List En)} {D:Nat→Int} {P:Nat→List Int} {n:Nat} {p:Bs} (h:pI ls D P n p=0):∃ e,vA ls D P n p e:=by
 unfold pI at h;by_cases h1:nN ls D P n=0
 ·rw[if_pos h1]at h
  obtain ⟨hl,hf⟩:=zg6.1 h1;by_cases h2:kS ls p=0
  ·rw[if_pos h2]at h
   obtain ⟨e,he1,he2⟩:=zd3 h2;rw[he2]at h;obtain ⟨h4,hR⟩:=fJ.1 hl;have hA:=sN (jF hR);obtain ⟨hm,-⟩:=eN he1;have hk:=hA.kind e hm;refine ⟨e,hl,hf,h2,he2,he1,?_,hA.fit.ent e hm⟩;by_cases hd:bX e.kind=true
   ·simp[hd]at h
   ·have hk':e.kind=1∨e.kind=2:=by simpa [sA] using hk
    rcases hk' with hk' | hk'
    ·exact hk'
    ·rw[hk']at hd;exact absurd (by decide) hd
  ·rw[if_neg h2]at h;exact absurd h h2
 ·rw[if_neg h1]at h;exact absurd h h1
theorem zxk {ls:List (List En)} {D:Nat→Int} {P:Nat→List Int} {n:Nat} {p:Bs} {q:Int} (hq:pI ls D P n p=q) (h:q≠0):(nN ls D P n=q)∨(nN ls D P n=0∧kS ls p=q)∨(nN ls D P n=0∧kS ls p=0∧q=9∧∃ e,kI ls p=[e]∧bX e.kind=true):=by
 unfold pI at hq;by_cases h1:nN ls D P n=0
 ·rw[if_pos h1]at hq
  by_cases h2:kS ls p=0
  ·rw[if_pos h2]at hq
   obtain ⟨e,he1,he2⟩:=zd3 h2;rw[he2]at hq;by_cases hd:bX e.kind=true
   ·exact .inr (.inr ⟨h1,h2,by simpa [hd] using hq.symm,e,he2,hd⟩)
   ·simp[hd]at hq;exact absurd hq.symm h
  ·rw[if_neg h2]at hq;exact .inr (.inl ⟨h1,hq⟩)
 ·rw[if_neg h1]at hq;exact .inl hq
theorem zm5 (a:Option Addr) (c m:Nat) (ls:List (List En)) (b:Option Addr) (d n:Nat) (D:Nat→Int) (P:Nat→List Int) (p:Bs) (w:World) (h:RdL w a ls) (hm:m=ls.length) (hl:ls.length≤1048576) (hs:fV ls) (hC:RdC w b D P n) (hn:n≤1048576) (hP:∀ i,i<n→U8 (P i)∧(P i).length≤1048576) (hpl:p.length≤1048576) (q:Int) (hq:pI ls D P n p=q) (hz:q≠0) :
  Calls Tryz.prog 71 #[.slice a m c,.slice b n d,.string (str p)] w fun e w'=>e=.returned (.tuple #[.agg #[.int .i64 0,.slice none 0 0,.map none],.int .i64 q])∧Below w.heap.size w w':=by
 subst hm;have B0:=aA (aC w (.cells #[.int .i64 0,.slice none 0 0,.map none] 126));have X0:=aA (yU.new w (.int .i64 0) (.slice none 0 0) (.map none) 126);have HLF:=aA (vW a c ls.length ls b d n D P _ (h.below B0.out) rfl hl hs (hC.below B0.out) hn hP);have HLO:=aA (fun (u:World) (hu:Below w.heap.size w u)=>qT a c ls.length ls p u (h.below hu) rfl hl hs hpl)
 have hne:(q != 0)=true:=by simpa using hz
 have hcs:=zxk hq hz;clear h hs hC hP hq;rcases hcs with h1 | ⟨h1,h2⟩ | ⟨h1,h2,h3,e,h4,h5⟩
 ·rw[h1]at HLF
  clear h1 HLO hz;go_enter Tryz.func71,Tryz.ntmps71;go_wp2_with fail
  refine HLF.out.mono ?_;rintro r w1 ⟨rfl,hb1⟩;have B1:=aA (aB B0.out hb1);obtain ⟨⟨t0,t1,t2⟩,f0,f1,f2⟩:=X0.out.below hb1;clear hb1;go_wp2_with fail
  exact bodyPost_ret (v:=.tuple #[.agg #[.int .i64 0,.slice none 0 0,.map none],.int .i64 q]) (by simp[results,Tryz.results71,go_sem,t0,t1,t2]) rfl ⟨rfl,((B1.out.setCell (p:=⟨w.heap.size,0,none⟩) (Nat.le_refl _) _).setCell (p:=⟨w.heap.size,1,none⟩) (Nat.le_refl _) _).setCell (p:=⟨w.heap.size,2,none⟩) (Nat.le_refl _) _⟩
 ·rw[h1]at HLF
  rw[h2]at HLO;clear h1 h2 hz;go_enter Tryz.func71,Tryz.ntmps71;go_wp2_with fail
  refine HLF.out.mono ?_;rintro r w1 ⟨rfl,hb1⟩;have B1:=aA (aB B0.out hb1);have X1:=aA (X0.out.below hb1);clear hb1 HLF B0 X0;go_wp2_with fail
  refine (HLO.out w1 B1.out).mono ?_;rintro r w2 ⟨av,cv,rfl,hG2,hb2⟩;generalize (kI ls p).length=LN at *;have A2:=aA (aC w2 (.cells #[.int .i64 q,.slice av LN cv] 190));have B9:=aA (aB (aB B1.out hb2) A2.out);have Q2:=aA (Two.new w2 (.int .i64 q) (.slice av LN cv) 190);have X2:=aA ((X1.out.below hb2).below A2.out);have hlt:w.heap.size<w2.heap.size:=Nat.lt_of_lt_of_le (World.block_lt_of_cell? w1 ⟨w.heap.size,0,none⟩ X1.out.1.1) hb2.size;have hne1:¬ w.heap.size=w2.heap.size:=by omega
  have hne2:¬ w2.heap.size=w.heap.size:=by omega
  clear hG2 hb2 A2 X1 B1;obtain ⟨⟨t0,t1,t2⟩,f0,f1,f2⟩:=X2.out;obtain ⟨q0,q1⟩:=Q2.out;go_upto_region 6 with fail
  generalize w2.alloc (.cells #[.int .i64 q,.slice av LN cv] 190)=W2 at *;go_region
  all_goals
   go_wp2_with fail
   exact bodyPost_ret (v:=.tuple #[.agg #[.int .i64 0,.slice none 0 0,.map none],.int .i64 q]) (by simp[results,Tryz.results71,go_sem,t0,t1,t2]) rfl ⟨rfl,((B9.out.drew.setCell (p:=⟨w.heap.size,0,none⟩) (Nat.le_refl _) _).setCell (p:=⟨w.heap.size,1,none⟩) (Nat.le_refl _) _).setCell (p:=⟨w.heap.size,2,none⟩) (Nat.le_refl _) _⟩
 ·rw[h1]at HLF
  rw[h2,h4]at HLO;subst h3;clear h1 h2 h4 hz;go_enter Tryz.func71,Tryz.ntmps71;go_wp2_with fail
  refine HLF.out.mono ?_;rintro r w1 ⟨rfl,hb1⟩;have B1:=aA (aB B0.out hb1);have X1:=aA (X0.out.below hb1);clear hb1 HLF B0 X0;go_wp2_with fail
  refine (HLO.out w1 B1.out).mono ?_;rintro r w2 ⟨av,cv,rfl,hG2,hb2⟩;have R2:=aA hG2.rd;have A2:=aA (aC w2 (.cells #[.int .i64 0,.slice av [e].length cv] 190));have B2:=aA (aB (aB B1.out hb2) A2.out);have Q2:=aA (Two.new w2 (.int .i64 0) (.slice av [e].length cv) 190);have X2:=aA ((X1.out.below hb2).below A2.out);obtain ⟨bb,off,e',x,cc,rfl,hbb,he,z0,z1,z2,z3,hrc⟩:=(R2.out.below A2.out).at (k:=0) (by simp)
  have e9:e'=e:=by simpa using he.symm
  subst e9;clear hG2 hb2 A2 X1 B1 R2 he hrc;obtain ⟨⟨t0,t1,t2⟩,f0,f1,f2⟩:=X2.out;obtain ⟨q0,q1⟩:=Q2.out;simp only[List.length_cons,List.length_nil,Nat.zero_add,Nat.zero_mul,Nat.add_zero]at q0 q1 z0 z1 z2 z3 ⊢;go_wp2_with fail
  refine (lO _ _ _ _ _ _ _).mono ?_;rintro r w3 ⟨rfl,hb3⟩;have A3:=aA (aC w3 (.cells #[.int .i64 e'.size,.slice x e'.chunks.length cc,.string (str e'.path),.int .i64 e'.kind] 91));have F3:=aA (dI.new w3 (.int .i64 e'.size) (.slice x e'.chunks.length cc) (.string (str e'.path)) (.int .i64 e'.kind) 91);have B3:=aA (aB (aB B2.out hb3) A3.out);have X3:=aA ((X2.out.below hb3).below A3.out);clear hb3 A3 X2 B2 t0 t1 t2 f0 f1 f2 q0 q1 z0 z1 z2 z3;obtain ⟨i0,i1,i2,i3⟩:=F3.out;go_wp2_with fail
  clear i0 i1 i2 i3;generalize w3.alloc (.cells #[.int .i64 e'.size,.slice x e'.chunks.length cc,.string (str e'.path),.int .i64 e'.kind] 91)=W3 at *;refine (pB _ _ _ _ _ _ _).mono ?_;rintro r w4 ⟨rfl,hb4⟩;rw[h5];have B9:=aA (aB B3.out hb4);obtain ⟨⟨t0,t1,t2⟩,f0,f1,f2⟩:=X3.out.below hb4;clear hb4 h5;go_wp2_with fail
  exact bodyPost_ret (v:=.tuple #[.agg #[.int .i64 0,.slice none 0 0,.map none],.int .i64 9]) (by simp[results,Tryz.results71,go_sem,t0,t1,t2]) rfl ⟨rfl,((B9.out.setCell (p:=⟨w.heap.size,0,none⟩) (Nat.le_refl _) _).setCell (p:=⟨w.heap.size,1,none⟩) (Nat.le_refl _) _).setCell (p:=⟨w.heap.size,2,none⟩) (Nat.le_refl _) _⟩
theorem zi8 (a:Option Addr) (c m:Nat) (ls:List (List En)) (b:Option Addr) (d n:Nat) (D:Nat→Int) (P:Nat→List Int) (p:Bs) (w:World) (h:RdL w a ls) (hm:m=ls.length) (hl:ls.length≤1048576) (hs:fV ls) (hC:RdC w b D P n) (hn:n≤1048576) (hP:∀ i,i<n→U8 (P i)∧(P i).length≤1048576) (hpl:p.length≤1048576) (e:En) (hE:vA ls D P n p e) :
  Calls Tryz.prog 71 #[.slice a m c,.slice b n d,.string (str p)] w fun r w'=>∃ x cc bm T,r=.returned (.tuple #[.agg #[.int .i64 e.size,.slice x e.chunks.length cc,.map (some bm)],.int .i64 0])∧aO .i64 w' x e.chunks∧dT w' bm n (lst D P n) T∧T≤w'.heap.size∧Below w.heap.size w w':=by
 subst hm;have B0:=aA (aC w (.cells #[.int .i64 0,.slice none 0 0,.map none] 126));have X0:=aA (yU.new w (.int .i64 0) (.slice none 0 0) (.map none) 126);have HLF:=aA (vW a c ls.length ls b d n D P _ (h.below B0.out) rfl hl hs (hC.below B0.out) hn hP);have HLO:=aA (fun (u:World) (hu:Below w.heap.size w u)=>qT a c ls.length ls p u (h.below hu) rfl hl hs hpl)
 have HMC:=aA (fun (u:World) (hu:Below w.heap.size w u)=>sT b d n D P w u hC hu (pU hE.flt))
 rw[zg6.2 ⟨hE.lays,hE.flt⟩]at HLF;rw[hE.plc,hE.look]at HLO;have h5:bX e.kind=false:=by rw[hE.kind];decide
 clear h hs hC hP hE;go_enter Tryz.func71,Tryz.ntmps71;go_wp2_with fail
 refine HLF.out.mono ?_;rintro r w1 ⟨rfl,hb1⟩;have B1:=aA (aB B0.out hb1);have X1:=aA (X0.out.below hb1);clear hb1 HLF B0 X0;go_wp2_with fail
 refine (HLO.out w1 B1.out).mono ?_;rintro r w2 ⟨av,cv,rfl,hG2,hb2⟩;have hwlt:w.heap.size<w2.heap.size:=Nat.lt_of_lt_of_le (World.block_lt_of_cell? w1 ⟨w.heap.size,0,none⟩ X1.out.1.1) hb2.size;have A2:=aA (aC w2 (.cells #[.int .i64 0,.slice av [e].length cv] 190));have B2:=aA (aB (aB B1.out hb2) A2.out);have Q2:=aA (Two.new w2 (.int .i64 0) (.slice av [e].length cv) 190);have X2:=aA ((X1.out.below hb2).below A2.out);obtain ⟨e',he'⟩:∃ e',e'=e:=⟨_,rfl⟩;subst he';obtain ⟨bb,x,cc,hav,hBG,hGT,z0,z1,z2,z3,-,hox,hblk,-⟩:=hG2.open (j:=0) (e:=e') rfl;subst hav;have hbl:bb<w2.heap.size:=World.block_lt_of_cell? w2 ⟨bb,0 * 4,none⟩ z0
 have z0:=(A2.out.cell (p:=⟨bb,0 * 4,none⟩) hbl).trans z0;have z1:=(A2.out.cell (p:=⟨bb,0 * 4+1,none⟩) hbl).trans z1;have z2:=(A2.out.cell (p:=⟨bb,0 * 4+2,none⟩) hbl).trans z2;have z3:=(A2.out.cell (p:=⟨bb,0 * 4+3,none⟩) hbl).trans z3;have RC:=aA (hox.reads.below A2.out);have HBK:=aA (show ∀ y,x=some y→w.heap.size<y.block from fun y hy=>by
  have h1:=(hblk y.block (by rw[hy];rfl)).1
  have h2:w.heap.size<w1.heap.size:=World.block_lt_of_cell? w1 ⟨w.heap.size,0,none⟩ X1.out.1.1;omega)
 clear hG2 hb2 A2 X1 B1 hox hblk hBG hGT hbl;obtain ⟨⟨t0,t1,t2⟩,f0,f1,f2⟩:=X2.out;obtain ⟨q0,q1⟩:=Q2.out;simp only[List.length_cons,List.length_nil,Nat.zero_add,Nat.zero_mul]at q0 q1 z0 z1 z2 z3 ⊢;go_wp2_with fail
 refine (lO _ _ _ _ _ _ _).mono ?_;rintro r w3 ⟨rfl,hb3⟩;have A3:=aA (aC w3 (.cells #[.int .i64 e'.size,.slice x e'.chunks.length cc,.string (str e'.path),.int .i64 e'.kind] 91));have F3:=aA (dI.new w3 (.int .i64 e'.size) (.slice x e'.chunks.length cc) (.string (str e'.path)) (.int .i64 e'.kind) 91);have B3:=aA (aB (aB B2.out hb3) A3.out);have X3:=aA ((X2.out.below hb3).below A3.out);have RC3:=aA ((RC.out.below hb3).below A3.out);have hwl3:w.heap.size<w3.heap.size:=by have:=hb3.size;simp at this;omega
 clear hb3 A3 X2 B2 RC t0 t1 t2 f0 f1 f2 q0 q1 z0 z1 z2 z3;obtain ⟨i0,i1,i2,i3⟩:=F3.out;go_wp2_with fail
 clear i0 i1 i2 i3;generalize w3.alloc (.cells #[.int .i64 e'.size,.slice x e'.chunks.length cc,.string (str e'.path),.int .i64 e'.kind] 91)=W3 at *;obtain ⟨ib,hib⟩:∃ ib,ib=w3.heap.size:=⟨_,rfl⟩;rw[←hib]at F3 hwl3 ⊢;clear hib;refine (pB _ _ _ _ _ _ _).mono ?_;rintro r w4 ⟨rfl,hb4⟩;rw[h5];have B4:=aA (aB B3.out hb4);have X4:=aA (X3.out.below hb4);have RC4:=aA (RC3.out.below hb4);have F4:=aA (F3.out.below hb4);clear hb4 h5 X3 B3 RC3 F3;obtain ⟨RB,hRB⟩:∃ RB,RB=w.heap.size:=⟨_,rfl⟩;rw[←hRB]at X4 hwl3 HBK;have hir1:¬ ib=RB:=by omega
 have hir2:¬ RB=ib:=by omega
 have HRB:=aA hRB;have hBl:RB<w4.heap.size:=World.block_lt_of_cell? w4 ⟨RB,0,none⟩ X4.out.1.1;have KB:Hid (∀ u:World,Below w4.heap.size w4 u→(u.cell? ⟨ib,0,none⟩=some (.int .i64 e'.size)∧u.cell? ⟨ib,1,none⟩=some (.slice x e'.chunks.length cc))∧((u.cell? ⟨RB,0,none⟩=some (.int .i64 0)∧u.cell? ⟨RB,1,none⟩=some (.slice none 0 0)∧u.cell? ⟨RB,2,none⟩=some (.map none))∧u.frozen? ⟨RB,0,none⟩=false∧u.frozen? ⟨RB,1,none⟩=false∧u.frozen? ⟨RB,2,none⟩=false)):=aA (fun u hu=>⟨⟨(F4.out.below hu).1,(F4.out.below hu).2.1⟩,X4.out.below hu⟩)
 have BD:=aA ((Below.refl w4.heap.size w4).drew);rw[←hRB];clear hRB;obtain ⟨⟨i0,i1⟩,⟨t0,t1,t2⟩,f0,f1,f2⟩:=KB.out w4 (Below.refl _ _);go_upto_region 10 with fail
 clear i0 i1 t0 t1 t2 f0 f1 f2;go_region_held3 (fun u=>u.cell? ⟨ib,0,none⟩=some (.int .i64 e'.size)∧u.cell? ⟨ib,1,none⟩=some (.slice x e'.chunks.length cc)) (first | exact (KB.out _ BB5.out).1 | exact (KB.out _ BD.out).1 | exact KS.out _ _ _ | go_keep)
  ((go_at_call 63;refine (HMC.out _ (aB B4.out BD.out)).mono ?_;rintro r w5 ⟨bm,rfl,hbm,hH5,hb5⟩;have H5:=aA hH5;have BB5:=aA (BD.out.trans hb5);obtain ⟨⟨i0,i1⟩,⟨t0,t1,t2⟩,f0,f1,f2⟩:=KB.out _ BB5.out;have hil:ib<w5.heap.size:=World.block_lt_of_cell? w5 ⟨ib,0,none⟩ i0;have KK:=aA (fun (v0 v1 v2:Value)=>show aD (fun b=>b=RB) w5 (((w5.setCell ⟨RB,0,none⟩ v0).setCell ⟨RB,1,none⟩ v1).setCell ⟨RB,2,none⟩ v2) from aD.setCell (S:=fun b=>b=RB) (p:=⟨RB,2,none⟩) (aD.two _ _ _ _ _ _) (fun _=>rfl) _);have KS:=aA (fun (v0 v1 v2:Value)=>And.intro (((KK.out v0 v1 v2).cell (p:=⟨ib,0,none⟩) hil hir1).trans i0) (((KK.out v0 v1 v2).cell (p:=⟨ib,1,none⟩) hil hir1).trans i1));clear hH5 hb5))
 go_wp2_with fail
 refine bodyPost_ret (v:=.tuple #[.agg #[.int .i64 e'.size,.slice x e'.chunks.length cc,.map (some bm)],.int .i64 0]) (by simp[results,Tryz.results71,go_sem,t0,t1,t2]) rfl ⟨x,cc,bm,w.heap.size,rfl,?_,?_,?_,?_⟩
 ·exact (RC4.out.below BB5.out).kept (KK.out _ _ _) (fun _ y hy e=>by have:=HBK.out y hy;omega)
 ·exact H5.out.kept (KK.out _ _ _) (fun e=>by have:w4.drew.heap.size=w4.heap.size:=rfl;omega) (fun y hy=>by have:=HRB.out;omega)
 ·have:=(aB B4.out BB5.out).size
  simpa [World.setCell] using this
 ·rw[HRB.out]
  exact (((aB B4.out BB5.out).setCell (p:=⟨w.heap.size,0,none⟩) (Nat.le_refl _) _).setCell (p:=⟨w.heap.size,1,none⟩) (Nat.le_refl _) _).setCell (p:=⟨w.heap.size,2,none⟩) (Nat.le_refl _) _
def rdQ (D:Nat→Int) (P:Nat→List Int) (n:Nat) (e:En):Int × List Int :=
 match pV D P n e.chunks with
 | none=>(8,[])
 | some bs=>if (bs.length:Int)=e.size then (0,bs) else (6,[])
theorem zp8 (js:Nat→List Int) (m:Nat):((List.range m).map js).flatten=lZ js m:=by unfold lZ;rw[List.flatMap_def]
theorem pF.of {q:Int} {zs:List Int} {w w3:World} {B b n:Nat} {av:Option Addr} {cv:Nat} {u v:Value} (hB:b<B) (hw:w.heap.size≤b) (hn:n=zs.length) (hG:w3.ownsRow B 5 1 (.slice av n cv) n (zs.map (Value.int .u8))) (hb:Below w.heap.size w w3) :
  pF q zs w (.returned (.agg #[.int .i64 q,.slice av n cv])) ((w3.setCell ⟨b,0,none⟩ u).setCell ⟨b,1,none⟩ v):=by
 subst hn;refine ⟨av,cv,rfl,?_,(hb.setCell hw _).setCell hw _⟩;exact GB.mk (aS (aH (S:=fun x=>x=b) hG (aD.two _ _ _ _ _ _) (fun x hx e=>by have:=(hG.lt x hx).1;omega)) (by omega)) rfl
theorem qV (a:Option Addr) (c m:Nat) (ls:List (List En)) (b:Option Addr) (d n:Nat) (D:Nat→Int) (P:Nat→List Int) (p:Bs) (w:World) (h:RdL w a ls) (hm:m=ls.length) (hl:ls.length≤1048576) (hs:fV ls) (hC:RdC w b D P n) (hn:n≤1048576) (hP:∀ i,i<n→U8 (P i)∧(P i).length≤1048576) (hpl:p.length≤1048576) (q:Int) (hq:pI ls D P n p=q) (hz:q≠0) :
  Calls Tryz.prog 24 #[.slice a m c,.slice b n d,.string (str p)] w (pF q [] w):=by
 subst hm;have X0:=aA (Box.new w (.int .i64 0) (.slice none 0 0) 61);have B0:=aA (aC w (.cells #[.int .i64 0,.slice none 0 0] 61));have HF:=aA (zm5 a c ls.length ls b d n D P p _ (h.below B0.out) rfl hl hs (hC.below B0.out) hn hP hpl q hq hz);have hne:(q != 0)=true:=by simpa using hz
 clear h hs hC hP hq hz;go_enter Tryz.func24,Tryz.ntmps24;go_wp2_with fail
 refine HF.out.mono ?_;rintro r w1 ⟨rfl,hb1⟩;have A1:=aA (aC w1 (.cells #[.int .i64 0,.slice none 0 0,.map none] 126));have B1:=aA (aB (aB B0.out hb1) A1.out);have X1:=aA ((X0.out.below hb1).below A1.out);clear hb1 X0 B0 A1;obtain ⟨⟨t0,t1⟩,t2,t3⟩:=X1.out;go_wp2_with fail
 exact bodyPost_ret (v:=.agg #[.int .i64 q,.slice none 0 0]) (by simp[results,Tryz.results24,go_sem,t0,t1]) rfl (pF.no ((B1.out.setCell (Nat.le_refl _) _).setCell (Nat.le_refl _) _))
theorem rJ (a:Option Addr) (c m:Nat) (ls:List (List En)) (b:Option Addr) (d n:Nat) (D:Nat→Int) (P:Nat→List Int) (p:Bs) (w:World) (h:RdL w a ls) (hm:m=ls.length) (hl:ls.length≤1048576) (hs:fV ls) (hC:RdC w b D P n) (hn:n≤1048576) (hP:∀ i,i<n→U8 (P i)∧(P i).length≤1048576) (hpl:p.length≤1048576) (e:En) (hE:vA ls D P n p e) :
  Calls Tryz.prog 24 #[.slice a m c,.slice b n d,.string (str p)] w (pF (rdQ D P n e).1 (rdQ D P n e).2 w):=by
 subst hm;have X0:=aA (Box.new w (.int .i64 0) (.slice none 0 0) 61);have B0:=aA (aC w (.cells #[.int .i64 0,.slice none 0 0] 61));have HF:=aA (zi8 a c ls.length ls b d n D P p _ (h.below B0.out) rfl hl hs (hC.below B0.out) hn hP hpl e hE);have hc3:=fX hE.ent;have HDG:=aA (show ∀ j,j<e.chunks.length→0≤e.chunks.getD j 0∧e.chunks.getD j 0≤4294967295 from fun j hj=>zwg hE.ent _ (zch 0 hj))
 have HRt:=aA (pU hE.flt);obtain ⟨m,js,hm,hj,hno,hjd⟩:=zo0 D P n e.chunks;have HJ:=aA hj;have HNo:=aA hno;have HJL:=aA (show ∀ j,j<m→1≤(js j).length∧(js j).length≤8 from fun j hj'=>by obtain ⟨i,hi,_,e9⟩:=HJ.out j hj';rw[←e9];exact HRt.out.len i hi)
 have HQ:=aA (show rdQ D P n e=if m=e.chunks.length then (if ((lZ js m).length:Int)=e.size then (0,lZ js m) else (6,[])) else (8,[]) from by
  unfold rdQ;rw[hjd];by_cases h9:m=e.chunks.length
  ·rw[if_pos h9,if_pos h9]
  ·rw[if_neg h9,if_neg h9])
 generalize rdQ D P n e=Q at *;clear h hs hC hP hE hj hno hjd;go_enter Tryz.func24,Tryz.ntmps24;go_wp2_with fail
 refine HF.out.mono ?_;rintro r w1 ⟨x,cc,bm,T,rfl,hr1,hH1,hT1,hb1⟩;have A1:=aA (aC w1 (.cells #[.int .i64 e.size,.slice x e.chunks.length cc,.map (some bm)] 126));have F1:=aA (sW.new w1 (.int .i64 e.size) (.slice x e.chunks.length cc) (.map (some bm)) 126);have B1:=aA (aB (aB B0.out hb1) A1.out);have X1:=aA ((X0.out.below hb1).below A1.out);have R1:=aA (hr1.below A1.out);have H1:=aA (hH1.below A1.out);have hTA:T≤(w1.alloc (.cells #[.int .i64 e.size,.slice x e.chunks.length cc,.map (some bm)] 126)).heap.size:=by simp;omega
 have hwl:w.heap.size<w1.heap.size:=Nat.lt_of_lt_of_le (X0.out.1.lt) hb1.size;clear hb1 X0 B0 A1 hr1 hH1 hT1 HF;obtain ⟨t0,t1,t2⟩:=F1.out;go_wp2_with fail
 clear t0 t1 t2;generalize w1.alloc (.cells #[.int .i64 e.size,.slice x e.chunks.length cc,.map (some bm)] 126)=W1 at *;obtain ⟨lb,hlb⟩:∃ lb,lb=w1.heap.size:=⟨_,rfl⟩;rw[←hlb]at F1 ⊢;clear hlb;refine (zof e.size x cc e.chunks bm n T D P W1 R1.out H1.out hTA hc3 HDG.out m hm js HJ.out HNo.out).mono ?_;rintro r w2 ⟨hor,hb2⟩;have X2:=aA (X1.out.below hb2);have B2:=aA (aB B1.out hb2);have F2:=aA (F1.out.below hb2);have hw2:w.heap.size<w2.heap.size:=X2.out.1.lt;clear hb2 X1 F1 R1 H1 hTA;rcases hor with ⟨hme,v,ps,B,rfl,hps,hpm⟩ | ⟨hme,rfl⟩
 ·rw[if_pos hme]at HQ
  have hpl2:ps.length=m:=by have:=congrArg List.length hpm;simpa using this
  obtain ⟨pv,pc,rfl⟩:=aQ hps.row;have HJN:=aA (zec pv pc B ps w2 hps (by omega) (fun q hq=>by
   have h1:q.2.1∈ps.map (fun p=>p.2.1):=List.mem_map.2 ⟨q,hq,rfl⟩
   rw[hpm]at h1;obtain ⟨j,hj,e9⟩:=List.mem_map.1 h1;rw[←e9];exact HJL.out j (List.mem_range.1 hj)))
  rw[hpm,zp8]at HJN;generalize lZ js m=bs at *;clear hps hpm hme HJ HNo HJL hpl2;go_wp2_with fail
  refine HJN.out.mono ?_;rintro r w3 ⟨a3,c3,rfl,ho3,hb3⟩;have O3:=aA ho3;have B3:=aA (aB B2.out hb3);have X3:=aA (X2.out.below hb3);have F3:=aA (F2.out.below hb3);clear ho3 hb3 X2 F2 B2 HJN;obtain ⟨f0,f1,f2⟩:=F3.out;obtain ⟨⟨t0,t1⟩,t2,t3⟩:=X3.out;by_cases hsz:(bs.length:Int)=e.size
  ·rw[if_pos hsz]at HQ
   have hsb:((bs.length:Int) != e.size)=false:=by simpa using hsz
   clear hsz;go_wp2_with fail
   rw[HQ.out];exact bodyPost_ret (v:=.agg #[.int .i64 0,.slice a3 bs.length c3]) (by simp[results,Tryz.results24,go_sem,t0,t1]) rfl (pF.of hw2 (Nat.le_refl _) rfl O3.out B3.out)
  ·rw[if_neg hsz]at HQ
   have hsb:((bs.length:Int) != e.size)=true:=by simpa using hsz
   clear hsz;go_wp2_with fail
   rw[HQ.out];exact bodyPost_ret (v:=.agg #[.int .i64 6,.slice none 0 0]) (by simp[results,Tryz.results24,go_sem,t0,t1]) rfl (pF.no ((B3.out.setCell (Nat.le_refl _) _).setCell (Nat.le_refl _) _))
 ·rw[if_neg (by omega)]at HQ
  clear HJ HNo HJL;obtain ⟨⟨t0,t1⟩,t2,t3⟩:=X2.out;go_wp2_with fail
  rw[HQ.out];exact bodyPost_ret (v:=.agg #[.int .i64 8,.slice none 0 0]) (by simp[results,Tryz.results24,go_sem,t0,t1]) rfl (pF.no ((B2.out.setCell (Nat.le_refl _) _).setCell (Nat.le_refl _) _))
end Go.Proofs.YtgaeikgoknoamaaGreat
