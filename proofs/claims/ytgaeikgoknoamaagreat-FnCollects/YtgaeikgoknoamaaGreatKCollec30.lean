/-
  At every byte slice the law FnCollects returns true: what no name leads to goes, all else stays. No condition.
-/
import Derived.Test.YtgaeikgoknoamaaGreatKCollec26
import Derived.Test.YtgaeikgoknoamaaGreatKCollec28
import Derived.Test.YtgaeikgoknoamaaGreatKCollec29
import Derived.ProofKit
import Derived.Deep.CutRange
import Derived.OpenShut
import Derived.ShutString
import Derived.ChangeOld
import Derived.Deep.DrawnRows
import Derived.Deep.RegionHeld3
set_option linter.unusedVariables false
set_option maxHeartbeats 12800000
set_option maxRecDepth 100000
namespace Go.Proofs.YtgaeikgoknoamaaGreat.fnCollects
open Go.ChangeShapes Go.WideShapes Go.ChangeAt Go.RowKit Go.Maps
attribute [local go_sem ↓] Go.wp_at_zero Go.wp_at_succ
theorem own:ownKnob Tryz.prog.godebug=none:=by kernel_rfl
theorem zph:laidOutB Tryz.prog=true:=by kernel_rfl
theorem znf (a:Option Addr) (cap:Nat) (n:Nat) (w:World) (h:n≤1048576) :
  Calls Tryz.prog 5 #[.slice a n cap] w fun e w'=>e=.returned (.bool false)∧w'=w:=by
 have hb:¬ (1048576:Int)<(n:Int):=by omega
 go_enter Tryz.func5,Tryz.ntmps5;go_wp2
 go_ret
 exact ⟨cE (by simp <;> omega),rfl⟩
theorem zbd (a:Option Addr) (cap:Nat) (n:Nat) (w:World) (h:1048576<n) (h2:n≤maxLen) :
  Calls Tryz.prog 5 #[.slice a n cap] w fun e w'=>e=.returned (.bool true)∧w'=w:=by
 have hb:(1048576:Int)<(n:Int):=by omega
 unfold maxLen at h2;go_enter Tryz.func5,Tryz.ntmps5;go_wp2
 go_ret
 exact ⟨cE (by simp <;> omega),rfl⟩
theorem tk {P:Program} {ops:Array Oper} {Q:Exit→Act→World→Prop} {md:Region.Mode} {S:World→Prop} (i d:Nat) (v:Value) {op:Op} {ty:TypeId} {pos:String} {af:Array Edge} {gd:Option (Nat × Bool)} {fuel:Nat} {listed:Array Bool} {a:Act} {w:World} (hS:S w) (hi:ops[i]?=some { dst:=some d,op:=op,type:=ty,pos:=pos,after:=af,guard:=gd })
  (hs:Region.noSelect ops=true) (hf:Region.free md ops listed i=true) (hr:(Region.ready md ops listed).contains i=true) (hQ:∀ c a w,Q (.panic c) (a.put (some d) v) w→Q (.panic c) a w) (hy:YieldsIf P ops S { dst:=some d,op:=op,type:=ty,pos:=pos,after:=af,guard:=gd } v a)
  (h:wpAnyH P md ops Q S fuel (listed.setIfInBounds i true) (a.put (some d) v) w):wpAnyH P md ops Q S (fuel+1) listed a w:=wpAnyH_take hi hs hf hr hQ hy hS h
theorem zwi (a:Option Addr) (c:Nat) (l:List Sn) (ra:Option Addr) (rc:Nat) (rs:List Bs) (w:World) (h:RdS w a l) (hR:aP l) (hs:bW l) (hr:aU w ra rs) (hrl:rs.length≤20) :
  Calls Tryz.prog 8 #[.slice a l.length c,.slice ra rs.length rc] w fun r w'=>∃ x y,r=.returned (.agg #[.int .i64 0,.slice x (bX l rs).length y])∧bR w.heap.size w' (.slice x (bX l rs).length y) ((bX l rs).map Sn.name)∧Below w.heap.size w w':=by
 refine (xJ a c l.length l ra rc rs.length rs w h rfl hR hs hr rfl hrl).mono ?_;rintro r w' ⟨x,y,rfl,h2,h3⟩;rw[List.length_map]at h2 ⊢;exact ⟨x,y,rfl,h2,h3⟩
theorem zui (a:Option Addr) (c:Nat) (l:List Sn) (ra:Option Addr) (rc:Nat) (rs:List Bs) (w:World) (h:RdS w a l) (hR:aP l) (hs:bW l) (hr:aU w ra rs) (hrl:rs.length≤20) :
  Calls Tryz.prog 9 #[.slice a l.length c,.slice ra rs.length rc] w fun r w'=>∃ x y,r=.returned (.agg #[.int .i64 0,.slice x (kE l rs).length y])∧bR w.heap.size w' (.slice x (kE l rs).length y) ((kE l rs).map Sn.name)∧Below w.heap.size w w':=by
 refine (zj2 a c l.length l ra rc rs.length rs w h rfl hR hs hr rfl hrl).mono ?_;rintro r w' ⟨x,y,rfl,h2,h3⟩;rw[List.length_map]at h2 ⊢;exact ⟨x,y,rfl,h2,h3⟩
theorem zxi (a:Option Addr) (c:Nat) (l:List Sn) (ra:Option Addr) (rc:Nat) (rs:List Bs) (w:World) (h:RdS w a l) (hR:aP l) (hs:bW l) (hr:aU w ra rs) (hrl:rs.length≤20) :
  Calls Tryz.prog 13 #[.slice a l.length c,.slice ra rs.length rc] w fun r w'=>∃ x y,r=.returned (.agg #[.int .i64 0,.slice x (bX l rs).length y])∧bR w.heap.size w' (.slice x (bX l rs).length y) ((bX l rs).map Sn.name)∧Below w.heap.size w w':=by
 refine (yB a c l.length l ra rc rs.length rs w h rfl hR hs hr rfl hrl).mono ?_;rintro r w' ⟨x,y,rfl,h2,h3⟩;rw[List.length_map]at h2 ⊢;exact ⟨x,y,rfl,h2,h3⟩
theorem zcd (a b:Option Addr) (c1 c2:Nat) (ms:List Bs) (w:World) (h:aU w a ms) (h2:aU w b ms) (hl:ms.length≤1048576) :
  Calls Tryz.prog 12 #[.slice a ms.length c1,.slice b ms.length c2] w fun e w'=>e=.returned (.bool true)∧Below w.heap.size w w':=by
 have HA:=aA h;have HB:=aA h2;clear h h2;go_enter Tryz.func12,Tryz.ntmps12;go_wp2
 go_loopw [5] (fun i wr=>∃ k:Nat,k≤ms.length∧i=.int .i64 k∧Below w.heap.size w wr) (fun i _=>ms.length - (intOf i).toNat)
 case atStart=>exact ⟨0,Nat.zero_le _,rfl,Below.refl _ _⟩
 case round =>
  obtain ⟨k,hk,rfl,hbel⟩:=hrel;have HW:=aA hbel;clear hbel;by_cases hlt:k<ms.length
  ·obtain ⟨b1,o1,p1,rfl,hb1,hp1,e1⟩:=(HA.out.below HW.out).at hlt
   obtain ⟨b2,o2,p2,rfl,hb2,hp2,e2⟩:=(HB.out.below HW.out).at hlt;have hpp:p2=p1:=Option.some.inj (hp2.symm.trans hp1);subst hpp;have hk0:(0:Int)≤(k:Int):=by omega
   have hk1:(k:Int)<(ms.length:Int):=by omega
   clear hp1 hp2;go_wp2
   go_quiet (fail)
   go_wp2
   go_roundw
   case rel=>exact ⟨k+1,by omega,by go_num,below_drewN HW.out _⟩
   case measure=>simp[intOf];omega
  ·have hke:k=ms.length:=by omega
   subst hke;go_wp2
   go_ret
   exact ⟨rfl,HW.out⟩
theorem zdd (a b:Option Addr) (c1 c2:Nat) (L:List Sn) (w:World) (h:aU w a (L.map Sn.name)) (h2:aU w b (L.map Sn.name)) (hl:L.length≤1048576) :
  Calls Tryz.prog 12 #[.slice a L.length c1,.slice b L.length c2] w fun e w'=>e=.returned (.bool true)∧Below w.heap.size w w':=by
 have h9:=zcd a b c1 c2 (L.map Sn.name) w h h2 (by simpa using hl)
 rw[List.length_map]at h9;exact h9
theorem walk (a0:Option Addr) (cap0:Nat) (zs:List Int) (w:World) (h:aZ .u8 w a0 zs) (hu:U8 zs) (hmax:zs.length≤maxLen) :
  Calls Tryz.prog 3 #[.slice a0 zs.length cap0] w fun e w'=>e=.returned (.bool true)∧Below w.heap.size w w':=by
 have HR:=aA h;have HU:=aA hu;clear h hu;by_cases hbig:1048576<zs.length
 ·go_enter Tryz.func3,Tryz.ntmps3
  go_wp2_with fail
  refine (zbd _ _ _ _ hbig hmax).mono ?_;rintro e w ⟨rfl,rfl⟩;go_wp2_with fail
  go_ret
  exact ⟨rfl,Below.refl _ _⟩
 have hf29:∀ (u:World) (x r:Int) (v:Value),(Instr.field 29 (.agg #[.int .i64 x,.int .i64 r,v]) 0).run Tryz.prog u=.ok (.int .i64 x) u:=fun _ _ _ _=>by kernel_rfl
 have hf29b:∀ (u:World) (x r:Int) (v:Value),(Instr.field 29 (.agg #[.int .i64 x,.int .i64 r,v]) 2).run Tryz.prog u=.ok v u:=fun _ _ _ _=>by kernel_rfl
 have hf45:∀ (u:World) (x r:Int) (v:Value),(Instr.field 45 (.agg #[.int .i64 x,.int .i64 r,v]) 2).run Tryz.prog u=.ok v u:=fun _ _ _ _=>by kernel_rfl
 have hf50:∀ (u:World) (x:Int) (v:Value),(Instr.field 50 (.agg #[.int .i64 x,v]) 1).run Tryz.prog u=.ok v u:=fun _ _ _=>by kernel_rfl
 have hf32:∀ (u:World) (x:Int) (v:Value),(Instr.field 32 (.agg #[.int .i64 x,v]) 1).run Tryz.prog u=.ok v u:=fun _ _ _=>by kernel_rfl
 go_enter Tryz.func3,Tryz.ntmps3;go_wp2_with fail
 refine (znf _ _ _ _ (by omega)).mono ?_
 rintro e w ⟨rfl,rfl⟩;go_wp2_with fail
 refine (tS a0 cap0 zs _ HR.out HU.out (by omega)).mono ?_
 rintro e w1 ⟨l,av,cv,qs,qa,qc,rfl,hgd,hsm,hten,hG,hO,hq21,hq2,hb1⟩;have RD:=aA hG.rd;have RQ:=aA hO.reads;have SM:=aA hsm;have GD:=aA hgd;have Q2:=aA hq2;have B1:=aA hb1;clear hgd hsm hG hO hb1 HR HU hbig hmax hq2;by_cases hz:eM l qs=0
 ·obtain ⟨hR,hq20⟩:=oJ.1 hz
  have HRi:=aA hR;have HLV:=aA (fun u (hu:Below w1.heap.size w1 u)=>zwi av cv l qa qc qs u (RD.out.below hu) hR SM.out (RQ.out.below hu) hq20)
  have HDO:=aA (fun u (hu:Below w1.heap.size w1 u)=>zui av cv l qa qc qs u (RD.out.below hu) hR SM.out (RQ.out.below hu) hq20)
  have HL9:=aA (fun u (hu:Below w1.heap.size w1 u)=>zxi av cv l qa qc qs u (RD.out.below hu) hR SM.out (RQ.out.below hu) hq20)
  have HIC:=aA (mP av cv l.length l qa qc qs.length qs w1 RD.out rfl hR SM.out RQ.out rfl hq20);have HLR:=aA (sG hR qs);have hLD:=zad l qs;have HEach:=aA (fun (s:Sn) (hs:s∈bX l qs)=>And.intro (zla hR qs hs) (zqh hR qs hs))
  have HAG:=aA (zka hR qs);have HCS:=aA (fun u (hu:Below w1.heap.size w1 u)=>vV av cv l.length l qa qc qs.length qs u (RD.out.below hu) rfl hR SM.out (RQ.out.below hu) rfl hq20)
  have HCM:=aA (fun u (hu:Below w1.heap.size w1 u)=>wB av cv l.length l qa qc qs.length qs u (RD.out.below hu) rfl hR SM.out (RQ.out.below hu) rfl hq20)
  have HAll:=aA (fun (s:Sn) (hs:s∈bX l qs)=>(List.mem_filter.1 hs).1)
  clear hR hz;generalize kE l qs=D at *;obtain ⟨L,hL⟩:∃ L,L=bX l qs:=⟨_,rfl⟩;rw[←hL]at HLV HL9 HIC HLR hLD HEach HAG HCS HCM HAll;have HLdef:=aA hL;clear hL;have hLl:L.length≤10:=by omega
  go_wp2_with fail
  refine (HIC.out).mono ?_;rintro e w2 ⟨a5,c5,rfl,hH5,hb2⟩;have X5:=aA (dE.new w2 (.int .i64 0) (.int .i64 0) (.slice a5 L.length c5) 29);have R5:=aA (hH5.rd.below (aC w2 (.cells #[.int .i64 0,.int .i64 0,.slice a5 L.length c5] 29)));have B2:=aA (aB hb2 (aC w2 (.cells #[.int .i64 0,.int .i64 0,.slice a5 L.length c5] 29)));clear hH5 hb2;go_wp2_with fail
  refine (HLV.out _ B2.out).mono ?_;rintro e w3 ⟨a6,c6,rfl,hO6,hb3⟩;have X6:=aA (Box.new w3 (.int .i64 0) (.slice a6 L.length c6) 32);have R6:=aA (hO6.reads.below (aC w3 (.cells #[.int .i64 0,.slice a6 L.length c6] 32)));have BB3:=aA (aB hb3 (aC w3 (.cells #[.int .i64 0,.slice a6 L.length c6] 32)));have X5n:=aA (X5.out.below BB3.out);have R5n:=aA (R5.out.below BB3.out);have B3:=aA (aB B2.out BB3.out);clear hO6 hb3 X5 R5;go_wp2_with fail
  refine (HDO.out _ B3.out).mono ?_;rintro e w4 ⟨a7,c7,rfl,hO7,hb4⟩;have X7:=aA (Box.new w4 (.int .i64 0) (.slice a7 D.length c7) 32);have BB4:=aA (aB hb4 (aC w4 (.cells #[.int .i64 0,.slice a7 D.length c7] 32)));have X5:=aA (X5n.out.below BB4.out);have R5:=aA (R5n.out.below BB4.out);have X6n:=aA (X6.out.below BB4.out);have R6n:=aA (R6.out.below BB4.out);have B4:=aA (aB B3.out BB4.out);clear hO7 hb4 X5n R5n X6 R6 B2 B3;have X6:=X6n;have R6:=R6n;clear X6n R6n;obtain ⟨⟨t0,t1,t2⟩,t3,t4,t5⟩:=X5.out;go_wp2_with fail
  clear t0 t1 t2 t3 t4 t5;generalize w4.alloc (.cells #[.int .i64 0,.slice a7 D.length c7] 32)=W4 at *;generalize w2.heap.size=b5 at *;generalize w3.heap.size=b6 at *;generalize w4.heap.size=b7 at *;have KS:Hid (∀ u:World,Below W4.heap.size W4 u→u.cell? ⟨b5,2,none⟩=some (.slice a5 L.length c5)∧u.cell? ⟨b6,1,none⟩=some (.slice a6 L.length c6)∧u.cell? ⟨b7,1,none⟩=some (.slice a7 D.length c7)):=aA (fun u hu=>⟨(X5.out.below hu).1.2.2,(X6.out.below hu).1.2,(X7.out.below hu).1.2⟩)
  have HL9':=aA (fun u (hu:Below W4.heap.size W4 u)=>HL9.out u (aB B4.out hu))
  have HF:=aA (fun u (hu:Below W4.heap.size W4 u)=>iQ a5 c5 L.length L u (R5.out.below hu) rfl (by omega) HLR.out.tiny)
  have HSF:=aA (kO.2 HLR.out);have HLN:=aA (fun (x:Option Addr) (y:Nat) (u:World) (hx:aU u x (L.map Sn.name)) (hu:Below W4.heap.size W4 u)=>zdd a6 x c6 y L u (R6.out.below hu) hx (by omega))
  clear HL9;have HL9:=HL9';clear HL9';have BD:Hid (Below W4.heap.size W4 W4.drew):=aA (Below.refl _ _).drew;refine wp_region_held_drew (S:=fun u:World=>u.cell? ⟨b5,2,none⟩=some (.slice a5 L.length c5)∧u.cell? ⟨b6,1,none⟩=some (.slice a6 L.length c6)∧u.cell? ⟨b7,1,none⟩=some (.slice a7 D.length c7)) (by kernel_rfl) (KS.out _ BD.out) (fun hHeld=>?_)
  change wpAnyH _ _ _ _ _ _ (Array.replicate _ false) _ _;refine tk 0 51 (.pointer (some ⟨b6,1,none⟩)) hHeld rfl (by kernel_rfl) (by kernel_rfl) (by kernel_rfl) (fun _ _ _ h=>h) (Or.inl ⟨by rfl,?_⟩) ?_
  ·rintro w ⟨q0,q1,q2⟩
   go_simp <;> (first | done | omega | (intro _;omega))
  try simp only[Act.put,zsE]
  refine tk 1 52 (.slice a6 L.length c6) hHeld rfl (by kernel_rfl) (by kernel_rfl) (by kernel_rfl) (fun _ _ _ h=>h) (Or.inl ⟨by rfl,?_⟩) ?_
  ·rintro w ⟨q0,q1,q2⟩
   go_simp <;> (first | done | omega | (intro _;omega))
  try simp only[Act.put,zsE]
  refine tk 3 54 (.pointer (some ⟨b5,2,none⟩)) hHeld rfl (by kernel_rfl) (by kernel_rfl) (by kernel_rfl) (fun _ _ _ h=>h) (Or.inl ⟨by rfl,?_⟩) ?_
  ·rintro w ⟨q0,q1,q2⟩
   go_simp <;> (first | done | omega | (intro _;omega))
  try simp only[Act.put,zsE]
  refine tk 4 55 (.slice a5 L.length c5) hHeld rfl (by kernel_rfl) (by kernel_rfl) (by kernel_rfl) (fun _ _ _ h=>h) (Or.inl ⟨by rfl,?_⟩) ?_
  ·rintro w ⟨q0,q1,q2⟩
   go_simp <;> (first | done | omega | (intro _;omega))
  try simp only[Act.put,zsE]
  refine tk 2 53 (.int .i64 (L.length:Nat)) hHeld rfl (by kernel_rfl) (by kernel_rfl) (by kernel_rfl) (fun _ _ _ h=>h) (Or.inl ⟨by rfl,?_⟩) ?_
  ·rintro w ⟨q0,q1,q2⟩
   go_simp <;> (first | done | omega | (intro _;omega))
  try simp only[Act.put,zsE]
  refine tk 5 56 (.int .i64 (L.length:Nat)) hHeld rfl (by kernel_rfl) (by kernel_rfl) (by kernel_rfl) (fun _ _ _ h=>h) (Or.inl ⟨by rfl,?_⟩) ?_
  ·rintro w ⟨q0,q1,q2⟩
   go_simp <;> (first | done | omega | (intro _;omega))
  try simp only[Act.put,zsE]
  refine tk 6 57 (.bool false) hHeld rfl (by kernel_rfl) (by kernel_rfl) (by kernel_rfl) (fun _ _ _ h=>h) (Or.inl ⟨by rfl,?_⟩) ?_
  ·rintro w ⟨q0,q1,q2⟩
   go_simp <;> (first | done | omega | (intro _;omega))
  try simp only[Act.put,zsE]
  refine tk 7 58 (.bool false) hHeld rfl (by kernel_rfl) (by kernel_rfl) (by kernel_rfl) (fun _ _ _ h=>h) (Or.inl ⟨by rfl,?_⟩) ?_
  ·rintro w ⟨q0,q1,q2⟩
   go_simp <;> (first | done | omega | (intro _;omega))
  try simp only[Act.put,zsE]
  refine tk 8 59 (.pointer (some ⟨b6,1,none⟩)) hHeld rfl (by kernel_rfl) (by kernel_rfl) (by kernel_rfl) (fun _ _ _ h=>h) (Or.inl ⟨by rfl,?_⟩) ?_
  ·rintro w ⟨q0,q1,q2⟩
   go_simp <;> (first | done | omega | (intro _;omega))
  try simp only[Act.put,zsE]
  refine tk 9 60 (.slice a6 L.length c6) hHeld rfl (by kernel_rfl) (by kernel_rfl) (by kernel_rfl) (fun _ _ _ h=>h) (Or.inl ⟨by rfl,?_⟩) ?_
  ·rintro w ⟨q0,q1,q2⟩
   go_simp <;> (first | done | omega | (intro _;omega))
  try simp only[Act.put,zsE]
  refine tk 10 61 (.int .i64 (L.length:Nat)) hHeld rfl (by kernel_rfl) (by kernel_rfl) (by kernel_rfl) (fun _ _ _ h=>h) (Or.inl ⟨by rfl,?_⟩) ?_
  ·rintro w ⟨q0,q1,q2⟩
   go_simp <;> (first | done | omega | (intro _;omega))
  try simp only[Act.put,zsE]
  refine tk 11 62 (.pointer (some ⟨b7,1,none⟩)) hHeld rfl (by kernel_rfl) (by kernel_rfl) (by kernel_rfl) (fun _ _ _ h=>h) (Or.inl ⟨by rfl,?_⟩) ?_
  ·rintro w ⟨q0,q1,q2⟩
   go_simp <;> (first | done | omega | (intro _;omega))
  try simp only[Act.put,zsE]
  refine tk 12 63 (.slice a7 D.length c7) hHeld rfl (by kernel_rfl) (by kernel_rfl) (by kernel_rfl) (fun _ _ _ h=>h) (Or.inl ⟨by rfl,?_⟩) ?_
  ·rintro w ⟨q0,q1,q2⟩
   go_simp <;> (first | done | omega | (intro _;omega))
  try simp only[Act.put,zsE]
  refine tk 13 64 (.int .i64 (D.length:Nat)) hHeld rfl (by kernel_rfl) (by kernel_rfl) (by kernel_rfl) (fun _ _ _ h=>h) (Or.inl ⟨by rfl,?_⟩) ?_
  ·rintro w ⟨q0,q1,q2⟩
   go_simp <;> (first | done | omega | (intro _;omega))
  try simp only[Act.put,zsE]
  refine tk 14 65 (.int .i64 (l.length:Nat)) hHeld rfl (by kernel_rfl) (by kernel_rfl) (by kernel_rfl) (fun _ _ _ h=>h) (Or.inl ⟨by rfl,?_⟩) ?_
  ·rintro w ⟨q0,q1,q2⟩
   go_simp <;> (first | done | decide | (simp[IntKind.wrap,IntKind.bits,IntKind.signed];omega) | omega)
  try simp only[Act.put,zsE]
  refine tk 15 66 (.slice av l.length cv) hHeld rfl (by kernel_rfl) (by kernel_rfl) (by kernel_rfl) (fun _ _ _ h=>h) (Or.inl ⟨by rfl,?_⟩) ?_
  ·rintro w ⟨q0,q1,q2⟩
   go_simp <;> (first | done | omega | (intro _;omega))
  try simp only[Act.put,zsE]
  refine tk 16 67 (.int .i64 (l.length:Nat)) hHeld rfl (by kernel_rfl) (by kernel_rfl) (by kernel_rfl) (fun _ _ _ h=>h) (Or.inl ⟨by rfl,?_⟩) ?_
  ·rintro w ⟨q0,q1,q2⟩
   go_simp <;> (first | done | omega | (intro _;omega))
  try simp only[Act.put,zsE]
  refine tk 17 68 (.bool false) hHeld rfl (by kernel_rfl) (by kernel_rfl) (by kernel_rfl) (fun _ _ _ h=>h) (Or.inl ⟨by rfl,?_⟩) ?_
  ·rintro w ⟨q0,q1,q2⟩
   go_simp <;> (first | done | omega | (intro _;omega))
  try simp only[Act.put,zsE]
  refine tk 18 69 (.bool false) hHeld rfl (by kernel_rfl) (by kernel_rfl) (by kernel_rfl) (fun _ _ _ h=>h) (Or.inl ⟨by rfl,?_⟩) ?_
  ·rintro w ⟨q0,q1,q2⟩
   go_simp <;> (first | done | omega | (intro _;omega))
  try simp only[Act.put,zsE]
  refine tk 19 70 (.bool false) hHeld rfl (by kernel_rfl) (by kernel_rfl) (by kernel_rfl) (fun _ _ _ h=>h) (Or.inl ⟨by rfl,?_⟩) ?_
  ·rintro w ⟨q0,q1,q2⟩
   go_simp <;> (first | done | omega | (intro _;omega))
  try simp only[Act.put,zsE]
  refine tk 20 71 (.pointer (some ⟨b5,2,none⟩)) hHeld rfl (by kernel_rfl) (by kernel_rfl) (by kernel_rfl) (fun _ _ _ h=>h) (Or.inl ⟨by rfl,?_⟩) ?_
  ·rintro w ⟨q0,q1,q2⟩
   go_simp <;> (first | done | omega | (intro _;omega))
  try simp only[Act.put,zsE]
  refine tk 21 72 (.slice a5 L.length c5) hHeld rfl (by kernel_rfl) (by kernel_rfl) (by kernel_rfl) (fun _ _ _ h=>h) (Or.inl ⟨by rfl,?_⟩) ?_
  ·rintro w ⟨q0,q1,q2⟩
   go_simp <;> (first | done | omega | (intro _;omega))
  try simp only[Act.put,zsE]
  refine wpAnyH_ready (rs:=[22]) (by kernel_rfl) (by simp) ?_
  refine AllReadyH.cons rfl (fun K hK=>?_) AllReadyH.nil
  go_simp
  refine (HF.out _ BD.out).mono ?_;rintro e w5 ⟨rfl,hb5⟩;have BX5:=aA (aB BD.out hb5);clear hb5;rw[HSF.out];go_wp2_with fail
  refine hK.out _ _ (KS.out _ BX5.out) (fun hHeld=>?_)
  clear hK K;try simp only[Act.put,zsE]
  refine tk 23 74 (.bool false) hHeld rfl (by kernel_rfl) (by kernel_rfl) (by kernel_rfl) (fun _ _ _ h=>h) (Or.inl ⟨by rfl,?_⟩) ?_
  ·rintro w ⟨q0,q1,q2⟩
   go_simp <;> (first | done | omega | (intro _;omega))
  try simp only[Act.put,zsE]
  refine tk 24 75 (.bool false) hHeld rfl (by kernel_rfl) (by kernel_rfl) (by kernel_rfl) (fun _ _ _ h=>h) (Or.inl ⟨by rfl,?_⟩) ?_
  ·rintro w ⟨q0,q1,q2⟩
   go_simp <;> (first | done | omega | (intro _;omega))
  try simp only[Act.put,zsE]
  refine tk 25 76 (.bool false) hHeld rfl (by kernel_rfl) (by kernel_rfl) (by kernel_rfl) (fun _ _ _ h=>h) (Or.inl ⟨by rfl,?_⟩) ?_
  ·rintro w ⟨q0,q1,q2⟩
   go_simp <;> (first | done | omega | (intro _;omega))
  try simp only[Act.put,zsE]
  refine tk 26 77 (.pointer (some ⟨b6,1,none⟩)) hHeld rfl (by kernel_rfl) (by kernel_rfl) (by kernel_rfl) (fun _ _ _ h=>h) (Or.inl ⟨by rfl,?_⟩) ?_
  ·rintro w ⟨q0,q1,q2⟩
   go_simp <;> (first | done | omega | (intro _;omega))
  try simp only[Act.put,zsE]
  refine tk 27 78 (.slice a6 L.length c6) hHeld rfl (by kernel_rfl) (by kernel_rfl) (by kernel_rfl) (fun _ _ _ h=>h) (Or.inl ⟨by rfl,?_⟩) ?_
  ·rintro w ⟨q0,q1,q2⟩
   go_simp <;> (first | done | omega | (intro _;omega))
  try simp only[Act.put,zsE]
  refine tk 28 79 (.slice av l.length cv) hHeld rfl (by kernel_rfl) (by kernel_rfl) (by kernel_rfl) (fun _ _ _ h=>h) (Or.inl ⟨by rfl,?_⟩) ?_
  ·rintro w ⟨q0,q1,q2⟩
   go_simp <;> (first | done | omega | (intro _;omega))
  try simp only[Act.put,zsE]
  refine tk 29 80 (.slice qa qs.length qc) hHeld rfl (by kernel_rfl) (by kernel_rfl) (by kernel_rfl) (fun _ _ _ h=>h) (Or.inl ⟨by rfl,?_⟩) ?_
  ·rintro w ⟨q0,q1,q2⟩
   go_simp <;> (first | done | omega | (intro _;omega))
  try simp only[Act.put,zsE]
  refine wpAnyH_ready (rs:=[30]) (by kernel_rfl) (by simp) ?_
  refine AllReadyH.cons rfl (fun K hK=>?_) AllReadyH.nil
  go_simp
  refine (HL9.out _ BX5.out).mono ?_;rintro e w6 ⟨a9,c9,rfl,hO9,hb6⟩;have R9:=aA hO9.reads;have BX6:=aA (aB BX5.out hb6);clear hb6 hO9;go_wp2_with fail
  refine hK.out _ _ (KS.out _ BX6.out) (fun hHeld=>?_)
  clear hK K;try simp only[Act.put,zsE]
  refine tk 31 82 (.slice a9 L.length c9) hHeld rfl (by kernel_rfl) (by kernel_rfl) (by kernel_rfl) (fun _ _ _ h=>h) (Or.inl ⟨by rfl,?_⟩) ?_
  ·rintro w ⟨q0,q1,q2⟩
   go_simp <;> (first | done | omega | (intro _;omega))
  try simp only[Act.put,zsE]
  refine wpAnyH_ready (rs:=[32]) (by kernel_rfl) (by simp) ?_
  refine AllReadyH.cons rfl (fun K hK=>?_) AllReadyH.nil
  go_simp
  refine (HLN.out a9 c9 _ R9.out BX6.out).mono ?_;rintro e w7 ⟨rfl,hb7⟩;have BX7:=aA (aB BX6.out hb7);clear hb7;go_wp2_with fail
  refine hK.out _ _ (KS.out _ BX7.out) (fun hHeld=>?_)
  clear hK K;try simp only[Act.put,zsE]
  refine tk 33 84 (.bool false) hHeld rfl (by kernel_rfl) (by kernel_rfl) (by kernel_rfl) (fun _ _ _ h=>h) (Or.inl ⟨by rfl,?_⟩) ?_
  ·rintro w ⟨q0,q1,q2⟩
   go_simp <;> (first | done | omega | (intro _;omega))
  try simp only[Act.put,zsE]
  refine tk 34 85 (.bool false) hHeld rfl (by kernel_rfl) (by kernel_rfl) (by kernel_rfl) (fun _ _ _ h=>h) (Or.inl ⟨by rfl,?_⟩) ?_
  ·rintro w ⟨q0,q1,q2⟩
   go_simp <;> (first | done | omega | (intro _;omega))
  try simp only[Act.put,zsE]
  refine wpAnyH_done (by kernel_rfl) ?_ _
  go_wp2_with fail
  have B7:=aA (aB B4.out BX7.out);go_loopw [8] (fun i wr=>∃ j:Nat,j≤L.length∧i=.int .i64 j∧Hid (Below w7.heap.size w7 wr)) (fun i _=>L.length - (intOf i).toNat)
  case atStart=>exact ⟨0,Nat.zero_le _,rfl,aA (Below.refl _ _)⟩
  case round =>
   obtain ⟨j,hj,rfl,HB⟩:=hrel;have X5r:=aA (X5.out.below (aB BX7.out HB.out));by_cases hlt:j<L.length
   ·have hlt':(j:Int)<(L.length:Int):=by omega
    have hj0:¬ (j:Int)<0:=by omega
    have R5r:=aA (R5.out.below (aB BX7.out HB.out));obtain ⟨b,off,s,y,cc,hav,hbl,hs,c0,c1,c2',c3,c4,hr⟩:=R5r.out.at hlt;subst hav;obtain ⟨g6,o6,pn,hav6,hg6,hp6,e6⟩:=(R6.out.below (aB BX7.out HB.out)).at (k:=j) (by rw[List.length_map];exact hlt)
    subst hav6;have hpn:pn=s.name:=by rw[List.getElem?_map,hs]at hp6;simpa using hp6.symm
    subst hpn;have X6r:=aA (X6.out.below (aB BX7.out HB.out));have hsl:=List.mem_of_getElem? hs;obtain ⟨f1,f2,f3⟩:=HEach.out s hsl;have HCC:=aA (pV av cv l.length l s.name s wr (RD.out.below (aB B7.out HB.out)) rfl HRi.out SM.out f2);have HC2:=aA (fun u (hu:Below wr.heap.size wr u)=>pV (some ⟨b,off,none⟩) c5 L.length L s.name s u (R5r.out.below hu) rfl HLR.out HLR.out.tiny f3)
    have HF1:=aA (zv8 HRi.out (HAll.out s hsl));rw[f1]at HC2;clear hs c1 c2' c3 c4 hr f1 f2 f3 hp6;generalize dF l s=CH at *;obtain ⟨⟨k0,k1,k2⟩,k3,k4,k5⟩:=X5r.out;go_wp2_with fail
    refine HCC.out.mono ?_;rintro e w4 ⟨a3,c3,rfl,hr3,hc3,hb4⟩;have A4:=aA (aB hb4 (aC w4 (.cells #[.int .i64 0,.slice a3 CH.length c3] 38)));have X3:=aA (Two.new w4 (.int .i64 0) (.slice a3 CH.length c3) 38);have R3:=aA (hr3.rd.below (aC w4 (.cells #[.int .i64 0,.slice a3 CH.length c3] 38)));have hcb:=(A4.out.cell (p:=⟨b,off+j * 5,none⟩) hbl).trans c0;have hc6:=(A4.out.cell (p:=⟨g6,o6+j,none⟩) hg6).trans e6;have X5s:=aA (X5r.out.below A4.out);have X6s:=aA (X6r.out.below A4.out);have hbl4:b<(w4.alloc (.cells #[.int .i64 0,.slice a3 CH.length c3] 38)).heap.size:=Nat.lt_of_lt_of_le hbl A4.out.size
    have hg64:g6<(w4.alloc (.cells #[.int .i64 0,.slice a3 CH.length c3] 38)).heap.size:=Nat.lt_of_lt_of_le hg6 A4.out.size;clear hr3 hb4 c0 e6 HCC hbl hg6 k0 k1 k2 k3 k4 k5 X5r X6r;go_upto_region 15 with fail
    generalize w4.alloc (.cells #[.int .i64 0,.slice a3 CH.length c3] 38)=W9 at *;generalize w4.heap.size=b3 at *;have KB:Hid (∀ u:World,Below W9.heap.size W9 u→u.cell? ⟨b5,2,none⟩=some (.slice (some ⟨b,off,none⟩) L.length c5)∧u.cell? ⟨b,off+j * 5,none⟩=some (.string (str s.name))):=aA (fun u hu=>⟨(X5s.out.below hu).1.2.2,(hu.cell (p:=⟨b,off+j * 5,none⟩) hbl4).trans hcb⟩)
    have HC3:=aA (fun u (hu:Below W9.heap.size W9 u)=>HC2.out u (aB A4.out hu))
    have h2l:b5<W9.heap.size:=X5s.out.lt;have BD:=aA ((Below.refl W9.heap.size W9).drew);have BA:=aA (aB (aC W9 (.cells #[.int .i64 0,.slice none 0 0] 38)) (Below.refl _ _).drew);have Z4:=aA ((Box.new W9 (.int .i64 0) (.slice none 0 0) 38).below (Below.refl _ _).drew);have hn1:¬ b5=W9.heap.size:=by omega
    have hn2:¬ W9.heap.size=b5:=by omega
    have hn3:¬ b=W9.heap.size:=by omega
    have hn4:¬ W9.heap.size=b:=by omega
    clear HC2;obtain ⟨k0,k1⟩:=KB.out W9 (Below.refl _ _);go_cut [10] from 86 to 142 (fun v12 wc=>∃ (b4:Nat) (a4:Option Addr) (c4:Nat),v12=.pointer (some ⟨b4,0,none⟩)∧Hid (Two wc b4 (.int .i64 0) (.slice a4 CH.length c4))∧Hid (RdL wc a4 CH)∧Hid (Below W9.heap.size W9 wc))
    case first =>
     go_region_held3 (fun u=>u.cell? ⟨b5,2,none⟩=some (.slice (some ⟨b,off,none⟩) L.length c5)∧u.cell? ⟨b,off+j * 5,none⟩=some (.string (str s.name))) (first | exact KB.out _ BN6.out | exact KB.out _ (aB BN6.out (aC _ _)) | exact KB.out _ BS6.out | exact KB.out _ BA.out | exact KB.out _ BD.out | go_keep)
      ((first | (go_at_call 14;refine (HC3.out _ (by first | exact BD.out | exact BA.out)).mono ?_;rintro e w6 ⟨a4,c4,rfl,hr4,hc4,hb6⟩;have BN6:Hid (Below W9.heap.size W9 w6):=aA (by first | exact aB BD.out hb6 | exact aB BA.out hb6);have R6':=aA hr4.rd;(first | (have Z6:Box w6 W9.heap.size (.int .i64 0) (.slice none 0 0):=Z4.out.below hb6;have K6:=aA (aE.two w6 W9.heap.size 0 1 (.int .i64 0) (.slice a4 CH.length c4));have BS6:=aA (BN6.out.trans (K6.out.below (B:=W9.heap.size) BN6.out.size (fun x hx e=>by omega)));have RS6:=aA ((hr4.kept K6.out (fun x hx e=>by simp at hx;omega)).rd);have ZS:=aA (Two.set Z6.1 (.int .i64 0) (.slice a4 CH.length c4));obtain ⟨⟨n0,n1⟩,p0,p1⟩:=Z6) | skip);clear hr4 hc4 hb6)))
     ·go_wp2_with fail
      go_meet
      case rel=>exact ⟨w6.heap.size,a4,c4,rfl,aA (Two.new w6 _ _ _),aA (R6'.out.below (aC w6 (.cells #[.int .i64 0,.slice a4 CH.length c4] 38))),aA (aB BN6.out (aC _ _))⟩
     ·go_wp2_with fail
      go_meet
      case rel=>exact ⟨W9.heap.size,a4,c4,rfl,ZS,RS6,BS6⟩
    case rest =>
     obtain ⟨b4,a4,c4,rfl,X4,R4,BC⟩:=hcut;have X3':=aA (X3.out.below BC.out);have R3':=aA (R3.out.below BC.out);have B6:=aA (aB HB.out (aB A4.out BC.out));have hbW:b<wc.heap.size:=Nat.lt_of_lt_of_le hbl4 BC.out.size;have hgW:g6<wc.heap.size:=Nat.lt_of_lt_of_le hg64 BC.out.size;have X5t:=aA (X5s.out.below BC.out);have X6t:=aA (X6s.out.below BC.out);have hcb':=(BC.out.cell (p:=⟨b,off+j * 5,none⟩) hbl4).trans hcb;have hc6':=(BC.out.cell (p:=⟨g6,o6+j,none⟩) hg64).trans hc6;have KS:Hid (∀ u:World,Below wc.heap.size wc u→u.cell? ⟨b3,1,none⟩=some (.slice a3 CH.length c3)∧u.cell? ⟨b4,1,none⟩=some (.slice a4 CH.length c4)∧u.cell? ⟨b5,2,none⟩=some (.slice (some ⟨b,off,none⟩) L.length c5)∧u.cell? ⟨b,off+j * 5,none⟩=some (.string (str s.name))∧u.cell? ⟨b6,1,none⟩=some (.slice (some ⟨g6,o6,none⟩) L.length c6)∧u.cell? ⟨g6,o6+j,none⟩=some (.string (str s.name))):=aA (fun u hu=>⟨(X3'.out.below hu).2,(X4.out.below hu).2,(X5t.out.below hu).1.2.2,(hu.cell (p:=⟨b,off+j * 5,none⟩) hbW).trans hcb',(X6t.out.below hu).1.2,(hu.cell (p:=⟨g6,o6+j,none⟩) hgW).trans hc6'⟩)
     have BX:=aA (Below.refl wc.heap.size wc).drew;obtain ⟨M,hM⟩:∃ M,M=mK CH:=⟨_,rfl⟩;obtain ⟨hMl,hMs⟩:=zed HF1.out;rw[←hM]at hMl hMs;have hch4:CH.length≤4:=(fM.1 HF1.out).1;have HM:=aA (fun u x y (hu:RdL u x CH)=>xK x y CH.length CH u hu rfl (by omega) (zi5 HF1.out))
     rw[←hM]at HM;generalize lA CH=q1 at *;have HMs:=aA hMs;clear hM hMs k0 k1;go_wp2_with fail
     refine wp_region_held_drew (S:=fun u:World=>u.cell? ⟨b3,1,none⟩=some (.slice a3 CH.length c3)∧u.cell? ⟨b4,1,none⟩=some (.slice a4 CH.length c4)∧u.cell? ⟨b5,2,none⟩=some (.slice (some ⟨b,off,none⟩) L.length c5)∧u.cell? ⟨b,off+j * 5,none⟩=some (.string (str s.name))∧u.cell? ⟨b6,1,none⟩=some (.slice (some ⟨g6,o6,none⟩) L.length c6)∧u.cell? ⟨g6,o6+j,none⟩=some (.string (str s.name))) (by kernel_rfl) (KS.out _ BX.out) (fun hHeld=>?_)
     change wpAnyH _ _ _ _ _ _ (Array.replicate _ false) _ _;refine tk 0 110 (.pointer (some ⟨b5,2,none⟩)) hHeld rfl (by kernel_rfl) (by kernel_rfl) (by kernel_rfl) (fun _ _ _ h=>h) (Or.inl ⟨by rfl,?_⟩) ?_
     ·rintro w ⟨q0,q1,q2,q3,q4,q5⟩
      go_simp <;> (first | done | omega | (intro _;omega))
     try simp only[Act.put,zsE]
     refine tk 1 111 (.slice (some ⟨b,off,none⟩) L.length c5) hHeld rfl (by kernel_rfl) (by kernel_rfl) (by kernel_rfl) (fun _ _ _ h=>h) (Or.inl ⟨by rfl,?_⟩) ?_
     ·rintro w ⟨q0,q1,q2,q3,q4,q5⟩
      go_simp <;> (first | done | omega | (intro _;omega))
     try simp only[Act.put,zsE]
     refine tk 2 112 (.int .i64 j) hHeld rfl (by kernel_rfl) (by kernel_rfl) (by kernel_rfl) (fun _ _ _ h=>h) (Or.inl ⟨by rfl,?_⟩) ?_
     ·rintro w ⟨q0,q1,q2,q3,q4,q5⟩
      go_simp <;> (first | done | omega | (intro _;omega))
     try simp only[Act.put,zsE]
     refine tk 3 113 (.pointer (some ⟨b,off+j * 5,none⟩)) hHeld rfl (by kernel_rfl) (by kernel_rfl) (by kernel_rfl) (fun _ _ _ h=>h) (Or.inl ⟨by rfl,?_⟩) ?_
     ·rintro w ⟨q0,q1,q2,q3,q4,q5⟩
      go_simp <;> (first | done | omega | (intro _;omega))
     try simp only[Act.put,zsE]
     refine tk 4 114 (.pointer (some ⟨b,off+j * 5,none⟩)) hHeld rfl (by kernel_rfl) (by kernel_rfl) (by kernel_rfl) (fun _ _ _ h=>h) (Or.inl ⟨by rfl,?_⟩) ?_
     ·rintro w ⟨q0,q1,q2,q3,q4,q5⟩
      go_simp <;> (first | done | omega | (intro _;omega))
     try simp only[Act.put,zsE]
     refine tk 5 115 (.string (str s.name)) hHeld rfl (by kernel_rfl) (by kernel_rfl) (by kernel_rfl) (fun _ _ _ h=>h) (Or.inl ⟨by rfl,?_⟩) ?_
     ·rintro w ⟨q0,q1,q2,q3,q4,q5⟩
      go_simp <;> (first | done | omega | (intro _;omega))
     try simp only[Act.put,zsE]
     refine tk 6 116 (.pointer (some ⟨b6,1,none⟩)) hHeld rfl (by kernel_rfl) (by kernel_rfl) (by kernel_rfl) (fun _ _ _ h=>h) (Or.inl ⟨by rfl,?_⟩) ?_
     ·rintro w ⟨q0,q1,q2,q3,q4,q5⟩
      go_simp <;> (first | done | omega | (intro _;omega))
     try simp only[Act.put,zsE]
     refine tk 7 117 (.slice (some ⟨g6,o6,none⟩) L.length c6) hHeld rfl (by kernel_rfl) (by kernel_rfl) (by kernel_rfl) (fun _ _ _ h=>h) (Or.inl ⟨by rfl,?_⟩) ?_
     ·rintro w ⟨q0,q1,q2,q3,q4,q5⟩
      go_simp <;> (first | done | omega | (intro _;omega))
     try simp only[Act.put,zsE]
     refine tk 8 118 (.int .i64 j) hHeld rfl (by kernel_rfl) (by kernel_rfl) (by kernel_rfl) (fun _ _ _ h=>h) (Or.inl ⟨by rfl,?_⟩) ?_
     ·rintro w ⟨q0,q1,q2,q3,q4,q5⟩
      go_simp <;> (first | done | omega | (intro _;omega))
     try simp only[Act.put,zsE]
     refine tk 9 119 (.pointer (some ⟨g6,o6+j,none⟩)) hHeld rfl (by kernel_rfl) (by kernel_rfl) (by kernel_rfl) (fun _ _ _ h=>h) (Or.inl ⟨by rfl,?_⟩) ?_
     ·rintro w ⟨q0,q1,q2,q3,q4,q5⟩
      go_simp <;> (first | done | omega | (intro _;omega))
     try simp only[Act.put,zsE]
     refine tk 10 120 (.string (str s.name)) hHeld rfl (by kernel_rfl) (by kernel_rfl) (by kernel_rfl) (fun _ _ _ h=>h) (Or.inl ⟨by rfl,?_⟩) ?_
     ·rintro w ⟨q0,q1,q2,q3,q4,q5⟩
      go_simp <;> (first | done | omega | (intro _;omega))
     try simp only[Act.put,zsE]
     refine tk 11 121 (.bool false) hHeld rfl (by kernel_rfl) (by kernel_rfl) (by kernel_rfl) (fun _ _ _ h=>h) (Or.inl ⟨by rfl,?_⟩) ?_
     ·rintro w ⟨q0,q1,q2,q3,q4,q5⟩
      go_simp <;> (first | done | omega | (intro _;omega))
     try simp only[Act.put,zsE]
     refine tk 12 122 (.bool false) hHeld rfl (by kernel_rfl) (by kernel_rfl) (by kernel_rfl) (fun _ _ _ h=>h) (Or.inl ⟨by rfl,?_⟩) ?_
     ·rintro w ⟨q0,q1,q2,q3,q4,q5⟩
      go_simp <;> (first | done | omega | (intro _;omega))
     try simp only[Act.put,zsE]
     refine tk 13 123 (.pointer (some ⟨b3,1,none⟩)) hHeld rfl (by kernel_rfl) (by kernel_rfl) (by kernel_rfl) (fun _ _ _ h=>h) (Or.inl ⟨by rfl,?_⟩) ?_
     ·rintro w ⟨q0,q1,q2,q3,q4,q5⟩
      go_simp <;> (first | done | omega | (intro _;omega))
     try simp only[Act.put,zsE]
     refine tk 14 124 (.slice a3 CH.length c3) hHeld rfl (by kernel_rfl) (by kernel_rfl) (by kernel_rfl) (fun _ _ _ h=>h) (Or.inl ⟨by rfl,?_⟩) ?_
     ·rintro w ⟨q0,q1,q2,q3,q4,q5⟩
      go_simp <;> (first | done | omega | (intro _;omega))
     try simp only[Act.put,zsE]
     refine tk 15 125 (.int .i64 (CH.length:Nat)) hHeld rfl (by kernel_rfl) (by kernel_rfl) (by kernel_rfl) (fun _ _ _ h=>h) (Or.inl ⟨by rfl,?_⟩) ?_
     ·rintro w ⟨q0,q1,q2,q3,q4,q5⟩
      go_simp <;> (first | done | omega | (intro _;omega))
     try simp only[Act.put,zsE]
     refine tk 16 126 (.pointer (some ⟨b4,1,none⟩)) hHeld rfl (by kernel_rfl) (by kernel_rfl) (by kernel_rfl) (fun _ _ _ h=>h) (Or.inl ⟨by rfl,?_⟩) ?_
     ·rintro w ⟨q0,q1,q2,q3,q4,q5⟩
      go_simp <;> (first | done | omega | (intro _;omega))
     try simp only[Act.put,zsE]
     refine tk 17 127 (.slice a4 CH.length c4) hHeld rfl (by kernel_rfl) (by kernel_rfl) (by kernel_rfl) (fun _ _ _ h=>h) (Or.inl ⟨by rfl,?_⟩) ?_
     ·rintro w ⟨q0,q1,q2,q3,q4,q5⟩
      go_simp <;> (first | done | omega | (intro _;omega))
     try simp only[Act.put,zsE]
     refine tk 18 128 (.int .i64 (CH.length:Nat)) hHeld rfl (by kernel_rfl) (by kernel_rfl) (by kernel_rfl) (fun _ _ _ h=>h) (Or.inl ⟨by rfl,?_⟩) ?_
     ·rintro w ⟨q0,q1,q2,q3,q4,q5⟩
      go_simp <;> (first | done | omega | (intro _;omega))
     try simp only[Act.put,zsE]
     refine tk 19 129 (.bool false) hHeld rfl (by kernel_rfl) (by kernel_rfl) (by kernel_rfl) (fun _ _ _ h=>h) (Or.inl ⟨by rfl,?_⟩) ?_
     ·rintro w ⟨q0,q1,q2,q3,q4,q5⟩
      go_simp <;> (first | done | omega | (intro _;omega))
     try simp only[Act.put,zsE]
     refine tk 20 130 (.bool false) hHeld rfl (by kernel_rfl) (by kernel_rfl) (by kernel_rfl) (fun _ _ _ h=>h) (Or.inl ⟨by rfl,?_⟩) ?_
     ·rintro w ⟨q0,q1,q2,q3,q4,q5⟩
      go_simp <;> (first | done | omega | (intro _;omega))
     try simp only[Act.put,zsE]
     refine tk 21 131 (.bool false) hHeld rfl (by kernel_rfl) (by kernel_rfl) (by kernel_rfl) (fun _ _ _ h=>h) (Or.inl ⟨by rfl,?_⟩) ?_
     ·rintro w ⟨q0,q1,q2,q3,q4,q5⟩
      go_simp <;> (first | done | omega | (intro _;omega))
     try simp only[Act.put,zsE]
     refine tk 22 132 (.pointer (some ⟨b3,1,none⟩)) hHeld rfl (by kernel_rfl) (by kernel_rfl) (by kernel_rfl) (fun _ _ _ h=>h) (Or.inl ⟨by rfl,?_⟩) ?_
     ·rintro w ⟨q0,q1,q2,q3,q4,q5⟩
      go_simp <;> (first | done | omega | (intro _;omega))
     try simp only[Act.put,zsE]
     refine tk 23 133 (.slice a3 CH.length c3) hHeld rfl (by kernel_rfl) (by kernel_rfl) (by kernel_rfl) (fun _ _ _ h=>h) (Or.inl ⟨by rfl,?_⟩) ?_
     ·rintro w ⟨q0,q1,q2,q3,q4,q5⟩
      go_simp <;> (first | done | omega | (intro _;omega))
     try simp only[Act.put,zsE]
     refine tk 26 136 (.pointer (some ⟨b4,1,none⟩)) hHeld rfl (by kernel_rfl) (by kernel_rfl) (by kernel_rfl) (fun _ _ _ h=>h) (Or.inl ⟨by rfl,?_⟩) ?_
     ·rintro w ⟨q0,q1,q2,q3,q4,q5⟩
      go_simp <;> (first | done | omega | (intro _;omega))
     try simp only[Act.put,zsE]
     refine tk 27 137 (.slice a4 CH.length c4) hHeld rfl (by kernel_rfl) (by kernel_rfl) (by kernel_rfl) (fun _ _ _ h=>h) (Or.inl ⟨by rfl,?_⟩) ?_
     ·rintro w ⟨q0,q1,q2,q3,q4,q5⟩
      go_simp <;> (first | done | omega | (intro _;omega))
     try simp only[Act.put,zsE]
     refine wpAnyH_ready (rs:=[24]) (by kernel_rfl) (by simp) ?_
     refine AllReadyH.cons rfl (fun K hK=>?_) AllReadyH.nil
     go_simp
     refine (HM.out _ _ _ (R3'.out.below BX.out)).mono ?_;rintro e x1 ⟨ta,tc,rfl,hG1,hxx1⟩;have BXn:=aA (aB BX.out hxx1);have T1:=aA hG1.rd;clear hG1;clear hxx1 BX;have BX:=BXn;clear BXn;go_wp2_with fail
     refine hK.out _ _ (KS.out _ BX.out) (fun hHeld=>?_)
     clear hK K;try simp only[Act.put,zsE]
     refine tk 25 135 (.slice ta M.length tc) hHeld rfl (by kernel_rfl) (by kernel_rfl) (by kernel_rfl) (fun _ _ _ h=>h) (Or.inl ⟨by rfl,?_⟩) ?_
     ·rintro w ⟨q0,q1,q2,q3,q4,q5⟩
      go_simp <;> (first | done | omega | (intro _;omega))
     try simp only[Act.put,zsE]
     refine wpAnyH_ready (rs:=[28]) (by kernel_rfl) (by simp) ?_
     refine AllReadyH.cons rfl (fun K hK=>?_) AllReadyH.nil
     go_simp
     refine (HM.out _ _ _ (R4.out.below BX.out)).mono ?_;rintro e x2 ⟨tb,td,rfl,hG2,hxx2⟩;have BXn:=aA (aB BX.out hxx2);have T2:=aA hG2.rd;have T1n:=aA (T1.out.below hxx2);clear hG2 T1;have T1:=T1n;clear T1n;clear hxx2 BX;have BX:=BXn;clear BXn;go_wp2_with fail
     refine hK.out _ _ (KS.out _ BX.out) (fun hHeld=>?_)
     clear hK K;try simp only[Act.put,zsE]
     refine tk 29 139 (.slice tb M.length td) hHeld rfl (by kernel_rfl) (by kernel_rfl) (by kernel_rfl) (fun _ _ _ h=>h) (Or.inl ⟨by rfl,?_⟩) ?_
     ·rintro w ⟨q0,q1,q2,q3,q4,q5⟩
      go_simp <;> (first | done | omega | (intro _;omega))
     try simp only[Act.put,zsE]
     refine wpAnyH_ready (rs:=[30]) (by kernel_rfl) (by simp) ?_
     refine AllReadyH.cons rfl (fun K hK=>?_) AllReadyH.nil
     go_simp
     refine (tY ta tb tc td M.length M.length M M _ T1.out T2.out rfl rfl (by omega) (by omega) HMs.out HMs.out).mono ?_
     rintro e x3 ⟨rfl,hxx3⟩;have BXn:=aA (aB BX.out hxx3);rw[decide_eq_true (rfl:M=M)];clear hxx3 BX;have BX:=BXn;clear BXn;go_wp2_with fail
     refine hK.out _ _ (KS.out _ BX.out) (fun hHeld=>?_)
     clear hK K;try simp only[Act.put,zsE]
     refine tk 31 141 (.bool false) hHeld rfl (by kernel_rfl) (by kernel_rfl) (by kernel_rfl) (fun _ _ _ h=>h) (Or.inl ⟨by rfl,?_⟩) ?_
     ·rintro w ⟨q0,q1,q2,q3,q4,q5⟩
      go_simp <;> (first | done | omega | (intro _;omega))
     try simp only[Act.put,zsE]
     refine tk 32 142 (.bool false) hHeld rfl (by kernel_rfl) (by kernel_rfl) (by kernel_rfl) (fun _ _ _ h=>h) (Or.inl ⟨by rfl,?_⟩) ?_
     ·rintro w ⟨q0,q1,q2,q3,q4,q5⟩
      go_simp <;> (first | done | omega | (intro _;omega))
     try simp only[Act.put,zsE]
     refine wpAnyH_done (by kernel_rfl) ?_ _
     go_wp2_with fail
     go_roundw
     case rel=>exact ⟨j+1,by omega,by go_num,aA (aB B6.out BX.out)⟩
     case measure=>simp[intOf];omega
   ·have hlt':¬ (j:Int)<(L.length:Int):=by omega
    have HCC:=aA (fun u (hu:Below wr.heap.size wr u)=>mP a5 c5 L.length L qa qc qs.length qs u (R5.out.below (aB BX7.out (aB HB.out hu))) rfl HLR.out HLR.out.tiny (RQ.out.below (aB B7.out (aB HB.out hu))) rfl hq20)
    have HC1:=aA (fun u (hu:Below wr.heap.size wr u)=>HCS.out u (aB B7.out (aB HB.out hu)))
    have HC2:=aA (fun u (hu:Below wr.heap.size wr u)=>HCM.out u (aB B7.out (aB HB.out hu)))
    have hZl:(cV L).length≤1048576:=Nat.le_trans (oC fun s hs=>dM.1 (HLR.out.own s hs).2.2) (by omega)
    clear HCS HCM;generalize cV L=Z at *;obtain ⟨⟨k0,k1,k2⟩,k3,k4,k5⟩:=X5r.out;go_wp2_with fail
    clear k0 k1 k2 k3 k4 k5;have KS:Hid (∀ u:World,Below wr.heap.size wr u→u.cell? ⟨b5,2,none⟩=some (.slice a5 L.length c5)):=aA (fun u hu=>(X5r.out.below hu).1.2.2)
    have BX:=aA (Below.refl wr.heap.size wr).drew;refine wp_region_held_drew (S:=fun u:World=>u.cell? ⟨b5,2,none⟩=some (.slice a5 L.length c5)) (by kernel_rfl) (KS.out _ BX.out) (fun hHeld=>?_)
    change wpAnyH _ _ _ _ _ _ (Array.replicate _ false) _ _;refine tk 0 143 (.pointer (some ⟨b5,2,none⟩)) hHeld rfl (by kernel_rfl) (by kernel_rfl) (by kernel_rfl) (fun _ _ _ h=>h) (Or.inl ⟨by rfl,?_⟩) ?_
    ·rintro w q0
     go_simp <;> (first | done | omega | (intro _;omega))
    try simp only[Act.put,zsE]
    refine tk 1 144 (.slice a5 L.length c5) hHeld rfl (by kernel_rfl) (by kernel_rfl) (by kernel_rfl) (fun _ _ _ h=>h) (Or.inl ⟨by rfl,?_⟩) ?_
    ·rintro w q0
     go_simp <;> (first | done | omega | (intro _;omega))
    try simp only[Act.put,zsE]
    refine tk 2 145 (.slice qa qs.length qc) hHeld rfl (by kernel_rfl) (by kernel_rfl) (by kernel_rfl) (fun _ _ _ h=>h) (Or.inl ⟨by rfl,?_⟩) ?_
    ·rintro w q0
     go_simp <;> (first | done | omega | (intro _;omega))
    try simp only[Act.put,zsE]
    refine tk 6 149 (.pointer (some ⟨b5,2,none⟩)) hHeld rfl (by kernel_rfl) (by kernel_rfl) (by kernel_rfl) (fun _ _ _ h=>h) (Or.inl ⟨by rfl,?_⟩) ?_
    ·rintro w q0
     go_simp <;> (first | done | omega | (intro _;omega))
    try simp only[Act.put,zsE]
    refine tk 7 150 (.slice a5 L.length c5) hHeld rfl (by kernel_rfl) (by kernel_rfl) (by kernel_rfl) (fun _ _ _ h=>h) (Or.inl ⟨by rfl,?_⟩) ?_
    ·rintro w q0
     go_simp <;> (first | done | omega | (intro _;omega))
    try simp only[Act.put,zsE]
    refine tk 8 151 (.int .i64 (L.length:Nat)) hHeld rfl (by kernel_rfl) (by kernel_rfl) (by kernel_rfl) (fun _ _ _ h=>h) (Or.inl ⟨by rfl,?_⟩) ?_
    ·rintro w q0
     go_simp <;> (first | done | omega | (intro _;omega))
    try simp only[Act.put,zsE]
    refine wpAnyH_ready (rs:=[3]) (by kernel_rfl) (by simp) ?_
    refine AllReadyH.cons rfl (fun K hK=>?_) AllReadyH.nil
    go_simp
    refine (HCC.out _ BX.out).mono ?_;rintro e x1 ⟨a8,c8,rfl,-,hxx1⟩;have BXn:=aA (aB BX.out hxx1);rw[HAG.out];clear hxx1 BX;have BX:=BXn;clear BXn;go_wp2_with fail
    refine hK.out _ _ (KS.out _ BX.out) (fun hHeld=>?_)
    clear hK K;try simp only[Act.put,zsE]
    refine tk 4 147 (.slice a8 L.length c8) hHeld rfl (by kernel_rfl) (by kernel_rfl) (by kernel_rfl) (fun _ _ _ h=>h) (Or.inl ⟨by rfl,?_⟩) ?_
    ·rintro w q0
     go_simp <;> (first | done | omega | (intro _;omega))
    try simp only[Act.put,zsE]
    refine tk 5 148 (.int .i64 (L.length:Nat)) hHeld rfl (by kernel_rfl) (by kernel_rfl) (by kernel_rfl) (fun _ _ _ h=>h) (Or.inl ⟨by rfl,?_⟩) ?_
    ·rintro w q0
     go_simp <;> (first | done | omega | (intro _;omega))
    try simp only[Act.put,zsE]
    refine tk 9 152 (.bool true) hHeld rfl (by kernel_rfl) (by kernel_rfl) (by kernel_rfl) (fun _ _ _ h=>h) (Or.inl ⟨by rfl,?_⟩) ?_
    ·rintro w q0
     go_simp <;> (first | done | omega | (intro _;omega))
    try simp only[Act.put,zsE]
    refine tk 10 153 (.bool true) hHeld rfl (by kernel_rfl) (by kernel_rfl) (by kernel_rfl) (fun _ _ _ h=>h) (Or.inl ⟨by rfl,?_⟩) ?_
    ·rintro w q0
     go_simp <;> (first | done | omega | (intro _;omega))
    try simp only[Act.put,zsE]
    refine tk 11 154 (.slice av l.length cv) hHeld rfl (by kernel_rfl) (by kernel_rfl) (by kernel_rfl) (fun _ _ _ h=>h) (Or.inl ⟨by rfl,?_⟩) ?_
    ·rintro w q0
     go_simp <;> (first | done | omega | (intro _;omega))
    try simp only[Act.put,zsE]
    refine tk 12 155 (.slice qa qs.length qc) hHeld rfl (by kernel_rfl) (by kernel_rfl) (by kernel_rfl) (fun _ _ _ h=>h) (Or.inl ⟨by rfl,?_⟩) ?_
    ·rintro w q0
     go_simp <;> (first | done | omega | (intro _;omega))
    try simp only[Act.put,zsE]
    refine tk 15 158 (.slice av l.length cv) hHeld rfl (by kernel_rfl) (by kernel_rfl) (by kernel_rfl) (fun _ _ _ h=>h) (Or.inl ⟨by rfl,?_⟩) ?_
    ·rintro w q0
     go_simp <;> (first | done | omega | (intro _;omega))
    try simp only[Act.put,zsE]
    refine tk 16 159 (.slice qa qs.length qc) hHeld rfl (by kernel_rfl) (by kernel_rfl) (by kernel_rfl) (fun _ _ _ h=>h) (Or.inl ⟨by rfl,?_⟩) ?_
    ·rintro w q0
     go_simp <;> (first | done | omega | (intro _;omega))
    try simp only[Act.put,zsE]
    refine wpAnyH_ready (rs:=[13]) (by kernel_rfl) (by simp) ?_
    refine AllReadyH.cons rfl (fun K hK=>?_) AllReadyH.nil
    go_simp
    refine (HC1.out _ BX.out).mono ?_;rintro e x2 ⟨z1,y1,rfl,hZ1,hxx2⟩;have BXn:=aA (aB BX.out hxx2);have R1:=aA (cY hZ1 rfl);clear hZ1;clear hxx2 BX;have BX:=BXn;clear BXn;go_wp2_with fail
    refine hK.out _ _ (KS.out _ BX.out) (fun hHeld=>?_)
    clear hK K;try simp only[Act.put,zsE]
    refine tk 14 157 (.slice z1 Z.length y1) hHeld rfl (by kernel_rfl) (by kernel_rfl) (by kernel_rfl) (fun _ _ _ h=>h) (Or.inl ⟨by rfl,?_⟩) ?_
    ·rintro w q0
     go_simp <;> (first | done | omega | (intro _;omega))
    try simp only[Act.put,zsE]
    refine wpAnyH_ready (rs:=[17]) (by kernel_rfl) (by simp) ?_
    refine AllReadyH.cons rfl (fun K hK=>?_) AllReadyH.nil
    go_simp
    refine (HC2.out _ BX.out).mono ?_;rintro e x3 ⟨z2,y2,rfl,hZ2,hxx3⟩;have BXn:=aA (aB BX.out hxx3);have R2:=aA (cY hZ2 rfl);have R1n:=aA (R1.out.below hxx3);clear hZ2 R1;have R1:=R1n;clear R1n;clear hxx3 BX;have BX:=BXn;clear BXn;go_wp2_with fail
    refine hK.out _ _ (KS.out _ BX.out) (fun hHeld=>?_)
    clear hK K;try simp only[Act.put,zsE]
    refine tk 18 161 (.slice z2 Z.length y2) hHeld rfl (by kernel_rfl) (by kernel_rfl) (by kernel_rfl) (fun _ _ _ h=>h) (Or.inl ⟨by rfl,?_⟩) ?_
    ·rintro w q0
     go_simp <;> (first | done | omega | (intro _;omega))
    try simp only[Act.put,zsE]
    refine wpAnyH_ready (rs:=[19]) (by kernel_rfl) (by simp) ?_
    refine AllReadyH.cons rfl (fun K hK=>?_) AllReadyH.nil
    go_simp
    refine (zof z1 z2 y1 y2 Z _ R1.out R2.out hZl).mono ?_;rintro e x4 ⟨rfl,hxx4⟩;have BXn:=aA (aB BX.out hxx4);clear hxx4 BX;have BX:=BXn;clear BXn;go_wp2_with fail
    refine hK.out _ _ (KS.out _ BX.out) (fun hHeld=>?_)
    clear hK K;try simp only[Act.put,zsE]
    refine tk 20 163 (.bool true) hHeld rfl (by kernel_rfl) (by kernel_rfl) (by kernel_rfl) (fun _ _ _ h=>h) (Or.inl ⟨by rfl,?_⟩) ?_
    ·rintro w q0
     go_simp <;> (first | done | omega | (intro _;omega))
    try simp only[Act.put,zsE]
    refine tk 21 2 (.bool true) hHeld rfl (by kernel_rfl) (by kernel_rfl) (by kernel_rfl) (fun _ _ _ h=>h) (Or.inl ⟨by rfl,?_⟩) ?_
    ·rintro w q0
     go_simp <;> (first | done | omega | (intro _;omega))
    try simp only[Act.put,zsE]
    refine wpAnyH_done (by kernel_rfl) ?_ _
    go_wp2_with fail
    go_ret
    exact ⟨rfl,aB B1.out (aB B7.out (aB HB.out BX.out))⟩
 ·have HLV:=aA (fun u (hu:Below w1.heap.size w1 u)=>vW av cv l.length l qa qc qs.length qs u (RD.out.below hu) rfl SM.out rfl hz)
  have HDO:=aA (fun u (hu:Below w1.heap.size w1 u)=>zX av cv l.length l qa qc qs.length qs u (RD.out.below hu) rfl SM.out rfl hz)
  have HSC:=aA (fun u (hu:Below w1.heap.size w1 u)=>sZ av cv l.length l qa qc qs.length qs u (RD.out.below hu) rfl SM.out GD.out rfl hz)
  have HIC:=aA (rW av cv l.length l qa qc qs.length qs w1 RD.out rfl SM.out rfl hz);obtain ⟨g,hge⟩:∃ g,g=eM l qs:=⟨_,rfl⟩;rw[←hge]at HLV HDO HSC HIC hz;have hgb:(g==0)=false:=by simpa using hz
  clear hge hz;go_wp2_with fail
  refine (HIC.out).mono ?_;rintro e w2 ⟨a5,c5,rfl,hH5,hb2⟩;have X5:=aA (dE.new w2 (.int .i64 g) (.int .i64 0) (.slice a5 0 c5) 29);have R5:=aA (hH5.rd.below (aC w2 (.cells #[.int .i64 g,.int .i64 0,.slice a5 0 c5] 29)));have B2:=aA (aB hb2 (aC w2 (.cells #[.int .i64 g,.int .i64 0,.slice a5 0 c5] 29)));clear hH5 hb2;go_wp2_with fail
  refine (HLV.out _ B2.out).mono ?_;rintro e w3 ⟨a6,c6,rfl,hO6,hb3⟩;have X6:=aA (Box.new w3 (.int .i64 g) (.slice a6 0 c6) 32);have R6:=aA (hO6.reads.below (aC w3 (.cells #[.int .i64 g,.slice a6 0 c6] 32)));have BB3:=aA (aB hb3 (aC w3 (.cells #[.int .i64 g,.slice a6 0 c6] 32)));have X5n:=aA (X5.out.below BB3.out);have R5n:=aA (R5.out.below BB3.out);have B3:=aA (aB B2.out BB3.out);clear hO6 hb3 X5 R5;go_wp2_with fail
  refine (HDO.out _ B3.out).mono ?_;rintro e w4 ⟨a7,c7,rfl,hO7,hb4⟩;have X7:=aA (Box.new w4 (.int .i64 g) (.slice a7 0 c7) 32);have BB4:=aA (aB hb4 (aC w4 (.cells #[.int .i64 g,.slice a7 0 c7] 32)));have X5:=aA (X5n.out.below BB4.out);have R5:=aA (R5n.out.below BB4.out);have X6n:=aA (X6.out.below BB4.out);have R6n:=aA (R6.out.below BB4.out);have B4:=aA (aB B3.out BB4.out);clear hO7 hb4 X5n R5n X6 R6 B2 B3;have X6:=X6n;have R6:=R6n;clear X6n R6n;obtain ⟨⟨t0,t1,t2⟩,t3,t4,t5⟩:=X5.out;go_wp2_with fail
  clear t0 t1 t2 t3 t4 t5;generalize w4.alloc (.cells #[.int .i64 g,.slice a7 0 c7] 32)=W4 at *;generalize w2.heap.size=b5 at *;generalize w3.heap.size=b6 at *;generalize w4.heap.size=b7 at *;have KS:Hid (∀ u:World,Below W4.heap.size W4 u→u.cell? ⟨b5,0,none⟩=some (.int .i64 g)∧u.cell? ⟨b6,0,none⟩=some (.int .i64 g)∧u.cell? ⟨b7,0,none⟩=some (.int .i64 g)):=aA (fun u hu=>⟨(X5.out.below hu).1.1,(X6.out.below hu).1.1,(X7.out.below hu).1.1⟩)
  have HSC':=aA (fun u (hu:Below W4.heap.size W4 u)=>HSC.out u (aB B4.out hu))
  clear HSC;have HSC:=HSC';clear HSC';have BD:Hid (Below W4.heap.size W4 W4.drew):=aA (Below.refl _ _).drew;refine wp_region_held_drew (S:=fun u:World=>u.cell? ⟨b5,0,none⟩=some (.int .i64 g)∧u.cell? ⟨b6,0,none⟩=some (.int .i64 g)∧u.cell? ⟨b7,0,none⟩=some (.int .i64 g)) (by kernel_rfl) (KS.out _ BD.out) (fun hHeld=>?_)
  change wpAnyH _ _ _ _ _ _ (Array.replicate _ false) _ _;refine tk 0 30 (.slice av l.length cv) hHeld rfl (by kernel_rfl) (by kernel_rfl) (by kernel_rfl) (fun _ _ _ h=>h) (Or.inl ⟨by rfl,?_⟩) ?_
  ·rintro w ⟨q0,q1,q2⟩
   go_simp <;> (first | done | omega | (intro _;omega))
  try simp only[Act.put,zsE]
  refine tk 1 31 (.slice qa qs.length qc) hHeld rfl (by kernel_rfl) (by kernel_rfl) (by kernel_rfl) (fun _ _ _ h=>h) (Or.inl ⟨by rfl,?_⟩) ?_
  ·rintro w ⟨q0,q1,q2⟩
   go_simp <;> (first | done | omega | (intro _;omega))
  try simp only[Act.put,zsE]
  refine tk 4 34 (.pointer (some ⟨b5,0,none⟩)) hHeld rfl (by kernel_rfl) (by kernel_rfl) (by kernel_rfl) (fun _ _ _ h=>h) (Or.inl ⟨by rfl,?_⟩) ?_
  ·rintro w ⟨q0,q1,q2⟩
   go_simp <;> (first | done | omega | (intro _;omega))
  try simp only[Act.put,zsE]
  refine tk 5 35 (.int .i64 g) hHeld rfl (by kernel_rfl) (by kernel_rfl) (by kernel_rfl) (fun _ _ _ h=>h) (Or.inl ⟨by rfl,?_⟩) ?_
  ·rintro w ⟨q0,q1,q2⟩
   go_simp <;> (first | done | omega | (intro _;omega))
  try simp only[Act.put,zsE]
  refine wpAnyH_ready (rs:=[2]) (by kernel_rfl) (by simp) ?_
  refine AllReadyH.cons rfl (fun K hK=>?_) AllReadyH.nil
  go_simp
  refine (HSC.out _ BD.out).mono ?_;rintro e w5 ⟨rfl,hb5⟩;have BX:=aA (aB BD.out hb5);clear hb5;go_wp2_with fail
  refine hK.out _ _ (KS.out _ BX.out) (fun hHeld=>?_)
  clear hK K;try simp only[Act.put,zsE]
  refine tk 3 33 (.int .i64 g) hHeld rfl (by kernel_rfl) (by kernel_rfl) (by kernel_rfl) (fun _ _ _ h=>h) (Or.inl ⟨by rfl,?_⟩) ?_
  ·rintro w ⟨q0,q1,q2⟩
   go_simp <;> (first | done | omega | (intro _;omega))
  try simp only[Act.put,zsE]
  refine tk 6 36 (.bool true) hHeld rfl (by kernel_rfl) (by kernel_rfl) (by kernel_rfl) (fun _ _ _ h=>h) (Or.inl ⟨by rfl,?_⟩) ?_
  ·rintro w ⟨q0,q1,q2⟩
   go_simp <;> (first | done | omega | (intro _;omega))
  try simp only[Act.put,zsE]
  refine tk 7 37 (.bool true) hHeld rfl (by kernel_rfl) (by kernel_rfl) (by kernel_rfl) (fun _ _ _ h=>h) (Or.inl ⟨by rfl,?_⟩) ?_
  ·rintro w ⟨q0,q1,q2⟩
   go_simp <;> (first | done | omega | (intro _;omega))
  try simp only[Act.put,zsE]
  refine tk 8 38 (.pointer (some ⟨b6,0,none⟩)) hHeld rfl (by kernel_rfl) (by kernel_rfl) (by kernel_rfl) (fun _ _ _ h=>h) (Or.inl ⟨by rfl,?_⟩) ?_
  ·rintro w ⟨q0,q1,q2⟩
   go_simp <;> (first | done | omega | (intro _;omega))
  try simp only[Act.put,zsE]
  refine tk 9 39 (.int .i64 g) hHeld rfl (by kernel_rfl) (by kernel_rfl) (by kernel_rfl) (fun _ _ _ h=>h) (Or.inl ⟨by rfl,?_⟩) ?_
  ·rintro w ⟨q0,q1,q2⟩
   go_simp <;> (first | done | omega | (intro _;omega))
  try simp only[Act.put,zsE]
  refine tk 10 40 (.pointer (some ⟨b5,0,none⟩)) hHeld rfl (by kernel_rfl) (by kernel_rfl) (by kernel_rfl) (fun _ _ _ h=>h) (Or.inl ⟨by rfl,?_⟩) ?_
  ·rintro w ⟨q0,q1,q2⟩
   go_simp <;> (first | done | omega | (intro _;omega))
  try simp only[Act.put,zsE]
  refine tk 11 41 (.int .i64 g) hHeld rfl (by kernel_rfl) (by kernel_rfl) (by kernel_rfl) (fun _ _ _ h=>h) (Or.inl ⟨by rfl,?_⟩) ?_
  ·rintro w ⟨q0,q1,q2⟩
   go_simp <;> (first | done | omega | (intro _;omega))
  try simp only[Act.put,zsE]
  refine tk 12 42 (.bool true) hHeld rfl (by kernel_rfl) (by kernel_rfl) (by kernel_rfl) (fun _ _ _ h=>h) (Or.inl ⟨by rfl,?_⟩) ?_
  ·rintro w ⟨q0,q1,q2⟩
   go_simp <;> (first | done | omega | (intro _;omega))
  try simp only[Act.put,zsE]
  refine tk 13 43 (.bool true) hHeld rfl (by kernel_rfl) (by kernel_rfl) (by kernel_rfl) (fun _ _ _ h=>h) (Or.inl ⟨by rfl,?_⟩) ?_
  ·rintro w ⟨q0,q1,q2⟩
   go_simp <;> (first | done | omega | (intro _;omega))
  try simp only[Act.put,zsE]
  refine tk 14 44 (.bool true) hHeld rfl (by kernel_rfl) (by kernel_rfl) (by kernel_rfl) (fun _ _ _ h=>h) (Or.inl ⟨by rfl,?_⟩) ?_
  ·rintro w ⟨q0,q1,q2⟩
   go_simp <;> (first | done | omega | (intro _;omega))
  try simp only[Act.put,zsE]
  refine tk 15 45 (.pointer (some ⟨b7,0,none⟩)) hHeld rfl (by kernel_rfl) (by kernel_rfl) (by kernel_rfl) (fun _ _ _ h=>h) (Or.inl ⟨by rfl,?_⟩) ?_
  ·rintro w ⟨q0,q1,q2⟩
   go_simp <;> (first | done | omega | (intro _;omega))
  try simp only[Act.put,zsE]
  refine tk 16 46 (.int .i64 g) hHeld rfl (by kernel_rfl) (by kernel_rfl) (by kernel_rfl) (fun _ _ _ h=>h) (Or.inl ⟨by rfl,?_⟩) ?_
  ·rintro w ⟨q0,q1,q2⟩
   go_simp <;> (first | done | omega | (intro _;omega))
  try simp only[Act.put,zsE]
  refine tk 17 47 (.pointer (some ⟨b5,0,none⟩)) hHeld rfl (by kernel_rfl) (by kernel_rfl) (by kernel_rfl) (fun _ _ _ h=>h) (Or.inl ⟨by rfl,?_⟩) ?_
  ·rintro w ⟨q0,q1,q2⟩
   go_simp <;> (first | done | omega | (intro _;omega))
  try simp only[Act.put,zsE]
  refine tk 18 48 (.int .i64 g) hHeld rfl (by kernel_rfl) (by kernel_rfl) (by kernel_rfl) (fun _ _ _ h=>h) (Or.inl ⟨by rfl,?_⟩) ?_
  ·rintro w ⟨q0,q1,q2⟩
   go_simp <;> (first | done | omega | (intro _;omega))
  try simp only[Act.put,zsE]
  refine tk 19 49 (.bool true) hHeld rfl (by kernel_rfl) (by kernel_rfl) (by kernel_rfl) (fun _ _ _ h=>h) (Or.inl ⟨by rfl,?_⟩) ?_
  ·rintro w ⟨q0,q1,q2⟩
   go_simp <;> (first | done | omega | (intro _;omega))
  try simp only[Act.put,zsE]
  refine tk 20 50 (.bool true) hHeld rfl (by kernel_rfl) (by kernel_rfl) (by kernel_rfl) (fun _ _ _ h=>h) (Or.inl ⟨by rfl,?_⟩) ?_
  ·rintro w ⟨q0,q1,q2⟩
   go_simp <;> (first | done | omega | (intro _;omega))
  try simp only[Act.put,zsE]
  refine tk 21 2 (.bool true) hHeld rfl (by kernel_rfl) (by kernel_rfl) (by kernel_rfl) (fun _ _ _ h=>h) (Or.inl ⟨by rfl,?_⟩) ?_
  ·rintro w ⟨q0,q1,q2⟩
   go_simp <;> (first | done | omega | (intro _;omega))
  try simp only[Act.put,zsE]
  refine wpAnyH_done (by kernel_rfl) ?_ _
  go_wp2_with fail
  go_ret
  exact ⟨rfl,aB B1.out (aB B4.out BX.out)⟩
theorem lifted (os:Os) (started:os.Started) (H:Type) (enc:TypeId × Value→H) :
  ReturnsInHanded {} Tryz.checked os 3 .any (Rows.fnCollectsSpec.pre6 enc Tryz.prog Tryz.f3 Rows.fnCollectsRow.domain false) (Rows.fnCollectsSpec.post enc Tryz.prog Tryz.f3 false true false false):=by
 refine returnsInHanded_of_change (C:=Tryz.checked) own started (by kernel_rfl) Tryz.func3
  (ChangeSpec.witness6 (enc:=enc) (C:=Tryz.checked) false ⟨#[],#[.slice none 0 0],[]⟩ 8 (by kernel_rfl) (by kernel_rfl) (by kernel_rfl) (by kernel_rfl)) ?_
 intro W base args ds gs before hval0 hW hcnd _;have hval:∀ (j:Nat) t v,Tryz.f3.params[j]?=some t→args[j]?=some v→Value.okWide Tryz.prog W .any base t v:=hval0;have hW':=hW;obtain ⟨p,q,hA0,hV,rfl,hfz,hnd⟩:=hW;have hA:DataW.TrodAll enc Tryz.prog W 0 (fun _=>true) true Tryz.f3.params.toList args.toList ds p:=hA0
 rw[Tryz.params3]at hA hval;obtain ⟨v0,vs0,d0,ds0,p0,q0,hargs,rfl,rfl,h0,r0⟩:=trodAll_cons hA;obtain ⟨rfl,rfl,rfl⟩:=trodAll_nil r0;obtain rfl:args=#[v0]:=by cases args;simp_all
 obtain ⟨rfl,rfl⟩:=trodVars_none hV;obtain ⟨a0,len0,cap0,rfl⟩:=okWide_slice Tryz.underlying22 (hval 0 22 v0 rfl rfl);have k0:=h0;have lt0:∀ x∈p0,x.block<W.heap.size:=by obtain ⟨m,hm⟩:=k0;exact DataW.trod_lt m _ _ _ hm
 obtain ⟨zs,hlen,hread,hu,hmax⟩:∃ zs:List Int,zs.length=len0∧aZ .u8 W a0 zs∧U8 zs∧zs.length≤maxLen:=by
  obtain ⟨fuel,hf⟩:=h0;rcases open_ints Tryz.underlying22 Tryz.underlying5 (by kernel_rfl) hf with ⟨hcs,_⟩ | ⟨x,l,c,zs,hcs,_,hl,hm,hz,_,hcell,hwz⟩
  ·simp[Value.cells]at hcs
   obtain ⟨rfl,rfl,rfl⟩:=hcs;exact ⟨[],rfl,fun h=>absurd rfl h,fun z hz=>by simp at hz,Nat.zero_le _⟩
  ·simp[Value.cells]at hcs
   obtain ⟨rfl,rfl,rfl⟩:=hcs;exact ze5 (by simpa using hz) hl hm hcell hwz
 subst hlen;clear hA0 hval0;refine (walk a0 cap0 zs W hread hu hmax).mono fun e W' ⟨he,bel⟩=>?_
 subst he;exact ⟨_,rfl,_,_,_,[],_,[],hW',trodAll_mk1 (shut_bool Tryz.underlying4 _),(trodAll_cons_mk (Below.trod zph (by kernel_rfl) (of_decide_eq_true (by kernel_rfl)) k0 bel lt0) trodAll_mk0),rfl,bel.frame _,fun h=>by cases h⟩
theorem over:Rows.fnCollectsRow.holds Tryz.pinned (OpenSpec.ofChange Rows.fnCollectsSpec) :=
 OpenClaim.holds_of_wide 3 Tryz.f3 rfl rfl rfl rfl rfl rfl rfl ⟨rfl,rfl,rfl,rfl,rfl⟩ rfl rfl rfl rfl rfl (by kernel_rfl) Tryz.func3 (by kernel_rfl)
  (of_decide_eq_true (by kernel_rfl)) (by unfold Func.isWrapper;first | (rw[if_pos (by decide +kernel)];kernel_rfl) | (rw[if_neg (by decide +kernel)];exact ⟨rfl,rfl⟩))
  (fun os started H enc _=>lifted os started H enc)
end Go.Proofs.YtgaeikgoknoamaaGreat.fnCollects
namespace Go.Proofs.YtgaeikgoknoamaaGreat
theorem fnCollects_holds:Rows.FnCollectsSaid:=fnCollects.over
#print axioms fnCollects_holds
end Go.Proofs.YtgaeikgoknoamaaGreat
