/-
  Texts put together: SnpB SnpD SnpE SnpF SnqB SnpG.
-/
import Derived.Test.YtgaeikgoknoamaaGreatKCollec11
import Derived.Shelf.Abstract
import Derived.Test.YtgaeikgoknoamaaGreatKCollec3
set_option linter.unusedVariables false
set_option maxHeartbeats 6400000
set_option maxRecDepth 100000
namespace Go.Proofs.YtgaeikgoknoamaaGreat
open Go.RowKit Go.Maps
attribute [local go_sem ↓] Go.wp_at_zero Go.wp_at_succ
theorem zl9 {es:List Sn} {f:Sn→Bool} {k:Nat} {e:Sn} (he:es[k]?=some e) (h:es.find? f=(es.drop k).find? f) (hf:f e=false):es.find? f=(es.drop (k+1)).find? f:=by
 rw[h,dP he,List.find?_cons,hf]
theorem zbc {es:List Sn} {f:Sn→Bool} {k:Nat} {e:Sn} (he:es[k]?=some e) (h:es.find? f=(es.drop k).find? f) (hf:f e=true):es.find? f=some e:=by
 rw[h,dP he,List.find?_cons,hf]
theorem zm9 {es:List Sn} {f:Sn→Bool} {k:Nat} (hk:es.length≤k) (h:es.find? f=(es.drop k).find? f):es.find? f=none:=by
 rw[h,List.drop_eq_nil_of_le hk];rfl
theorem oN {es:List Sn} {f:Sn→Bool} {k:Nat} {e:Sn} (he:es[k]?=some e) (h:f e=true):(es.take (k+1)).filter f=(es.take k).filter f ++ [e]:=by
 rw[bQ he,List.filter_append];simp[h]
theorem nF {es:List Sn} {f:Sn→Bool} {k:Nat} {e:Sn} (he:es[k]?=some e) (h:f e=false):(es.take (k+1)).filter f=(es.take k).filter f:=by
 rw[bQ he,List.filter_append];simp[h]
def zbi (o:Option Sn) (w:World) (r:Ending):Prop :=
 (∃ e x cc,o=some e∧r=.returned (.tuple #[.agg #[.string (str e.name),.string (str e.parent),.int .i64 e.kind,.bool e.lease,.slice x e.layer.length cc],.bool true])∧RdE w x e.layer) ∨
  (o=none∧r=.returned (.tuple #[.agg #[.string ⟨#[]⟩,.string ⟨#[]⟩,.int .i64 0,.bool false,.slice none 0 0],.bool false]))
theorem zp9 (a:Option Addr) (c n:Nat) (es:List Sn) (fn:FuncId) (cap:Array Value) (f:Sn→Bool) (w0 w:World) (hb0:Below w0.heap.size w0 w) (h:RdS w0 a es) (hn:n=es.length) (hl:es.length≤1048576) (hf:zs2 w fn cap f) :
  Calls Tryz.prog 82 #[.slice a n c,.func (.func fn) #[] cap] w fun r w'=>zbi (es.find? f) w0 r∧Below w.heap.size w w':=by
 subst hn;have eg:=hf.1;have HF:=aA hf;have HR:=aA h;have HB0:=aA hb0;have X0:=aA (kG.new w (.string ⟨#[]⟩) (.string ⟨#[]⟩) (.int .i64 0) (.bool false) (.slice none 0 0) 42);have B0:=aA (aC w (.cells #[.string ⟨#[]⟩,.string ⟨#[]⟩,.int .i64 0,.bool false,.slice none 0 0] 42));clear h hf hb0;go_enter Tryz.func82,Tryz.ntmps82;go_wp2_with fail
 generalize w.alloc (.cells #[.string ⟨#[]⟩,.string ⟨#[]⟩,.int .i64 0,.bool false,.slice none 0 0] 42)=W0 at *;go_loopw [11] (fun i wr=>∃ k:Nat,k≤es.length∧i=.int .i64 k∧Hid (es.find? f=(es.drop k).find? f)∧Hid (Below W0.heap.size W0 wr)) (fun i _=>es.length - (intOf i).toNat)
 case atStart=>exact ⟨0,Nat.zero_le _,rfl,aA (by simp),aA (Below.refl _ _)⟩
 case round =>
  obtain ⟨k,hk,rfl,HFi,HW0⟩:=hrel;have HW:=aA (aB B0.out HW0.out);have hsz:=HW.out.size;by_cases hlt:k<es.length
  ·obtain ⟨b,off,e,x,cc,rfl,hb,he,c0,c1,c2,c3,c4,hr⟩:=(HR.out.below (aB HB0.out HW.out)).at hlt
   obtain ⟨b',off',e',x',cc',hbb,hb',he',d0,d1,d2,d3,d4,hr'⟩:=HR.out.at hlt;simp only[Option.some.injEq,Addr.mk.injEq,and_true]at hbb;obtain ⟨rfl,rfl⟩:=hbb;have:e'=e:=Option.some.inj (he'.symm.trans he);subst this;have d1':=((aB HB0.out HW.out).cell (p:=⟨b,off+k * 5+4,none⟩) hb').trans d4;rw[c4]at d1';simp only[Option.some.injEq,Value.slice.injEq,true_and]at d1';obtain ⟨rfl,rfl⟩:=d1';have HX:=aA he;have HRc:=aA hr';clear he hr hr' he' d0 d1 d2 d3 d4;have BA:=aA (aC wr (.cells #[.string (str e'.name),.string (str e'.parent),.int .i64 e'.kind,.bool e'.lease,.slice x e'.layer.length cc] 42))
   have F5:=aA (fF.new wr (.string (str e'.name)) (.string (str e'.parent)) (.int .i64 e'.kind) (.bool e'.lease) (.slice x e'.layer.length cc) 42);go_wp2_with fail
   refine (HF.out.2 e' x cc _ (aB HW.out BA.out)).mono ?_;rintro r w3 ⟨rfl,hb3⟩;have BB3:=aA (aB HW0.out (aB BA.out hb3));obtain ⟨f0,f1,f2,f3,f4⟩:=F5.out.below hb3;clear hb3 c0 c1 c2 c3 c4;cases hq:f e'
   ·have HN:=aA (zl9 HX.out HFi.out hq)
    clear hq;go_wp2_with fail
    go_roundw
    case rel=>exact ⟨k+1,by omega,by go_num,HN,BB3⟩
    case measure=>simp[intOf];omega
   ·have HN:=aA (zbc HX.out HFi.out hq)
    clear hq;obtain ⟨⟨t0,t1,t2,t3,t4⟩,tf⟩:=X0.out.below BB3.out;have tf0:=tf 0;have tf1:=tf 1;have tf2:=tf 2;have tf3:=tf 3;have tf4:=tf 4;clear tf;go_wp2_with fail
    refine bodyPost_ret (v:=.tuple #[.agg #[.string (str e'.name),.string (str e'.parent),.int .i64 e'.kind,.bool e'.lease,.slice x e'.layer.length cc],.bool true]) (by simp[results,Tryz.results82,go_sem,t0,t1,t2,t3,t4]) rfl ?_
    exact ⟨.inl ⟨e',x,cc,HN.out,rfl,HRc.out⟩,Below.five (aB B0.out BB3.out) (Nat.le_refl _) _ _ _ _ _⟩
  ·have HN:=aA (zm9 (by omega) HFi.out)
   have BA:=aA (aC wr (.cells #[.string ⟨#[]⟩,.string ⟨#[]⟩,.int .i64 0,.bool false,.slice none 0 0] 42));obtain ⟨⟨t0,t1,t2,t3,t4⟩,tf⟩:=X0.out.below (aB HW0.out BA.out);have tf0:=tf 0;have tf1:=tf 1;have tf2:=tf 2;have tf3:=tf 3;have tf4:=tf 4;clear tf;go_wp2_with fail
   refine bodyPost_ret (v:=.tuple #[.agg #[.string ⟨#[]⟩,.string ⟨#[]⟩,.int .i64 0,.bool false,.slice none 0 0],.bool false]) (by simp[results,Tryz.results82,go_sem,t0,t1,t2,t3,t4]) rfl ?_
   exact ⟨.inr ⟨HN.out,rfl⟩,Below.five (aB HW.out BA.out) (Nat.le_refl _) _ _ _ _ _⟩
theorem zb0 (nm:Bs) (w:World) (h:nm.length≤1048576) :
  Calls Tryz.prog 33 #[.string (str nm)] w fun r w'=>r=.returned (.bool (fA nm))∧w'=w:=by
 have hsz:(str nm).size≤9223372036854775807:=by rw[aN];omega
 have HL:=aA (fun u=>tD (str nm) u hsz)
 rw[aV]at HL;have HN:=aA (show fA nm=(dQ nm&&decide (nm.length≤4)) from rfl)
 generalize fA nm=Z at *;generalize dQ nm=Y at *;have hss:(str nm).size=nm.length:=aN nm;by_cases h4:nm.length≤4
 ·have hb:((str nm).size:Int)≤4:=by omega
  have HZ:=aA (show Z=Y by rw[HN.out,decide_eq_true h4,Bool.and_true])
  clear h4;go_enter Tryz.func33,Tryz.ntmps33;go_wp2_with fail
  refine (HL.out _).mono ?_;rintro r w1 ⟨rfl,rfl⟩;go_wp2_with fail
  go_ret
  exact ⟨cE HZ.out.symm,rfl⟩
 ·have hb:¬ ((str nm).size:Int)≤4:=by omega
  have HZ:=aA (show Z=false by rw[HN.out,decide_eq_false h4,Bool.and_false])
  clear h4;go_enter Tryz.func33,Tryz.ntmps33;go_wp2_with fail
  go_ret
  exact ⟨cE HZ.out.symm,rfl⟩
theorem za0 (k:Int) (w:World) :
  Calls Tryz.prog 34 #[.int .i64 k] w fun r w'=>r=.returned (.bool (k==1||k==2))∧w'=w:=by
 by_cases h1:k=1
 ·subst h1
  go_enter Tryz.func34,Tryz.ntmps34;go_wp2
  go_ret
  exact ⟨rfl,rfl⟩
 ·have hb:(k==1)=false:=by simp[h1]
  rw[hb,Bool.false_or];go_enter Tryz.func34,Tryz.ntmps34;go_wp2
  go_ret
  exact ⟨rfl,rfl⟩
theorem zu8 (s:Sn) (x:Option Addr) (c:Nat) (w:World) :
  Calls Tryz.prog 84 #[.agg #[.string (str s.name),.string (str s.parent),.int .i64 s.kind,.bool s.lease,.slice x s.layer.length c]] w fun r w'=>r=.returned (.agg #[.string (str s.name),.string (str s.parent)])∧Below w.heap.size w w':=by
 go_enter Tryz.func84,Tryz.ntmps84;go_wp2_with fail
 refine bodyPost_ret (v:=.agg #[.string (str s.name),.string (str s.parent)]) (by simp[results,Tryz.results84,go_sem]) rfl ?_
 refine ⟨rfl,?_⟩;exact aB (aC w _) (aC _ _)
theorem yW (s:Sn) (x:Option Addr) (c:Nat) (w:World) :
  Calls Tryz.prog 39 #[.agg #[.string (str s.name),.string (str s.parent),.int .i64 s.kind,.bool s.lease,.slice x s.layer.length c]] w fun r w'=>r=.returned (.bool (s.name.isEmpty&&s.parent.isEmpty))∧Below w.heap.size w w':=by
 have HC:=aA (fun u=>zu8 s x c u)
 go_enter Tryz.func39,Tryz.ntmps39;go_wp2_with fail
 refine (HC.out _).mono ?_;rintro r w1 ⟨rfl,hb1⟩;have B1:=aA (aB (aC w (.cells #[.string (str s.name),.string (str s.parent),.int .i64 s.kind,.bool s.lease,.slice x s.layer.length c] 42)) hb1);clear hb1;go_wp2_with fail
 all_goals
  go_ret
  refine ⟨cE ?_,B1.out⟩;clear B1 HC;simp_all [aM]
def lJ:Sn:=⟨[],[],0,false,[]⟩
def zri (o:Option Sn) (w:World) (r:Ending):Prop :=
 ∃ e x cc,e=o.getD lJ∧r=.returned (.agg #[.string (str e.name),.string (str e.parent),.int .i64 e.kind,.bool e.lease,.slice x e.layer.length cc])∧RdE w x e.layer
theorem zr2 (p:Bs) (b:Nat) (s:Sn) (a:Option Addr) (c:Nat) (w:World) (h:w.cell? ⟨b,0,none⟩=some (.string (str p))) :
  Calls Tryz.prog 83 #[.agg #[.string (str s.name),.string (str s.parent),.int .i64 s.kind,.bool s.lease,.slice a s.layer.length c],.pointer (some ⟨b,0,none⟩)] w fun r w'=>r=.returned (.bool (s.name==p))∧Below w.heap.size w w':=by
 have hb:=World.block_lt_of_cell? w ⟨b,0,none⟩ h;have hs:=vT s.name p;have HZ:=aA (show (s.name==p)=decide (s.name=p) by by_cases h:s.name=p <;> simp[h])
 rw[HZ.out];clear HZ;generalize decide (s.name=p)=Z at *;have hbw:(w.alloc (.cells #[.string (str s.name),.string (str s.parent),.int .i64 s.kind,.bool s.lease,.slice a s.layer.length c] 42)).cell? ⟨b,0,none⟩=some (.string (str p)):=((aC w _).cell (p:=⟨b,0,none⟩) hb).trans h;go_enter Tryz.func83,Tryz.ntmps83;go_wp2_with fail
 go_ret
 exact ⟨rfl,aC _ _⟩
theorem sY (a:Option Addr) (c n:Nat) (l:List Sn) (nm:Bs) (w0 w:World) (hb0:Below w0.heap.size w0 w) (h:RdS w0 a l) (hn:n=l.length) (hl:l.length≤1048576) :
  Calls Tryz.prog 38 #[.slice a n c,.string (str nm)] w fun r w'=>zri (atS l nm) w0 r∧Below w.heap.size w w':=by
 have hmf:∀ (fn:Fn) (first cap:Array Value) (w:World),(Instr.makeFunc fn first cap).run Tryz.prog w=.ok (.func fn first cap) w:=fun _ _ _ _=>rfl
 subst hn;have B0:=aA (aC w (.cells #[.string (str nm)] 9));have B1:=aA (aB B0.out (aC _ (.cells #[.string ⟨#[]⟩,.string ⟨#[]⟩,.int .i64 0,.bool false,.slice none 0 0] 42)));have HA:Hid (zs2 ((w.alloc (.cells #[.string (str nm)] 9)).alloc (.cells #[.string ⟨#[]⟩,.string ⟨#[]⟩,.int .i64 0,.bool false,.slice none 0 0] 42)) 83 #[.pointer (some ⟨w.heap.size,0,none⟩)] (fun s=>s.name==nm)):=aA ⟨enters_of Tryz.func83 (by kernel_rfl) rfl,fun s a c w' hb =>
  zr2 nm w.heap.size s a c w' ((hb.cell (p:=⟨w.heap.size,0,none⟩) (by simp;omega)).trans ((aC _ _).cell (p:=⟨w.heap.size,0,none⟩) (by simp) |>.trans (by simp)))⟩
 have X0:=aA (kG.new (w.alloc (.cells #[.string (str nm)] 9)) (.string ⟨#[]⟩) (.string ⟨#[]⟩) (.int .i64 0) (.bool false) (.slice none 0 0) 42);have HC:=aA (zp9 a c l.length l _ _ (fun s=>s.name==nm) w0 _ (aB hb0 B1.out) h rfl hl HA.out)
 have HATS:=aA (show atS l nm=l.find? (fun s=>s.name==nm) from rfl)
 clear h HA hb0 B0;go_enter Tryz.func38,Tryz.ntmps38;go_wp2_with fail
 simp only[World.size_alloc]at X0;generalize (w.alloc (.cells #[.string (str nm)] 9)).alloc (.cells #[.string ⟨#[]⟩,.string ⟨#[]⟩,.int .i64 0,.bool false,.slice none 0 0] 42)=W0 at *;refine HC.out.mono ?_;rintro r w1 ⟨hf,hb1⟩;have HF:∃ e x cc b,e=(atS l nm).getD lJ∧r=.returned (.tuple #[.agg #[.string (str e.name),.string (str e.parent),.int .i64 e.kind,.bool e.lease,.slice x e.layer.length cc],.bool b])∧RdE w0 x e.layer:=by
  rcases hf with ⟨e,x,cc,hq,hr,hx⟩ | ⟨hq,hr⟩
  ·exact ⟨e,x,cc,true,by rw[HATS.out,hq];rfl,hr,hx⟩
  ·exact ⟨lJ,none,0,false,by rw[HATS.out,hq];rfl,hr,fun hz=>absurd rfl hz⟩
 obtain ⟨e,x,cc,b,he,rfl,hx⟩:=HF;have HE:=aA he;have HX:=aA hx;have BA:=aA (aB hb1 (aC w1 (.cells #[.string (str e.name),.string (str e.parent),.int .i64 e.kind,.bool e.lease,.slice x e.layer.length cc] 42)));obtain ⟨⟨t0,t1,t2,t3,t4⟩,tf⟩:=X0.out.below BA.out;have tf0:=tf 0;have tf1:=tf 1;have tf2:=tf 2;have tf3:=tf 3;have tf4:=tf 4;clear hf he hx tf hb1;go_wp2_with fail
 refine bodyPost_ret (v:=.agg #[.string (str e.name),.string (str e.parent),.int .i64 e.kind,.bool e.lease,.slice x e.layer.length cc]) (by simp[results,Tryz.results38,go_sem,t0,t1,t2,t3,t4]) rfl ?_
 exact ⟨⟨e,x,cc,HE.out,rfl,HX.out⟩,Below.five (aB B1.out BA.out) (by omega) _ _ _ _ _⟩
theorem uC (s:Sn) (x:Option Addr) (c:Nat) (w:World) (h:s.name≠[]) :
  Calls Tryz.prog 39 #[.agg #[.string (str s.name),.string (str s.parent),.int .i64 s.kind,.bool s.lease,.slice x s.layer.length c]] w fun r w'=>r=.returned (.bool false)∧Below w.heap.size w w':=by
 have e:(s.name.isEmpty&&s.parent.isEmpty)=false:=by cases hs:s.name with | nil=>exact absurd hs h | cons a b=>rfl
 have:=yW s x c w;rwa [e]at this
theorem yX (x:Option Addr) (c:Nat) (w:World) :
  Calls Tryz.prog 39 #[.agg #[.string (str lJ.name),.string (str lJ.parent),.int .i64 lJ.kind,.bool lJ.lease,.slice x lJ.layer.length c]] w fun r w'=>r=.returned (.bool true)∧Below w.heap.size w w':=yW lJ x c w
def zzc:Value→Nat
 | .slice _ n _=>n
 | _=>0
theorem zc1 {l:List Sn} {k:Nat} {e:Sn} (hk:k≤4):aI l (5 - k) (some e)=e :: aI l (5 - (k+1)) (atS l e.parent):=by
 have:5 - k=(5 - (k+1))+1:=by omega
 rw[this];rfl
theorem zD (a:Option Addr) (c n:Nat) (l:List Sn) (s:Sn) (x:Option Addr) (cc:Nat) (w0 w:World) (hb0:Below w0.heap.size w0 w) (h:RdS w0 a l) (hx:RdE w0 x s.layer) (hn:n=l.length) (hl:l.length≤1048576) (hne:∀ y∈l,y.name≠[]) (hs:s.name≠[]) :
  Calls Tryz.prog 41 #[.slice a n c,.agg #[.string (str s.name),.string (str s.parent),.int .i64 s.kind,.bool s.lease,.slice x s.layer.length cc]] w fun r w'=>∃ av cv,r=.returned (.slice av (aI l 5 (some s)).length cv)∧LN w.heap.size w0 w' (.slice av (aI l 5 (some s)).length cv) (aI l 5 (some s))∧Below w.heap.size w w':=by
 subst hn;obtain ⟨i1,ki,kz0,kz1,kz2⟩:=info_parts Tryz.infoSn;obtain ⟨L,hL⟩:∃ L,L=aI l 5 (some s):=⟨_,rfl⟩;rw[←hL];have HL:=aA hL;have HR:=aA h;have HB0:=aA hb0;have HNE:=aA hne;have X0:=aA (kG.new w (.string (str s.name)) (.string (str s.parent)) (.int .i64 s.kind) (.bool s.lease) (.slice x s.layer.length cc) 42);have B0:=aA (aC w (.cells #[.string (str s.name),.string (str s.parent),.int .i64 s.kind,.bool s.lease,.slice x s.layer.length cc] 42));have HX:=aA hx;have HS:=aA hs;clear h hb0 hne hL hx hs;go_enter Tryz.func41,Tryz.ntmps41;go_wp2_with fail
 have hs1:w.heap.size<(w.alloc (.cells #[.string (str s.name),.string (str s.parent),.int .i64 s.kind,.bool s.lease,.slice x s.layer.length cc] 42)).heap.size:=by simp
 generalize w.alloc (.cells #[.string (str s.name),.string (str s.parent),.int .i64 s.kind,.bool s.lease,.slice x s.layer.length cc] 42)=W0 at *;go_loopw [5] (fun v wr=>∃ (pre:List Sn) (o:Option Sn) (e:Sn) (x':Option Addr) (c':Nat),pre.length≤5∧w.heap.size<wr.heap.size∧Hid (e=o.getD lJ)∧Hid (∀ y,o=some y→y.name≠[])∧Hid (L=pre++aI l (5 - pre.length) o)∧Hid (LN (w.heap.size+1) w0 wr v pre)∧Hid (kG wr w.heap.size (.string (str e.name)) (.string (str e.parent)) (.int .i64 e.kind) (.bool e.lease) (.slice x' e.layer.length c'))∧Hid (RdE w0 x' e.layer)∧Hid (Below w.heap.size w wr)) (fun v _=>6 - zzc v)
 case atStart=>exact ⟨[],some s,s,x,cc,by simp,hs1,aA rfl,aA (fun y hy=>by cases hy;exact HS.out),aA (by rw[HL.out];rfl),aA (LN.nil _ _ _),X0,HX,B0⟩
 case round =>
  obtain ⟨pre,o,e,x',c',hp5,hsw,HE,HO,HLL,HLN,HBX,HRX,HW⟩:=hrel;have hsz:=HW.out.size;have hszb:=HB0.out.size;obtain ⟨lv,lc,hv⟩:=HLN.out.shape;subst hv;obtain ⟨⟨t0,t1,t2,t3,t4⟩,tf⟩:=HBX.out;cases o with
  | none =>
   have he:e=lJ:=HE.out;subst he;have HT:=aA (show L=pre by rw[HLL.out,iC,List.append_nil])
   go_wp2_with fail
   refine (yX _ _ _).mono ?_;rintro r w1 ⟨rfl,hb1⟩;have B1:=aA (aB HW.out hb1);have L1:=aA (HLN.out.below hb1);clear hb1 t0 t1 t2 t3 t4 tf;go_wp2_with fail
   go_ret
   rw[HT.out];exact ⟨lv,lc,rfl,L1.out.mono (by omega),B1.out⟩
  | some y =>
   have he:e=y:=HE.out;subst he;have HNM:=aA (HO.out e rfl);go_wp2_with fail
   refine (uC e _ _ _ HNM.out).mono ?_;rintro r w1 ⟨rfl,hb1⟩;have B1:=aA (aB HW.out hb1);have L1:=aA (HLN.out.below hb1);have X1:=aA (HBX.out.below hb1);have hs1:=hb1.size;clear hb1 t0 t1 t2 t3 t4 tf HBX HLN;by_cases h4:pre.length≤4
   ·have h4':(pre.length:Int)≤4:=by omega
    have hm1:pre.length+1≤maxLen:=by unfold maxLen;omega
    have hm1':(pre.length+1) * 72≤140737488355328:=by omega
    have HLN2:=aA (show L=(pre ++ [e])++aI l (5 - (pre ++ [e]).length) (atS l e.parent) by
     rw[HLL.out,zc1 h4,List.append_assoc,List.length_append];rfl)
    obtain ⟨rs,g1,g2,g3⟩:=L1.out;have G1:=aA g1;have G2:=aA g2;have G3:=aA g3;clear g1 g2 g3;obtain ⟨⟨t0,t1,t2,t3,t4⟩,tf⟩:=X1.out;go_wp2_with (at_builtin;refine dJ rfl (.tmp 14) (.tmp 16) 24 rfl (w.heap.size+1) 42 i1 (.agg #[.string ⟨#[]⟩,.string ⟨#[]⟩,.int .i64 0,.bool false,.slice none 0 0]) 5 72 Tryz.underlying24 ki kz0 kz1 kz2 rfl (by decide) _ _ _ rfl G2.out _ rfl rfl rfl (by intro u hu;simp at hu;rcases hu with rfl | rfl | rfl | rfl | rfl <;> rfl) hm1 hm1' (by omega) ?_;intro av6 cv6 w6 hown6 hk6;have O6:=aA hown6;have K6:=aA hk6;clear hown6 hk6;obtain ⟨⟨q0,q1,q2,q3,q4⟩,qf⟩:=(show kG w6 w.heap.size (.string (str e.name)) (.string (str e.parent)) (.int .i64 e.kind) (.bool e.lease) (.slice x' e.layer.length c') from ⟨X1.out.1.kept K6.out (fun hS=>by have:=(G2.out.lt _ hS).1;omega),fun i=>(K6.out.frozen (p:=⟨w.heap.size,i,none⟩) X1.out.1.lt (fun hS=>by have h9:w.heap.size+1≤w.heap.size:=(G2.out.lt _ hS).1;omega)).trans (X1.out.2 i)⟩))
    have BW6:Hid (Below w.heap.size w w6):=aA (B1.out.trans (K6.out.below (B:=w.heap.size) (by omega) (fun q hq hS=>by have:=(G2.out.lt q hS).1;omega)))
    have X6:Hid (kG w6 w.heap.size (.string (str e.name)) (.string (str e.parent)) (.int .i64 e.kind) (.bool e.lease) (.slice x' e.layer.length c')):=aA ⟨⟨q0,q1,q2,q3,q4⟩,qf⟩;have hs6:=K6.out.size;refine (sY a c l.length l e.parent w0 w6 (HB0.out.trans ((BW6.out).mono (by omega))) HR.out rfl hl).mono ?_
    rintro r w7 ⟨⟨y,x7,c7,hy,rfl,hx7⟩,hb7⟩;have HY:=aA hy;have HX7:=aA hx7;have X7:=aA (X6.out.below hb7);obtain ⟨⟨p0,p1,p2,p3,p4⟩,pf⟩:=X7.out;have pf0:=pf 0;have pf1:=pf 1;have pf2:=pf 2;have pf3:=pf 3;have pf4:=pf 4;have O7:=aA (aJ O6.out hb7);have B7:=aA (aB BW6.out hb7);have hs7:=hb7.size;have HN7:=aA (show ∀ z,atS l e.parent=some z→z.name≠[] from fun z hz=>HNE.out z (bU hz).1)
    clear hb7 hy hx7 pf q0 q1 q2 q3 q4 qf;go_wp2_with fail
    go_roundw
    case rel =>
     refine ⟨pre ++ [e],atS l e.parent,y,x7,c7,by simp;omega,by simp[World.setCell];omega,HY,HN7,HLN2,aA ?_,aA ?_,HX7,aA (Below.five B7.out (Nat.le_refl _) _ _ _ _ _)⟩
     ·refine LN.push (s:=e) (a:=x') (c:=c') G1.out rfl G3.out HRX.out ?_
      exact aK O7.out (aE.five w7 w.heap.size _ _ _ _ _) (fun b hb e=>by have:=(O7.out.lt b hb).1;omega)
     ·exact X7.out.set _ _ _ _ _
    case measure=>simp[zzc];omega
   ·have hp:pre.length=5:=by omega
    have h4':¬ (pre.length:Int)≤4:=by omega
    have HT:=aA (show L=pre by rw[HLL.out,hp];simp[aI])
    clear hp h4;go_wp2_with fail
    go_ret
    rw[HT.out];exact ⟨lv,lc,rfl,L1.out.mono (by omega),B1.out⟩
theorem zj0 (a:Option Addr) (c n:Nat) (l:List Sn) (s:Sn) (x:Option Addr) (cc:Nat) (w:World) (h:RdS w a l) (hx:RdE w x s.layer) (hn:n=l.length) (hl:l.length≤1048576) (hne:∀ y∈l,y.name≠[]) (hs:s.name≠[]) :
  Calls Tryz.prog 36 #[.slice a n c,.agg #[.string (str s.name),.string (str s.parent),.int .i64 s.kind,.bool s.lease,.slice x s.layer.length cc]] w fun r w'=>r=.returned (.int .i64 (dZ l s))∧Below w.heap.size w w':=by
 subst hn;have HR:=aA h;have HX:=aA hx;have HNE:=aA hne;have HS:=aA hs;have hse:=vT s.parent [];have F5:=aA (fF.new w (.string (str s.name)) (.string (str s.parent)) (.int .i64 s.kind) (.bool s.lease) (.slice x s.layer.length cc) 42);have B0:=aA (aC w (.cells #[.string (str s.name),.string (str s.parent),.int .i64 s.kind,.bool s.lease,.slice x s.layer.length cc] 42));have hstr:str []=⟨#[]⟩:=rfl;rw[hstr]at hse;clear h hx hne hs hstr;by_cases hp:s.parent=[]
 ·have HD:=aA (show dZ l s=0 by unfold dZ;rw[if_pos hp])
  have hpe:(str s.parent).toList.isEmpty=true:=by rw[hp,aM];rfl
  clear hp hse;go_enter Tryz.func36,Tryz.ntmps36;go_wp2_with fail
  go_ret
  exact ⟨aO HD.out.symm,B0.out⟩
 ·have hpe:(str s.parent).toList.isEmpty=false:=by
   rw[aM];cases hq:s.parent with | nil=>exact absurd hq hp | cons _ _=>rfl
  have HP:=aA hp;clear hp hse;go_enter Tryz.func36,Tryz.ntmps36;go_wp2_with fail
  generalize hW0:w.alloc (.cells #[.string (str s.name),.string (str s.parent),.int .i64 s.kind,.bool s.lease,.slice x s.layer.length cc] 42)=W0 at *;clear hW0;refine (sY a c l.length l s.parent w W0 B0.out HR.out rfl hl).mono ?_;rintro r w1 ⟨⟨e,x1,c1,he,rfl,hx1⟩,hb1⟩;have HE:=aA he;have B1:=aA (aB B0.out hb1);have F51:=aA (F5.out.below (aB hb1 (aC w1 (.cells #[.string (str e.name),.string (str e.parent),.int .i64 e.kind,.bool e.lease,.slice x1 e.layer.length c1] 42))));have FE:=aA (fF.new w1 (.string (str e.name)) (.string (str e.parent)) (.int .i64 e.kind) (.bool e.lease) (.slice x1 e.layer.length c1) 42)
  have B2:=aA (aB B1.out (aC w1 (.cells #[.string (str e.name),.string (str e.parent),.int .i64 e.kind,.bool e.lease,.slice x1 e.layer.length c1] 42)));clear hb1 he hx1;cases ho:atS l s.parent with
  | none =>
   have he:e=lJ:=by have:=HE.out;rw[ho]at this;exact this
   have HD:=aA (show dZ l s=4 by unfold dZ;rw[if_neg HP.out,ho])
   subst he;clear ho;go_wp2_with fail
   refine (yX _ _ _).mono ?_;rintro r w2 ⟨rfl,hb2⟩;have B3:=aA (aB B2.out hb2);clear hb2;go_wp2_with fail
   go_ret
   exact ⟨aO HD.out.symm,B3.out⟩
  | some y =>
   have he:e=y:=by have:=HE.out;rw[ho]at this;exact this
   subst he;have HNM:=aA (HNE.out e (bU ho).1);have HD:=aA (show dZ l s=if e.kind=1 then 10 else if 4<(aI l 5 (some s)).length then 2 else 0 by unfold dZ;rw[if_neg HP.out,ho])
   clear ho;go_wp2_with fail
   generalize hW2:w1.alloc (.cells #[.string (str e.name),.string (str e.parent),.int .i64 e.kind,.bool e.lease,.slice x1 e.layer.length c1] 42)=W2 at *;clear hW2;refine (uC e _ _ _ HNM.out).mono ?_;rintro r w3 ⟨rfl,hb3⟩;have B3:=aA (aB B2.out hb3);obtain ⟨g0,g1,g2,g3,g4⟩:=FE.out.below hb3;obtain ⟨f0,f1,f2,f3,f4⟩:=F51.out.below hb3;clear hb3;by_cases hk:e.kind=1
   ·have hkb:(e.kind==1)=true:=by simp[hk]
    have HD2:=aA (show dZ l s=10 by rw[HD.out,if_pos hk])
    clear hk;go_wp2_with fail
    go_ret
    exact ⟨aO HD2.out.symm,B3.out⟩
   ·have hkb:(e.kind==1)=false:=by simp[hk]
    have HD2:=aA (show dZ l s=if 4<(aI l 5 (some s)).length then 2 else 0 by rw[HD.out,if_neg hk])
    clear hk;go_wp2_with fail
    refine (zD a c l.length l s x cc w w3 B3.out HR.out HX.out rfl hl HNE.out HS.out).mono ?_;rintro r w4 ⟨av,cv,rfl,-,hb4⟩;have B4:=aA (aB B3.out hb4);have hL5:=nY l 5 (some s);generalize (aI l 5 (some s)).length=M at *;clear hb4;by_cases hm:4<M
    ·have hm':(4:Int)<(M:Int):=by omega
     have HD3:=aA (show dZ l s=2 by rw[HD2.out,if_pos hm])
     clear hm;go_wp2_with fail
     go_ret
     exact ⟨aO HD3.out.symm,B4.out⟩
    ·have hm':¬ (4:Int)<(M:Int):=by omega
     have HD3:=aA (show dZ l s=0 by rw[HD2.out,if_neg hm])
     clear hm;go_wp2_with fail
     go_ret
     exact ⟨aO HD3.out.symm,B4.out⟩
def dV (l:List Sn):Nat→Option Sn
 | 0=>none
 | j+1=>l[j]?
theorem yS {l:List Sn} {k:Nat} {s:Sn} {F:Int} (h:F=fU (dV l k) (l.drop k)) (hs:l[k]?=some s) (h0:lB (dV l k) s=0):F=fU (dV l (k+1)) (l.drop (k+1)):=by
 rw[h,dP hs,fU,if_pos h0];show fU (some s) _=fU l[k]? _
 rw[hs]
theorem nW {l:List Sn} {k:Nat} {s:Sn} {F:Int} (h:F=fU (dV l k) (l.drop k)) (hs:l[k]?=some s) (h0:lB (dV l k) s≠0):F=lB (dV l k) s:=by
 rw[h,dP hs,fU,if_neg h0]
theorem zmc {l:List Sn} {k:Nat} {F:Int} (h:F=fU (dV l k) (l.drop k)) (hk:l.length≤k):F=0:=by
 rw[h,List.drop_eq_nil_of_le hk,fU]
theorem zn5 {l r:List Sn} {k:Nat} {s:Sn} {F:Int} (h:F=fH l (r.drop k)) (hs:r[k]?=some s) (h0:dZ l s=0):F=fH l (r.drop (k+1)):=by
 rw[h,dP hs,fH,if_pos h0]
theorem zp7 {l r:List Sn} {k:Nat} {s:Sn} {F:Int} (h:F=fH l (r.drop k)) (hs:r[k]?=some s) (h0:dZ l s≠0):F=dZ l s:=by
 rw[h,dP hs,fH,if_neg h0]
theorem zq7 {l r:List Sn} {k:Nat} {F:Int} (h:F=fH l (r.drop k)) (hk:r.length≤k):F=0:=by
 rw[h,List.drop_eq_nil_of_le hk,fH]
theorem qT (nm:Bs) (w:World) (h:nm.length≤1048576) :
  Calls Tryz.prog 110 #[.string (str nm)] w fun r w'=>r=.returned (.bool (fA nm))∧w'=w:=by
 have hsz:(str nm).size≤9223372036854775807:=by rw[aN];omega
 have HL:=aA (fun u=>qV (str nm) u hsz)
 rw[aV]at HL;have HN:=aA (show fA nm=(dQ nm&&decide (nm.length≤4)) from rfl)
 generalize fA nm=Z at *;have hss:(str nm).size=nm.length:=aN nm;cases hp:dQ nm
 ·rw[hp]at HL
  have HZ:=aA (show Z=false by rw[HN.out,hp,Bool.false_and])
  go_enter Tryz.func110,Tryz.ntmps110;go_wp2_with fail
  refine (HL.out _).mono ?_;rintro r w1 ⟨rfl,rfl⟩;go_wp2_with fail
  go_ret
  exact ⟨cE HZ.out.symm,rfl⟩
 ·rw[hp]at HL
  have HZ:=aA (show Z=decide (nm.length≤4) by rw[HN.out,hp,Bool.true_and])
  clear hp;by_cases h4:nm.length≤4
  ·have hb:((str nm).size:Int)≤4:=by omega
   have HZ2:=aA (show Z=true by rw[HZ.out,decide_eq_true h4])
   clear h4;go_enter Tryz.func110,Tryz.ntmps110;go_wp2_with fail
   refine (HL.out _).mono ?_;rintro r w1 ⟨rfl,rfl⟩;go_wp2_with fail
   go_ret
   exact ⟨cE (by rw[HZ2.out];simp;omega),rfl⟩
  ·have hb:¬ ((str nm).size:Int)≤4:=by omega
   have HZ2:=aA (show Z=false by rw[HZ.out,decide_eq_false h4])
   clear h4;go_enter Tryz.func110,Tryz.ntmps110;go_wp2_with fail
   refine (HL.out _).mono ?_;rintro r w1 ⟨rfl,rfl⟩;go_wp2_with fail
   go_ret
   exact ⟨cE (by rw[HZ2.out];simp;omega),rfl⟩
def plS (l:List Sn) (nm:Bs):Option Nat:=l.findIdx? fun s=>s.name==nm
theorem zvh {l:List Sn} {nm:Bs} {k:Nat} {s:Sn} (hs:l[k]?=some s) (h:plS l nm=(plS (l.drop k) nm).map (· + k)) (hn:s.name=nm):plS l nm=some k:=by
 rw[h,dP hs,plS,List.findIdx?_cons];simp[hn]
theorem zcg {l:List Sn} {nm:Bs} {k:Nat} {s:Sn} (hs:l[k]?=some s) (h:plS l nm=(plS (l.drop k) nm).map (· + k)) (hn:s.name≠nm):plS l nm=(plS (l.drop (k+1)) nm).map (· + (k+1)):=by
 rw[h,dP hs];unfold plS;rw[List.findIdx?_cons];have:(s.name==nm)=false:=by simpa using hn
 rw[this];simp only[Bool.false_eq_true,if_false,Option.map_map]
 congr 1
 funext x
 simp only[Function.comp];omega
theorem zuh {l:List Sn} {nm:Bs} {k:Nat} (hk:l.length≤k) (h:plS l nm=(plS (l.drop k) nm).map (· + k)):plS l nm=none:=by
 rw[h,List.drop_eq_nil_of_le hk];rfl
theorem gW {l:List Sn} {nm:Bs} {k:Nat} (h:plS l nm=some k):∃ s,l[k]?=some s∧atS l nm=some s:=by
 unfold plS at h;obtain ⟨hk,h1,h2⟩:=List.findIdx?_eq_some_iff_getElem.1 h;refine ⟨l[k],List.getElem?_eq_getElem hk,?_⟩
 unfold atS;rw[List.find?_eq_some_iff_getElem];exact ⟨h1,k,hk,rfl,fun j hj=>by have:=h2 j hj;simpa using this⟩
theorem fZ {l:List Sn} {nm:Bs} (h:plS l nm=none):atS l nm=none:=by
 unfold plS at h;rw[List.findIdx?_eq_none_iff]at h;exact iY.2 fun s hs e=>by have:=h s hs;simp[e]at this
theorem fT (a:Option Addr) (c n:Nat) (l:List Sn) (nm:Bs) (w:World) (h:RdS w a l) (hn:n=l.length) (hl:l.length≤1048576) :
  Calls Tryz.prog 113 #[.slice a n c,.string (str nm)] w fun r w'=>r=.returned (.int .i64 (cD (plS l nm)))∧w'=w:=by
 subst hn;have HR:=aA h;clear h;go_enter Tryz.func113,Tryz.ntmps113;go_wp2_with fail
 go_loop [5] (fun i=>∃ k:Nat,k≤l.length∧i=.int .i64 k∧Hid (plS l nm=(plS (l.drop k) nm).map (· + k))) (fun i=>l.length - (intOf i).toNat)
 case atStart=>exact ⟨0,Nat.zero_le _,rfl,aA (by simp)⟩
 case round =>
  obtain ⟨k,hk,rfl,HA⟩:=hrel;by_cases hlt:k<l.length
  ·obtain ⟨b,off,e,x,cc,rfl,hb,he,c0,c1,c2,c3,c4,hr⟩:=HR.out.at hlt
   have HX:=aA he;clear he hr;by_cases hp:e.name=nm
   ·have HE:=aA (zvh HX.out HA.out hp)
    have hs:=iD hp;clear hp;go_wp2_with fail
    go_ret
    exact ⟨aO (by rw[HE.out];rfl),rfl⟩
   ·have HE:=aA (zcg HX.out HA.out hp)
    have hs:=jK hp;clear hp;go_wp2_with fail
    go_round
    case rel=>exact ⟨k+1,by omega,by go_num,HE⟩
    case measure=>simp[intOf];omega
  ·have HE:=aA (zuh (by omega) HA.out)
   go_wp2_with fail
   go_ret
   exact ⟨aO (by rw[HE.out];rfl),rfl⟩
def nmS (l:List Sn) (nm:Bs):Option Sn:=if nm=[] then none else atS l nm
theorem ztb {l:List Sn} {nm:Bs} {k:Nat} {s:Sn} (h:k≤4) (hs:nmS l nm=some s):(aI l (5 - k) (nmS l nm)).length=1+(aI l (5 - (k+1)) (atS l s.parent)).length:=by
 rw[hs,zc1 h];simp;omega
theorem nG (a:Option Addr) (c n:Nat) (l:List Sn) (nm:Bs) (w:World) (h:RdS w a l) (hn:n=l.length) (hl:l.length≤1048576) (hne:∀ y∈l,y.name≠[]) :
  Calls Tryz.prog 114 #[.slice a n c,.string (str nm)] w fun r w'=>r=.returned (.int .i64 (eN l nm))∧w'=w:=by
 subst hn;have HR:=aA h;have HNE:=aA hne;obtain ⟨D,hD⟩:∃ D:Nat,D=eN l nm:=⟨_,rfl⟩;rw[←hD];have HD:=aA (show D=0+(aI l (5 - 0) (nmS l nm)).length by rw[hD];simp[eN,nmS])
 clear h hne hD;go_enter Tryz.func114,Tryz.ntmps114;go_wp2_with fail
 go_loop [5,1] (fun i q=>∃ (k:Nat) (m:Bs),k≤5∧i=.int .i64 k∧q=.string (str m)∧Hid (D=k+(aI l (5 - k) (nmS l m)).length)) (fun i _=>5 - (intOf i).toNat)
 case atStart=>exact ⟨0,nm,by decide,rfl,rfl,HD⟩
 case round =>
  obtain ⟨k,m,hk,rfl,rfl,HK⟩:=hrel;by_cases h5:k<5
  ·have h5':(k:Int)<5:=by omega
   by_cases hm:m=[]
   ·subst hm
    have hme:(str []).toList.isEmpty=true:=by rw[aM];rfl
    have HO:=aA (show D=k by rw[HK.out];simp[nmS,iC])
    go_wp2_with fail
    go_ret
    exact ⟨aO (by rw[HO.out]),rfl⟩
   ·have hme:(str m).toList.isEmpty=false:=by
     rw[aM];cases hq:m with | nil=>exact absurd hq hm | cons _ _=>rfl
    have HM:=aA hm;clear hm;go_wp2_with fail
    refine (fT a c l.length l m _ HR.out rfl hl).mono ?_;rintro r w1 ⟨rfl,rfl⟩;cases hp:plS l m with
    | none =>
     have HO:=aA (show D=k by rw[HK.out,nmS,if_neg HM.out,fZ hp,iC];rfl)
     clear hp;simp only[cD];go_wp2_with fail
     go_ret
     exact ⟨aO (by rw[HO.out]),rfl⟩
    | some j =>
     obtain ⟨s,hs,hat⟩:=gW hp;have hjl:=(List.getElem?_eq_some_iff.1 hs).1;obtain ⟨b,off,e,x,cc,rfl,hb,he,c0,c1,c2,c3,c4,hr⟩:=HR.out.at hjl;have hes:e=s:=by rw[hs]at he;exact (Option.some.inj he).symm
     subst hes;have HO:=aA (show D=(k+1)+(aI l (5 - (k+1)) (nmS l e.parent)).length by
      rw[HK.out,ztb (by omega) (show nmS l m=some e by rw[nmS,if_neg HM.out,hat])]
      have:nmS l e.parent=atS l e.parent:=by
       unfold nmS;by_cases h0:e.parent=[]
       ·rw[if_pos h0,h0];exact (iY.2 fun y hy=>HNE.out y hy).symm
       ·rw[if_neg h0]
      rw[this];omega)
     have hj0:¬ (j:Int)<0:=by omega
     have hj1:(j:Int)<(l.length:Int):=by omega
     clear hp hs hat he hr;simp only[cD];go_wp2_with fail
     go_round
     case rel=>exact ⟨k+1,e.parent,by omega,by go_num,rfl,HO⟩
     case measure=>simp[intOf];omega
  ·have hk5:k=5:=by omega
   have h5':¬ (k:Int)<5:=by omega
   have HO:=aA (show D=k by rw[HK.out,hk5];simp[aI])
   clear hk5 h5;go_wp2_with fail
   go_ret
   exact ⟨aO (by rw[HO.out]),rfl⟩
theorem zl1 {p:Option Sn} {s:Sn} (h:fA s.name=false):lB p s=5:=by unfold lB;rw[h];rfl
theorem zk1 {p:Option Sn} {s:Sn} (h:fA s.name=true) (h2:((s.kind==1||s.kind==2)&&!lwQ p s)=false):lB p s=1:=by unfold lB;rw[h,h2];rfl
theorem zu4 {p:Option Sn} {s:Sn} (h:fA s.name=true) (hk:(s.kind==1||s.kind==2)=true) (hl:lwQ p s=false):lB p s=aQ s.layer:=by unfold lB;rw[h,hk,hl];rfl
theorem iQ (a:Option Addr) (c n:Nat) (l:List Sn) (w:World) (h:RdS w a l) (hn:n=l.length) (hl:l.length≤1048576) (hs:bW l) :
  Calls Tryz.prog 11 #[.slice a n c] w fun r w'=>r=.returned (.int .i64 (snF l))∧Below w.heap.size w w':=by
 subst hn;obtain ⟨F,hF⟩:∃ F:Int,F=snF l:=⟨_,rfl⟩;rw[←hF];by_cases hm:10<l.length
 ·have HE:=aA (show F=2 by rw[hF];unfold snF;rw[if_pos hm])
  have hm':(10:Int)<(l.length:Int):=by omega
  clear hF hm h hs;go_enter Tryz.func11,Tryz.ntmps11;go_wp2_with fail
  go_ret
  exact ⟨aO HE.out.symm,Below.refl _ _⟩
 obtain ⟨H,hH⟩:∃ H:Int,H=fU none l:=⟨_,rfl⟩;have HF:=aA (show F=if H=0 then fH l l else H by rw[hF,hH];unfold snF;rw[if_neg hm])
 have HH:=aA (show H=fU (dV l 0) (l.drop 0) by rw[hH];rfl)
 have HNM:=aA (show H=0→∀ s∈l,s.name≠[] from fun h0 s hs=>fY ((mH.1 (hH ▸ h0)).1 s hs).1)
 have HR:=aA h;have HS:=aA hs;have hm':¬ (10:Int)<(l.length:Int):=by omega
 clear hF hH hm h hs;go_enter Tryz.func11,Tryz.ntmps11;go_wp2_with fail
 go_loopw [14] (fun i wr=>∃ k:Nat,k≤l.length∧i=.int .i64 k∧Hid (H=fU (dV l k) (l.drop k))∧Hid (Below w.heap.size w wr)) (fun i _=>l.length - (intOf i).toNat)
 case atStart=>exact ⟨0,Nat.zero_le _,rfl,HH,aA (Below.refl _ _)⟩
 case round =>
  obtain ⟨k,hk,rfl,HK,HW⟩:=hrel;by_cases hlt:k<l.length
  ·obtain ⟨b,off,s,x,cc,rfl,hb,hsl,c0,c1,c2,c3,c4,hr⟩:=(HR.out.below HW.out).at hlt
   have HX:=aA hsl;have hsm:=HS.out.2 s (List.mem_of_getElem? hsl);have HSM:=aA hsm.2.2.2;have BA:=aA (aC wr (.cells #[.string (str s.name),.string (str s.parent),.int .i64 s.kind,.bool s.lease,.slice x s.layer.length cc] 42));have F5:=aA (fF.new wr (.string (str s.name)) (.string (str s.parent)) (.int .i64 s.kind) (.bool s.lease) (.slice x s.layer.length cc) 42);have HRL:=aA (hr.below BA.out);have HW1:=aA (aB HW.out BA.out);have hl1:=hsm.1;have hl2:=hsm.2.2.1;clear hsl hr hsm;go_wp2_with fail
   clear c0 c1 c2 c3 c4 BA;generalize hW1:wr.alloc (.cells #[.string (str s.name),.string (str s.parent),.int .i64 s.kind,.bool s.lease,.slice x s.layer.length cc] 42)=W1 at *;generalize hB1:wr.heap.size=b1 at *;clear hW1 hB1;refine (zb0 s.name _ hl1).mono ?_;rintro r w1 ⟨rfl,rfl⟩;obtain ⟨f0,f1,f2,f3,f4⟩:=F5.out;cases hnm:fA s.name
   ·have HO:=aA (nW HK.out HX.out (by rw[zl1 hnm];decide))
    have HO2:=aA (show F=5 by rw[HF.out,HO.out,zl1 hnm];rfl)
    clear hnm;go_wp2_with fail
    go_ret
    exact ⟨aO HO2.out.symm,HW1.out⟩
   ·have HNK:=aA hnm
    have HKD:=aA (fun u=>za0 s.kind u)
    cases hkd:(s.kind==1||s.kind==2)
    ·have H1:=aA (zk1 (p:=dV l k) HNK.out (by rw[hkd];rfl))
     have HO:=aA (nW HK.out HX.out (by rw[H1.out];decide))
     have HO2:=aA (show F=1 by rw[HF.out,HO.out,H1.out];rfl)
     rw[hkd]at HKD;clear hnm hkd;go_wp2_with fail
     go_quiet ((go_at_call 34;exact Calls.quiet_of ((HKD.out _).mono (fun e w' ⟨he,hw⟩=>⟨he,0,hw⟩))))
     go_wp2_with fail
     go_ret
     exact ⟨aO HO2.out.symm,below_drewN HW1.out _⟩
    ·have HKK:=aA hkd
     rw[hkd]at HKD;clear hnm hkd;have step:∀ (nq:Nat),lwQ (dV l k) s=false→True:=fun _ _=>trivial
     cases k with
     | zero =>
      have HL:=aA (show lwQ (dV l 0) s=false from rfl)
      go_wp2_with fail
      go_quiet ((go_at_call 34;exact Calls.quiet_of ((HKD.out _).mono (fun e w' ⟨he,hw⟩=>⟨he,0,hw⟩))))
      have HW2:=aA (below_drewN HW1.out nq);have HRL2:=aA (HRL.out.below (below_drewN (Below.refl _ _) nq));obtain ⟨g0,g1,g2,g3,g4⟩:=F5.out.below (below_drewN (Below.refl _ _) nq);clear f0 f1 f2 f3 f4;generalize World.drewN _ nq=W at *;go_wp2_with fail
      refine (gK x cc s.layer.length s.layer W HRL2.out rfl hl2 HSM.out).mono ?_;rintro r w4 ⟨rfl,hb4⟩;have HW3:=aA (aB HW2.out hb4);have H1:=aA (zu4 HNK.out HKK.out HL.out);clear hb4;by_cases hz:aQ s.layer=0
      ·have HO:=aA (yS HK.out HX.out (by rw[H1.out,hz]))
       rw[hz];clear hz;go_wp2_with fail
       go_roundw
       case rel=>exact ⟨1,by omega,by go_num,HO,HW3⟩
       case measure=>simp[intOf];omega
      ·have HO:=aA (nW HK.out HX.out (by rw[H1.out];exact hz))
       have HO2:=aA (show F=aQ s.layer by rw[HF.out,HO.out,H1.out,if_neg hz])
       have hz2:(aQ s.layer != 0)=true:=by simp;exact hz
       clear hz;go_wp2_with fail
       go_ret
       exact ⟨aO HO2.out.symm,HW3.out⟩
     | succ j =>
      have hg:(0:Int)<((j+1:Nat):Int):=by omega
      obtain ⟨b2,off2,s2,x2,cc2,hbb,hb2,hs2,d0,d1,d2,d3,d4,hr2⟩:=(HR.out.below HW1.out).at (show j<l.length by omega)
      simp only[Option.some.injEq,Addr.mk.injEq,and_true]at hbb;obtain ⟨rfl,rfl⟩:=hbb;have HL:=aA (show lwQ (dV l (j+1)) s=(Op.bytesLess s.name s2.name||(s.name==s2.name)) from by simp[dV,lwQ,hs2])
      clear hs2 d1 d2 d3 d4 hr2;cases hlow:(Op.bytesLess (str s.name).toList (str s2.name).toList||((str s.name).toList==(str s2.name).toList))
      ·have HL2:=aA (show lwQ (dV l (j+1)) s=false from by rw[HL.out];rw[aM,aM]at hlow;exact hlow)
       go_wp2_with fail
       go_quiet ((go_at_call 34;exact Calls.quiet_of ((HKD.out _).mono (fun e w' ⟨he,hw⟩=>⟨he,0,hw⟩))))
       have HW2:=aA (below_drewN HW1.out nq);have HRL2:=aA (HRL.out.below (below_drewN (Below.refl _ _) nq));obtain ⟨g0,g1,g2,g3,g4⟩:=F5.out.below (below_drewN (Below.refl _ _) nq);clear f0 f1 f2 f3 f4 d0;generalize World.drewN _ nq=W at *;go_wp2_with fail
       refine (gK x cc s.layer.length s.layer W HRL2.out rfl hl2 HSM.out).mono ?_;rintro r w4 ⟨rfl,hb4⟩;have HW3:=aA (aB HW2.out hb4);have H1:=aA (zu4 HNK.out HKK.out HL2.out);clear hb4;by_cases hz:aQ s.layer=0
       ·have HO:=aA (yS HK.out HX.out (by rw[H1.out,hz]))
        rw[hz];clear hz;go_wp2_with fail
        go_roundw
        case rel=>exact ⟨j+1+1,by omega,by go_num,HO,HW3⟩
        case measure=>simp[intOf];omega
       ·have HO:=aA (nW HK.out HX.out (by rw[H1.out];exact hz))
        have HO2:=aA (show F=aQ s.layer by rw[HF.out,HO.out,H1.out,if_neg hz])
        have hz2:(aQ s.layer != 0)=true:=by simp;exact hz
        clear hz;go_wp2_with fail
        go_ret
        exact ⟨aO HO2.out.symm,HW3.out⟩
      ·have HL2:=aA (show lwQ (dV l (j+1)) s=true from by rw[HL.out];rw[aM,aM]at hlow;exact hlow)
       have H1:=aA (zk1 (p:=dV l (j+1)) HNK.out (by rw[HL2.out,Bool.not_true,Bool.and_false]))
       have HO:=aA (nW HK.out HX.out (by rw[H1.out];decide))
       have HO2:=aA (show F=1 by rw[HF.out,HO.out,H1.out];rfl)
       go_wp2_with fail
       go_quiet ((go_at_call 34;exact Calls.quiet_of ((HKD.out _).mono (fun e w' ⟨he,hw⟩=>⟨he,0,hw⟩))))
       go_wp2_with fail
       go_ret
       exact ⟨aO HO2.out.symm,below_drewN HW1.out _⟩
  ·have h0:=zmc HK.out (by omega)
   have HNE:=aA (HNM.out h0);have HFS:=aA (show F=fH l (l.drop 0) by rw[HF.out,if_pos h0];rfl)
   clear h0 HK HNM HF HH;have hke:k=l.length:=by omega
   clear hlt hk;subst hke;go_wp2_with fail
   go_loopw [51] (fun i wr=>∃ k:Nat,k≤l.length∧i=.int .i64 k∧Hid (F=fH l (l.drop k))∧Hid (Below w.heap.size w wr)) (fun i _=>l.length - (intOf i).toNat)
   case atStart=>exact ⟨0,Nat.zero_le _,rfl,HFS,HW⟩
   case round =>
    clear HW
    rename_i wr2
    obtain ⟨k,hk,rfl,HK,HW⟩:=hrel;by_cases hlt:k<l.length
    ·obtain ⟨b,off,s,x,cc,rfl,hb,hsl,c0,c1,c2,c3,c4,hr⟩:=(HR.out.below HW.out).at hlt
     have HX:=aA hsl;have HNS:=aA (HNE.out s (List.mem_of_getElem? hsl));have BA:=aA (aC wr (.cells #[.string (str s.name),.string (str s.parent),.int .i64 s.kind,.bool s.lease,.slice x s.layer.length cc] 42));have HRL:=aA (hr.below BA.out);have HW1:=aA (aB HW.out BA.out);clear hsl hr;go_wp2_with fail
     clear c0 c1 c2 c3 c4 BA;generalize hW1:wr.alloc (.cells #[.string (str s.name),.string (str s.parent),.int .i64 s.kind,.bool s.lease,.slice x s.layer.length cc] 42)=W1 at *;clear hW1;refine (zj0 _ c l.length l s x cc W1 (HR.out.below HW1.out) HRL.out rfl hl HNE.out HNS.out).mono ?_;rintro r w4 ⟨rfl,hb4⟩;have HW3:=aA (aB HW1.out hb4);clear hb4;by_cases hz:dZ l s=0
     ·have HO:=aA (zn5 HK.out HX.out hz)
      rw[hz];clear hz;go_wp2_with fail
      go_roundw
      case rel=>exact ⟨k+1,by omega,by go_num,HO,HW3⟩
      case measure=>simp[intOf];omega
     ·have HO:=aA (zp7 HK.out HX.out hz)
      have hz2:(dZ l s != 0)=true:=by simp;exact hz
      clear hz;go_wp2_with fail
      go_ret
      exact ⟨aO HO.out.symm,HW3.out⟩
    ·have HO:=aA (zq7 HK.out (by omega))
     go_wp2_with fail
     go_ret
     exact ⟨aO HO.out.symm,HW.out⟩
end Go.Proofs.YtgaeikgoknoamaaGreat
