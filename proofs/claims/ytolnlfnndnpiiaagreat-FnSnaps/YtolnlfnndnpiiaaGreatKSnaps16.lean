/-
  Texts put together: SnpE SnpF SnqB SnpG SnqC.
-/
import Derived.Test.YtolnlfnndnpiiaaGreatKSnaps15
import Derived.Test.YtolnlfnndnpiiaaGreatKSnaps3
set_option linter.unusedVariables false
set_option maxHeartbeats 6400000
set_option maxRecDepth 100000
namespace Go.Proofs.YtolnlfnndnpiiaaGreat
open Go.RowKit Go.Maps
attribute [local go_sem ↓] Go.wp_at_zero Go.wp_at_succ
theorem sG (s:Sn) (x:Option Addr) (c:Nat) (w:World) (h:s.name≠[]) :
  Calls Tryz.prog 41 #[.agg #[.string (str s.name),.string (str s.parent),.int .i64 s.kind,.bool s.lease,.slice x s.layer.length c]] w fun r w'=>r=.returned (.bool false)∧Below w.heap.size w w':=by
 have e:(s.name.isEmpty&&s.parent.isEmpty)=false:=by cases hs:s.name with | nil=>exact absurd hs h | cons a b=>rfl
 have:=zz1 s x c w;rwa [e]at this
theorem uO (x:Option Addr) (c:Nat) (w:World) :
  Calls Tryz.prog 41 #[.agg #[.string (str eQ.name),.string (str eQ.parent),.int .i64 eQ.kind,.bool eQ.lease,.slice x eQ.layer.length c]] w fun r w'=>r=.returned (.bool true)∧Below w.heap.size w w':=zz1 eQ x c w
def zlh:Value→Nat
 | .slice _ n _=>n
 | _=>0
theorem zm4 {l:List Sn} {k:Nat} {e:Sn} (hk:k≤4):aQ l (5 - k) (some e)=e :: aQ l (5 - (k+1)) (atS l e.parent):=by
 have:5 - k=(5 - (k+1))+1:=by omega
 rw[this];rfl
theorem ze2 (a:Option Addr) (c n:Nat) (l:List Sn) (s:Sn) (x:Option Addr) (cc:Nat) (w0 w:World) (hb0:Below w0.heap.size w0 w) (h:RdS w0 a l) (hx:RdE w0 x s.layer) (hn:n=l.length) (hl:l.length≤1048576) (hne:∀ y∈l,y.name≠[]) (hs:s.name≠[]) :
  Calls Tryz.prog 43 #[.slice a n c,.agg #[.string (str s.name),.string (str s.parent),.int .i64 s.kind,.bool s.lease,.slice x s.layer.length cc]] w fun r w'=>∃ av cv,r=.returned (.slice av (aQ l 5 (some s)).length cv)∧LN w.heap.size w0 w' (.slice av (aQ l 5 (some s)).length cv) (aQ l 5 (some s))∧Below w.heap.size w w':=by
 subst hn;obtain ⟨i1,ki,kz0,kz1,kz2⟩:=info_parts Tryz.infoSn;obtain ⟨L,hL⟩:∃ L,L=aQ l 5 (some s):=⟨_,rfl⟩;rw[←hL];have HL:=aA hL;have HR:=aA h;have HB0:=aA hb0;have HNE:=aA hne;have X0:=aA (jB.new w (.string (str s.name)) (.string (str s.parent)) (.int .i64 s.kind) (.bool s.lease) (.slice x s.layer.length cc) 37);have B0:=aA (aC w (.cells #[.string (str s.name),.string (str s.parent),.int .i64 s.kind,.bool s.lease,.slice x s.layer.length cc] 37));have HX:=aA hx;have HS:=aA hs;clear h hb0 hne hL hx hs;go_enter Tryz.func43,Tryz.ntmps43;go_wp2_with fail
 have hs1:w.heap.size<(w.alloc (.cells #[.string (str s.name),.string (str s.parent),.int .i64 s.kind,.bool s.lease,.slice x s.layer.length cc] 37)).heap.size:=by simp
 generalize w.alloc (.cells #[.string (str s.name),.string (str s.parent),.int .i64 s.kind,.bool s.lease,.slice x s.layer.length cc] 37)=W0 at *;go_loopw [5] (fun v wr=>∃ (pre:List Sn) (o:Option Sn) (e:Sn) (x':Option Addr) (c':Nat),pre.length≤5∧w.heap.size<wr.heap.size∧Hid (e=o.getD eQ)∧Hid (∀ y,o=some y→y.name≠[])∧Hid (L=pre++aQ l (5 - pre.length) o)∧Hid (LN (w.heap.size+1) w0 wr v pre)∧Hid (jB wr w.heap.size (.string (str e.name)) (.string (str e.parent)) (.int .i64 e.kind) (.bool e.lease) (.slice x' e.layer.length c'))∧Hid (RdE w0 x' e.layer)∧Hid (Below w.heap.size w wr)) (fun v _=>6 - zlh v)
 case atStart=>exact ⟨[],some s,s,x,cc,by simp,hs1,aA rfl,aA (fun y hy=>by cases hy;exact HS.out),aA (by rw[HL.out];rfl),aA (LN.nil _ _ _),X0,HX,B0⟩
 case round =>
  obtain ⟨pre,o,e,x',c',hp5,hsw,HE,HO,HLL,HLN,HBX,HRX,HW⟩:=hrel;have hsz:=HW.out.size;have hszb:=HB0.out.size;obtain ⟨lv,lc,hv⟩:=HLN.out.shape;subst hv;obtain ⟨⟨t0,t1,t2,t3,t4⟩,tf⟩:=HBX.out;cases o with
  | none =>
   have he:e=eQ:=HE.out;subst he;have HT:=aA (show L=pre by rw[HLL.out,jS,List.append_nil])
   go_wp2_with fail
   refine (uO _ _ _).mono ?_;rintro r w1 ⟨rfl,hb1⟩;have B1:=aA (aB HW.out hb1);have L1:=aA (HLN.out.below hb1);clear hb1 t0 t1 t2 t3 t4 tf;go_wp2_with fail
   go_ret
   rw[HT.out];exact ⟨lv,lc,rfl,L1.out.mono (by omega),B1.out⟩
  | some y =>
   have he:e=y:=HE.out;subst he;have HNM:=aA (HO.out e rfl);go_wp2_with fail
   refine (sG e _ _ _ HNM.out).mono ?_;rintro r w1 ⟨rfl,hb1⟩;have B1:=aA (aB HW.out hb1);have L1:=aA (HLN.out.below hb1);have X1:=aA (HBX.out.below hb1);have hs1:=hb1.size;clear hb1 t0 t1 t2 t3 t4 tf HBX HLN;by_cases h4:pre.length≤4
   ·have h4':(pre.length:Int)≤4:=by omega
    have hm1:pre.length+1≤maxLen:=by unfold maxLen;omega
    have hm1':(pre.length+1) * 72≤140737488355328:=by omega
    have HLN2:=aA (show L=(pre ++ [e])++aQ l (5 - (pre ++ [e]).length) (atS l e.parent) by
     rw[HLL.out,zm4 h4,List.append_assoc,List.length_append];rfl)
    obtain ⟨rs,g1,g2,g3⟩:=L1.out;have G1:=aA g1;have G2:=aA g2;have G3:=aA g3;clear g1 g2 g3;obtain ⟨⟨t0,t1,t2,t3,t4⟩,tf⟩:=X1.out;go_wp2_with (at_builtin;refine dB rfl (.tmp 14) (.tmp 16) 24 rfl (w.heap.size+1) 37 i1 (.agg #[.string ⟨#[]⟩,.string ⟨#[]⟩,.int .i64 0,.bool false,.slice none 0 0]) 5 72 Tryz.underlying24 ki kz0 kz1 kz2 rfl (by decide) _ _ _ rfl G2.out _ rfl rfl rfl (by intro u hu;simp at hu;rcases hu with rfl | rfl | rfl | rfl | rfl <;> rfl) hm1 hm1' (by omega) ?_;intro av6 cv6 w6 hown6 hk6;have O6:=aA hown6;have K6:=aA hk6;clear hown6 hk6;obtain ⟨⟨q0,q1,q2,q3,q4⟩,qf⟩:=(show jB w6 w.heap.size (.string (str e.name)) (.string (str e.parent)) (.int .i64 e.kind) (.bool e.lease) (.slice x' e.layer.length c') from ⟨X1.out.1.kept K6.out (fun hS=>by have:=(G2.out.lt _ hS).1;omega),fun i=>(K6.out.frozen (p:=⟨w.heap.size,i,none⟩) X1.out.1.lt (fun hS=>by have h9:w.heap.size+1≤w.heap.size:=(G2.out.lt _ hS).1;omega)).trans (X1.out.2 i)⟩))
    have BW6:Hid (Below w.heap.size w w6):=aA (B1.out.trans (K6.out.below (B:=w.heap.size) (by omega) (fun q hq hS=>by have:=(G2.out.lt q hS).1;omega)))
    have X6:Hid (jB w6 w.heap.size (.string (str e.name)) (.string (str e.parent)) (.int .i64 e.kind) (.bool e.lease) (.slice x' e.layer.length c')):=aA ⟨⟨q0,q1,q2,q3,q4⟩,qf⟩;have hs6:=K6.out.size;refine (oO a c l.length l e.parent w0 w6 (HB0.out.trans ((BW6.out).mono (by omega))) HR.out rfl hl).mono ?_
    rintro r w7 ⟨⟨y,x7,c7,hy,rfl,hx7⟩,hb7⟩;have HY:=aA hy;have HX7:=aA hx7;have X7:=aA (X6.out.below hb7);obtain ⟨⟨p0,p1,p2,p3,p4⟩,pf⟩:=X7.out;have pf0:=pf 0;have pf1:=pf 1;have pf2:=pf 2;have pf3:=pf 3;have pf4:=pf 4;have O7:=aA (aI O6.out hb7);have B7:=aA (aB BW6.out hb7);have hs7:=hb7.size;have HN7:=aA (show ∀ z,atS l e.parent=some z→z.name≠[] from fun z hz=>HNE.out z (bW hz).1)
    clear hb7 hy hx7 pf q0 q1 q2 q3 q4 qf;go_wp2_with fail
    go_roundw
    case rel =>
     refine ⟨pre ++ [e],atS l e.parent,y,x7,c7,by simp;omega,by simp[World.setCell];omega,HY,HN7,HLN2,aA ?_,aA ?_,HX7,aA (Below.five B7.out (Nat.le_refl _) _ _ _ _ _)⟩
     ·refine LN.push (s:=e) (a:=x') (c:=c') G1.out rfl G3.out HRX.out ?_
      exact aL O7.out (aD.five w7 w.heap.size _ _ _ _ _) (fun b hb e=>by have:=(O7.out.lt b hb).1;omega)
     ·exact X7.out.set _ _ _ _ _
    case measure=>simp[zlh];omega
   ·have hp:pre.length=5:=by omega
    have h4':¬ (pre.length:Int)≤4:=by omega
    have HT:=aA (show L=pre by rw[HLL.out,hp];simp[aQ])
    clear hp h4;go_wp2_with fail
    go_ret
    rw[HT.out];exact ⟨lv,lc,rfl,L1.out.mono (by omega),B1.out⟩
theorem zr3 (a:Option Addr) (c n:Nat) (l:List Sn) (s:Sn) (x:Option Addr) (cc:Nat) (w:World) (h:RdS w a l) (hx:RdE w x s.layer) (hn:n=l.length) (hl:l.length≤1048576) (hne:∀ y∈l,y.name≠[]) (hs:s.name≠[]) :
  Calls Tryz.prog 39 #[.slice a n c,.agg #[.string (str s.name),.string (str s.parent),.int .i64 s.kind,.bool s.lease,.slice x s.layer.length cc]] w fun r w'=>r=.returned (.int .i64 (eS l s))∧Below w.heap.size w w':=by
 subst hn;have HR:=aA h;have HX:=aA hx;have HNE:=aA hne;have HS:=aA hs;have hse:=rB s.parent [];have F5:=aA (dE.new w (.string (str s.name)) (.string (str s.parent)) (.int .i64 s.kind) (.bool s.lease) (.slice x s.layer.length cc) 37);have B0:=aA (aC w (.cells #[.string (str s.name),.string (str s.parent),.int .i64 s.kind,.bool s.lease,.slice x s.layer.length cc] 37));have hstr:str []=⟨#[]⟩:=rfl;rw[hstr]at hse;clear h hx hne hs hstr;by_cases hp:s.parent=[]
 ·have HD:=aA (show eS l s=0 by unfold eS;rw[if_pos hp])
  have hpe:(str s.parent).toList.isEmpty=true:=by rw[hp,aN];rfl
  clear hp hse;go_enter Tryz.func39,Tryz.ntmps39;go_wp2_with fail
  go_ret
  exact ⟨aO HD.out.symm,B0.out⟩
 ·have hpe:(str s.parent).toList.isEmpty=false:=by
   rw[aN];cases hq:s.parent with | nil=>exact absurd hq hp | cons _ _=>rfl
  have HP:=aA hp;clear hp hse;go_enter Tryz.func39,Tryz.ntmps39;go_wp2_with fail
  generalize hW0:w.alloc (.cells #[.string (str s.name),.string (str s.parent),.int .i64 s.kind,.bool s.lease,.slice x s.layer.length cc] 37)=W0 at *;clear hW0;refine (oO a c l.length l s.parent w W0 B0.out HR.out rfl hl).mono ?_;rintro r w1 ⟨⟨e,x1,c1,he,rfl,hx1⟩,hb1⟩;have HE:=aA he;have B1:=aA (aB B0.out hb1);have F51:=aA (F5.out.below (aB hb1 (aC w1 (.cells #[.string (str e.name),.string (str e.parent),.int .i64 e.kind,.bool e.lease,.slice x1 e.layer.length c1] 37))));have FE:=aA (dE.new w1 (.string (str e.name)) (.string (str e.parent)) (.int .i64 e.kind) (.bool e.lease) (.slice x1 e.layer.length c1) 37)
  have B2:=aA (aB B1.out (aC w1 (.cells #[.string (str e.name),.string (str e.parent),.int .i64 e.kind,.bool e.lease,.slice x1 e.layer.length c1] 37)));clear hb1 he hx1;cases ho:atS l s.parent with
  | none =>
   have he:e=eQ:=by have:=HE.out;rw[ho]at this;exact this
   have HD:=aA (show eS l s=4 by unfold eS;rw[if_neg HP.out,ho])
   subst he;clear ho;go_wp2_with fail
   refine (uO _ _ _).mono ?_;rintro r w2 ⟨rfl,hb2⟩;have B3:=aA (aB B2.out hb2);clear hb2;go_wp2_with fail
   go_ret
   exact ⟨aO HD.out.symm,B3.out⟩
  | some y =>
   have he:e=y:=by have:=HE.out;rw[ho]at this;exact this
   subst he;have HNM:=aA (HNE.out e (bW ho).1);have HD:=aA (show eS l s=if e.kind=1 then 10 else if 4<(aQ l 5 (some s)).length then 2 else 0 by unfold eS;rw[if_neg HP.out,ho])
   clear ho;go_wp2_with fail
   generalize hW2:w1.alloc (.cells #[.string (str e.name),.string (str e.parent),.int .i64 e.kind,.bool e.lease,.slice x1 e.layer.length c1] 37)=W2 at *;clear hW2;refine (sG e _ _ _ HNM.out).mono ?_;rintro r w3 ⟨rfl,hb3⟩;have B3:=aA (aB B2.out hb3);obtain ⟨g0,g1,g2,g3,g4⟩:=FE.out.below hb3;obtain ⟨f0,f1,f2,f3,f4⟩:=F51.out.below hb3;clear hb3;by_cases hk:e.kind=1
   ·have hkb:(e.kind==1)=true:=by simp[hk]
    have HD2:=aA (show eS l s=10 by rw[HD.out,if_pos hk])
    clear hk;go_wp2_with fail
    go_ret
    exact ⟨aO HD2.out.symm,B3.out⟩
   ·have hkb:(e.kind==1)=false:=by simp[hk]
    have HD2:=aA (show eS l s=if 4<(aQ l 5 (some s)).length then 2 else 0 by rw[HD.out,if_neg hk])
    clear hk;go_wp2_with fail
    refine (ze2 a c l.length l s x cc w w3 B3.out HR.out HX.out rfl hl HNE.out HS.out).mono ?_;rintro r w4 ⟨av,cv,rfl,-,hb4⟩;have B4:=aA (aB B3.out hb4);have hL5:=sJ l 5 (some s);generalize (aQ l 5 (some s)).length=M at *;clear hb4;by_cases hm:4<M
    ·have hm':(4:Int)<(M:Int):=by omega
     have HD3:=aA (show eS l s=2 by rw[HD2.out,if_pos hm])
     clear hm;go_wp2_with fail
     go_ret
     exact ⟨aO HD3.out.symm,B4.out⟩
    ·have hm':¬ (4:Int)<(M:Int):=by omega
     have HD3:=aA (show eS l s=0 by rw[HD2.out,if_neg hm])
     clear hm;go_wp2_with fail
     go_ret
     exact ⟨aO HD3.out.symm,B4.out⟩
def eO (l:List Sn):Nat→Option Sn
 | 0=>none
 | j+1=>l[j]?
theorem zx1 {l:List Sn} {k:Nat} {s:Sn} {F:Int} (h:F=gV (eO l k) (l.drop k)) (hs:l[k]?=some s) (h0:mN (eO l k) s=0):F=gV (eO l (k+1)) (l.drop (k+1)):=by
 rw[h,eG hs,gV,if_pos h0];show gV (some s) _=gV l[k]? _
 rw[hs]
theorem pX {l:List Sn} {k:Nat} {s:Sn} {F:Int} (h:F=gV (eO l k) (l.drop k)) (hs:l[k]?=some s) (h0:mN (eO l k) s≠0):F=mN (eO l k) s:=by
 rw[h,eG hs,gV,if_neg h0]
theorem zwg {l:List Sn} {k:Nat} {F:Int} (h:F=gV (eO l k) (l.drop k)) (hk:l.length≤k):F=0:=by
 rw[h,List.drop_eq_nil_of_le hk,gV]
theorem zi9 {l r:List Sn} {k:Nat} {s:Sn} {F:Int} (h:F=gF l (r.drop k)) (hs:r[k]?=some s) (h0:eS l s=0):F=gF l (r.drop (k+1)):=by
 rw[h,eG hs,gF,if_pos h0]
theorem zub {l r:List Sn} {k:Nat} {s:Sn} {F:Int} (h:F=gF l (r.drop k)) (hs:r[k]?=some s) (h0:eS l s≠0):F=eS l s:=by
 rw[h,eG hs,gF,if_neg h0]
theorem zvb {l r:List Sn} {k:Nat} {F:Int} (h:F=gF l (r.drop k)) (hk:r.length≤k):F=0:=by
 rw[h,List.drop_eq_nil_of_le hk,gF]
theorem tC (nm:Bs) (w:World) (h:nm.length≤1048576) :
  Calls Tryz.prog 69 #[.string (str nm)] w fun r w'=>r=.returned (.bool (fW nm))∧w'=w:=by
 have hsz:(str nm).size≤9223372036854775807:=by rw[aK];omega
 have HL:=aA (fun u=>tE (str nm) u hsz)
 rw[aT]at HL;have HN:=aA (show fW nm=(eH nm&&decide (nm.length≤4)) from rfl)
 generalize fW nm=Z at *;have hss:(str nm).size=nm.length:=aK nm;cases hp:eH nm
 ·rw[hp]at HL
  have HZ:=aA (show Z=false by rw[HN.out,hp,Bool.false_and])
  go_enter Tryz.func69,Tryz.ntmps69;go_wp2_with fail
  refine (HL.out _).mono ?_;rintro r w1 ⟨rfl,rfl⟩;go_wp2_with fail
  go_ret
  exact ⟨bQ HZ.out.symm,rfl⟩
 ·rw[hp]at HL
  have HZ:=aA (show Z=decide (nm.length≤4) by rw[HN.out,hp,Bool.true_and])
  clear hp;by_cases h4:nm.length≤4
  ·have hb:((str nm).size:Int)≤4:=by omega
   have HZ2:=aA (show Z=true by rw[HZ.out,decide_eq_true h4])
   clear h4;go_enter Tryz.func69,Tryz.ntmps69;go_wp2_with fail
   refine (HL.out _).mono ?_;rintro r w1 ⟨rfl,rfl⟩;go_wp2_with fail
   go_ret
   exact ⟨bQ (by rw[HZ2.out];simp;omega),rfl⟩
  ·have hb:¬ ((str nm).size:Int)≤4:=by omega
   have HZ2:=aA (show Z=false by rw[HZ.out,decide_eq_false h4])
   clear h4;go_enter Tryz.func69,Tryz.ntmps69;go_wp2_with fail
   refine (HL.out _).mono ?_;rintro r w1 ⟨rfl,rfl⟩;go_wp2_with fail
   go_ret
   exact ⟨bQ (by rw[HZ2.out];simp;omega),rfl⟩
def plS (l:List Sn) (nm:Bs):Option Nat:=l.findIdx? fun s=>s.name==nm
theorem zym {l:List Sn} {nm:Bs} {k:Nat} {s:Sn} (hs:l[k]?=some s) (h:plS l nm=(plS (l.drop k) nm).map (· + k)) (hn:s.name=nm):plS l nm=some k:=by
 rw[h,eG hs,plS,List.findIdx?_cons];simp[hn]
theorem zuk {l:List Sn} {nm:Bs} {k:Nat} {s:Sn} (hs:l[k]?=some s) (h:plS l nm=(plS (l.drop k) nm).map (· + k)) (hn:s.name≠nm):plS l nm=(plS (l.drop (k+1)) nm).map (· + (k+1)):=by
 rw[h,eG hs];unfold plS;rw[List.findIdx?_cons];have:(s.name==nm)=false:=by simpa using hn
 rw[this];simp only[Bool.false_eq_true,if_false,Option.map_map]
 congr 1
 funext x
 simp only[Function.comp];omega
theorem zxm {l:List Sn} {nm:Bs} {k:Nat} (hk:l.length≤k) (h:plS l nm=(plS (l.drop k) nm).map (· + k)):plS l nm=none:=by
 rw[h,List.drop_eq_nil_of_le hk];rfl
theorem oK {l:List Sn} {nm:Bs} {k:Nat} (h:plS l nm=some k):∃ s,l[k]?=some s∧atS l nm=some s:=by
 unfold plS at h;obtain ⟨hk,h1,h2⟩:=List.findIdx?_eq_some_iff_getElem.1 h;refine ⟨l[k],List.getElem?_eq_getElem hk,?_⟩
 unfold atS;rw[List.find?_eq_some_iff_getElem];exact ⟨h1,k,hk,rfl,fun j hj=>by have:=h2 j hj;simpa using this⟩
theorem kD {l:List Sn} {nm:Bs} (h:plS l nm=none):atS l nm=none:=by
 unfold plS at h;rw[List.findIdx?_eq_none_iff]at h;exact kV.2 fun s hs e=>by have:=h s hs;simp[e]at this
theorem iN (a:Option Addr) (c n:Nat) (l:List Sn) (nm:Bs) (w:World) (h:RdS w a l) (hn:n=l.length) (hl:l.length≤1048576) :
  Calls Tryz.prog 33 #[.slice a n c,.string (str nm)] w fun r w'=>r=.returned (.int .i64 (dD (plS l nm)))∧w'=w:=by
 subst hn;have HR:=aA h;clear h;go_enter Tryz.func33,Tryz.ntmps33;go_wp2_with fail
 go_loop [5] (fun i=>∃ k:Nat,k≤l.length∧i=.int .i64 k∧Hid (plS l nm=(plS (l.drop k) nm).map (· + k))) (fun i=>l.length - (intOf i).toNat)
 case atStart=>exact ⟨0,Nat.zero_le _,rfl,aA (by simp)⟩
 case round =>
  obtain ⟨k,hk,rfl,HA⟩:=hrel;by_cases hlt:k<l.length
  ·obtain ⟨b,off,e,x,cc,rfl,hb,he,c0,c1,c2,c3,c4,hr⟩:=HR.out.at hlt
   have HX:=aA he;clear he hr;by_cases hp:e.name=nm
   ·have HE:=aA (zym HX.out HA.out hp)
    have hs:=gS hp;clear hp;go_wp2_with fail
    go_ret
    exact ⟨aO (by rw[HE.out];rfl),rfl⟩
   ·have HE:=aA (zuk HX.out HA.out hp)
    have hs:=jA hp;clear hp;go_wp2_with fail
    go_round
    case rel=>exact ⟨k+1,by omega,by go_num,HE⟩
    case measure=>simp[intOf];omega
  ·have HE:=aA (zxm (by omega) HA.out)
   go_wp2_with fail
   go_ret
   exact ⟨aO (by rw[HE.out];rfl),rfl⟩
def nmS (l:List Sn) (nm:Bs):Option Sn:=if nm=[] then none else atS l nm
theorem zbg {l:List Sn} {nm:Bs} {k:Nat} {s:Sn} (h:k≤4) (hs:nmS l nm=some s):(aQ l (5 - k) (nmS l nm)).length=1+(aQ l (5 - (k+1)) (atS l s.parent)).length:=by
 rw[hs,zm4 h];simp;omega
theorem pG (a:Option Addr) (c n:Nat) (l:List Sn) (nm:Bs) (w:World) (h:RdS w a l) (hn:n=l.length) (hl:l.length≤1048576) (hne:∀ y∈l,y.name≠[]) :
  Calls Tryz.prog 71 #[.slice a n c,.string (str nm)] w fun r w'=>r=.returned (.int .i64 (fH l nm))∧w'=w:=by
 subst hn;have HR:=aA h;have HNE:=aA hne;obtain ⟨D,hD⟩:∃ D:Nat,D=fH l nm:=⟨_,rfl⟩;rw[←hD];have HD:=aA (show D=0+(aQ l (5 - 0) (nmS l nm)).length by rw[hD];simp[fH,nmS])
 clear h hne hD;go_enter Tryz.func71,Tryz.ntmps71;go_wp2_with fail
 go_loop [5,1] (fun i q=>∃ (k:Nat) (m:Bs),k≤5∧i=.int .i64 k∧q=.string (str m)∧Hid (D=k+(aQ l (5 - k) (nmS l m)).length)) (fun i _=>5 - (intOf i).toNat)
 case atStart=>exact ⟨0,nm,by decide,rfl,rfl,HD⟩
 case round =>
  obtain ⟨k,m,hk,rfl,rfl,HK⟩:=hrel;by_cases h5:k<5
  ·have h5':(k:Int)<5:=by omega
   by_cases hm:m=[]
   ·subst hm
    have hme:(str []).toList.isEmpty=true:=by rw[aN];rfl
    have HO:=aA (show D=k by rw[HK.out];simp[nmS,jS])
    go_wp2_with fail
    go_ret
    exact ⟨aO (by rw[HO.out]),rfl⟩
   ·have hme:(str m).toList.isEmpty=false:=by
     rw[aN];cases hq:m with | nil=>exact absurd hq hm | cons _ _=>rfl
    have HM:=aA hm;clear hm;go_wp2_with fail
    refine (iN a c l.length l m _ HR.out rfl hl).mono ?_;rintro r w1 ⟨rfl,rfl⟩;cases hp:plS l m with
    | none =>
     have HO:=aA (show D=k by rw[HK.out,nmS,if_neg HM.out,kD hp,jS];rfl)
     clear hp;simp only[dD];go_wp2_with fail
     go_ret
     exact ⟨aO (by rw[HO.out]),rfl⟩
    | some j =>
     obtain ⟨s,hs,hat⟩:=oK hp;have hjl:=(List.getElem?_eq_some_iff.1 hs).1;obtain ⟨b,off,e,x,cc,rfl,hb,he,c0,c1,c2,c3,c4,hr⟩:=HR.out.at hjl;have hes:e=s:=by rw[hs]at he;exact (Option.some.inj he).symm
     subst hes;have HO:=aA (show D=(k+1)+(aQ l (5 - (k+1)) (nmS l e.parent)).length by
      rw[HK.out,zbg (by omega) (show nmS l m=some e by rw[nmS,if_neg HM.out,hat])]
      have:nmS l e.parent=atS l e.parent:=by
       unfold nmS;by_cases h0:e.parent=[]
       ·rw[if_pos h0,h0];exact (kV.2 fun y hy=>HNE.out y hy).symm
       ·rw[if_neg h0]
      rw[this];omega)
     have hj0:¬ (j:Int)<0:=by omega
     have hj1:(j:Int)<(l.length:Int):=by omega
     clear hp hs hat he hr;simp only[dD];go_wp2_with fail
     go_round
     case rel=>exact ⟨k+1,e.parent,by omega,by go_num,rfl,HO⟩
     case measure=>simp[intOf];omega
  ·have hk5:k=5:=by omega
   have h5':¬ (k:Int)<5:=by omega
   have HO:=aA (show D=k by rw[HK.out,hk5];simp[aQ])
   clear hk5 h5;go_wp2_with fail
   go_ret
   exact ⟨aO (by rw[HO.out]),rfl⟩
theorem zu4 {p:Option Sn} {s:Sn} (h:fW s.name=false):mN p s=5:=by unfold mN;rw[h];rfl
theorem zt4 {p:Option Sn} {s:Sn} (h:fW s.name=true) (h2:((s.kind==1||s.kind==2)&&!lwQ p s)=false):mN p s=1:=by unfold mN;rw[h,h2];rfl
theorem zk8 {p:Option Sn} {s:Sn} (h:fW s.name=true) (hk:(s.kind==1||s.kind==2)=true) (hl:lwQ p s=false):mN p s=aR s.layer:=by unfold mN;rw[h,hk,hl];rfl
theorem eA (a:Option Addr) (c n:Nat) (l:List Sn) (w:World) (h:RdS w a l) (hn:n=l.length) (hl:l.length≤1048576) (hs:cD l) :
  Calls Tryz.prog 9 #[.slice a n c] w fun r w'=>r=.returned (.int .i64 (snF l))∧Below w.heap.size w w':=by
 subst hn;obtain ⟨F,hF⟩:∃ F:Int,F=snF l:=⟨_,rfl⟩;rw[←hF];by_cases hm:10<l.length
 ·have HE:=aA (show F=2 by rw[hF];unfold snF;rw[if_pos hm])
  have hm':(10:Int)<(l.length:Int):=by omega
  clear hF hm h hs;go_enter Tryz.func9,Tryz.ntmps9;go_wp2_with fail
  go_ret
  exact ⟨aO HE.out.symm,Below.refl _ _⟩
 obtain ⟨H,hH⟩:∃ H:Int,H=gV none l:=⟨_,rfl⟩;have HF:=aA (show F=if H=0 then gF l l else H by rw[hF,hH];unfold snF;rw[if_neg hm])
 have HH:=aA (show H=gV (eO l 0) (l.drop 0) by rw[hH];rfl)
 have HNM:=aA (show H=0→∀ s∈l,s.name≠[] from fun h0 s hs=>gQ ((nY.1 (hH ▸ h0)).1 s hs).1)
 have HR:=aA h;have HS:=aA hs;have hm':¬ (10:Int)<(l.length:Int):=by omega
 clear hF hH hm h hs;go_enter Tryz.func9,Tryz.ntmps9;go_wp2_with fail
 go_loopw [14] (fun i wr=>∃ k:Nat,k≤l.length∧i=.int .i64 k∧Hid (H=gV (eO l k) (l.drop k))∧Hid (Below w.heap.size w wr)) (fun i _=>l.length - (intOf i).toNat)
 case atStart=>exact ⟨0,Nat.zero_le _,rfl,HH,aA (Below.refl _ _)⟩
 case round =>
  obtain ⟨k,hk,rfl,HK,HW⟩:=hrel;by_cases hlt:k<l.length
  ·obtain ⟨b,off,s,x,cc,rfl,hb,hsl,c0,c1,c2,c3,c4,hr⟩:=(HR.out.below HW.out).at hlt
   have HX:=aA hsl;have hsm:=HS.out.2 s (List.mem_of_getElem? hsl);have HSM:=aA hsm.2.2.2;have BA:=aA (aC wr (.cells #[.string (str s.name),.string (str s.parent),.int .i64 s.kind,.bool s.lease,.slice x s.layer.length cc] 37));have F5:=aA (dE.new wr (.string (str s.name)) (.string (str s.parent)) (.int .i64 s.kind) (.bool s.lease) (.slice x s.layer.length cc) 37);have HRL:=aA (hr.below BA.out);have HW1:=aA (aB HW.out BA.out);have hl1:=hsm.1;have hl2:=hsm.2.2.1;clear hsl hr hsm;go_wp2_with fail
   clear c0 c1 c2 c3 c4 BA;generalize hW1:wr.alloc (.cells #[.string (str s.name),.string (str s.parent),.int .i64 s.kind,.bool s.lease,.slice x s.layer.length cc] 37)=W1 at *;generalize hB1:wr.heap.size=b1 at *;clear hW1 hB1;refine (zj3 s.name _ hl1).mono ?_;rintro r w1 ⟨rfl,rfl⟩;obtain ⟨f0,f1,f2,f3,f4⟩:=F5.out;cases hnm:fW s.name
   ·have HO:=aA (pX HK.out HX.out (by rw[zu4 hnm];decide))
    have HO2:=aA (show F=5 by rw[HF.out,HO.out,zu4 hnm];rfl)
    clear hnm;go_wp2_with fail
    go_ret
    exact ⟨aO HO2.out.symm,HW1.out⟩
   ·have HNK:=aA hnm
    have HKD:=aA (fun u=>zi3 s.kind u)
    cases hkd:(s.kind==1||s.kind==2)
    ·have H1:=aA (zt4 (p:=eO l k) HNK.out (by rw[hkd];rfl))
     have HO:=aA (pX HK.out HX.out (by rw[H1.out];decide))
     have HO2:=aA (show F=1 by rw[HF.out,HO.out,H1.out];rfl)
     rw[hkd]at HKD;clear hnm hkd;go_wp2_with fail
     go_quiet ((go_at_call 37;exact Calls.quiet_of ((HKD.out _).mono (fun e w' ⟨he,hw⟩=>⟨he,0,hw⟩))))
     go_wp2_with fail
     go_ret
     exact ⟨aO HO2.out.symm,below_drewN HW1.out _⟩
    ·have HKK:=aA hkd
     rw[hkd]at HKD;clear hnm hkd;have step:∀ (nq:Nat),lwQ (eO l k) s=false→True:=fun _ _=>trivial
     cases k with
     | zero =>
      have HL:=aA (show lwQ (eO l 0) s=false from rfl)
      go_wp2_with fail
      go_quiet ((go_at_call 37;exact Calls.quiet_of ((HKD.out _).mono (fun e w' ⟨he,hw⟩=>⟨he,0,hw⟩))))
      have HW2:=aA (below_drewN HW1.out nq);have HRL2:=aA (HRL.out.below (below_drewN (Below.refl _ _) nq));obtain ⟨g0,g1,g2,g3,g4⟩:=F5.out.below (below_drewN (Below.refl _ _) nq);clear f0 f1 f2 f3 f4;generalize World.drewN _ nq=W at *;go_wp2_with fail
      refine (gD x cc s.layer.length s.layer W HRL2.out rfl hl2 HSM.out).mono ?_;rintro r w4 ⟨rfl,hb4⟩;have HW3:=aA (aB HW2.out hb4);have H1:=aA (zk8 HNK.out HKK.out HL.out);clear hb4;by_cases hz:aR s.layer=0
      ·have HO:=aA (zx1 HK.out HX.out (by rw[H1.out,hz]))
       rw[hz];clear hz;go_wp2_with fail
       go_roundw
       case rel=>exact ⟨1,by omega,by go_num,HO,HW3⟩
       case measure=>simp[intOf];omega
      ·have HO:=aA (pX HK.out HX.out (by rw[H1.out];exact hz))
       have HO2:=aA (show F=aR s.layer by rw[HF.out,HO.out,H1.out,if_neg hz])
       have hz2:(aR s.layer != 0)=true:=by simp;exact hz
       clear hz;go_wp2_with fail
       go_ret
       exact ⟨aO HO2.out.symm,HW3.out⟩
     | succ j =>
      have hg:(0:Int)<((j+1:Nat):Int):=by omega
      obtain ⟨b2,off2,s2,x2,cc2,hbb,hb2,hs2,d0,d1,d2,d3,d4,hr2⟩:=(HR.out.below HW1.out).at (show j<l.length by omega)
      simp only[Option.some.injEq,Addr.mk.injEq,and_true]at hbb;obtain ⟨rfl,rfl⟩:=hbb;have HL:=aA (show lwQ (eO l (j+1)) s=(Op.bytesLess s.name s2.name||(s.name==s2.name)) from by simp[eO,lwQ,hs2])
      clear hs2 d1 d2 d3 d4 hr2;cases hlow:(Op.bytesLess (str s.name).toList (str s2.name).toList||((str s.name).toList==(str s2.name).toList))
      ·have HL2:=aA (show lwQ (eO l (j+1)) s=false from by rw[HL.out];rw[aN,aN]at hlow;exact hlow)
       go_wp2_with fail
       go_quiet ((go_at_call 37;exact Calls.quiet_of ((HKD.out _).mono (fun e w' ⟨he,hw⟩=>⟨he,0,hw⟩))))
       have HW2:=aA (below_drewN HW1.out nq);have HRL2:=aA (HRL.out.below (below_drewN (Below.refl _ _) nq));obtain ⟨g0,g1,g2,g3,g4⟩:=F5.out.below (below_drewN (Below.refl _ _) nq);clear f0 f1 f2 f3 f4 d0;generalize World.drewN _ nq=W at *;go_wp2_with fail
       refine (gD x cc s.layer.length s.layer W HRL2.out rfl hl2 HSM.out).mono ?_;rintro r w4 ⟨rfl,hb4⟩;have HW3:=aA (aB HW2.out hb4);have H1:=aA (zk8 HNK.out HKK.out HL2.out);clear hb4;by_cases hz:aR s.layer=0
       ·have HO:=aA (zx1 HK.out HX.out (by rw[H1.out,hz]))
        rw[hz];clear hz;go_wp2_with fail
        go_roundw
        case rel=>exact ⟨j+1+1,by omega,by go_num,HO,HW3⟩
        case measure=>simp[intOf];omega
       ·have HO:=aA (pX HK.out HX.out (by rw[H1.out];exact hz))
        have HO2:=aA (show F=aR s.layer by rw[HF.out,HO.out,H1.out,if_neg hz])
        have hz2:(aR s.layer != 0)=true:=by simp;exact hz
        clear hz;go_wp2_with fail
        go_ret
        exact ⟨aO HO2.out.symm,HW3.out⟩
      ·have HL2:=aA (show lwQ (eO l (j+1)) s=true from by rw[HL.out];rw[aN,aN]at hlow;exact hlow)
       have H1:=aA (zt4 (p:=eO l (j+1)) HNK.out (by rw[HL2.out,Bool.not_true,Bool.and_false]))
       have HO:=aA (pX HK.out HX.out (by rw[H1.out];decide))
       have HO2:=aA (show F=1 by rw[HF.out,HO.out,H1.out];rfl)
       go_wp2_with fail
       go_quiet ((go_at_call 37;exact Calls.quiet_of ((HKD.out _).mono (fun e w' ⟨he,hw⟩=>⟨he,0,hw⟩))))
       go_wp2_with fail
       go_ret
       exact ⟨aO HO2.out.symm,below_drewN HW1.out _⟩
  ·have h0:=zwg HK.out (by omega)
   have HNE:=aA (HNM.out h0);have HFS:=aA (show F=gF l (l.drop 0) by rw[HF.out,if_pos h0];rfl)
   clear h0 HK HNM HF HH;have hke:k=l.length:=by omega
   clear hlt hk;subst hke;go_wp2_with fail
   go_loopw [51] (fun i wr=>∃ k:Nat,k≤l.length∧i=.int .i64 k∧Hid (F=gF l (l.drop k))∧Hid (Below w.heap.size w wr)) (fun i _=>l.length - (intOf i).toNat)
   case atStart=>exact ⟨0,Nat.zero_le _,rfl,HFS,HW⟩
   case round =>
    clear HW
    rename_i wr2
    obtain ⟨k,hk,rfl,HK,HW⟩:=hrel;by_cases hlt:k<l.length
    ·obtain ⟨b,off,s,x,cc,rfl,hb,hsl,c0,c1,c2,c3,c4,hr⟩:=(HR.out.below HW.out).at hlt
     have HX:=aA hsl;have HNS:=aA (HNE.out s (List.mem_of_getElem? hsl));have BA:=aA (aC wr (.cells #[.string (str s.name),.string (str s.parent),.int .i64 s.kind,.bool s.lease,.slice x s.layer.length cc] 37));have HRL:=aA (hr.below BA.out);have HW1:=aA (aB HW.out BA.out);clear hsl hr;go_wp2_with fail
     clear c0 c1 c2 c3 c4 BA;generalize hW1:wr.alloc (.cells #[.string (str s.name),.string (str s.parent),.int .i64 s.kind,.bool s.lease,.slice x s.layer.length cc] 37)=W1 at *;clear hW1;refine (zr3 _ c l.length l s x cc W1 (HR.out.below HW1.out) HRL.out rfl hl HNE.out HNS.out).mono ?_;rintro r w4 ⟨rfl,hb4⟩;have HW3:=aA (aB HW1.out hb4);clear hb4;by_cases hz:eS l s=0
     ·have HO:=aA (zi9 HK.out HX.out hz)
      rw[hz];clear hz;go_wp2_with fail
      go_roundw
      case rel=>exact ⟨k+1,by omega,by go_num,HO,HW3⟩
      case measure=>simp[intOf];omega
     ·have HO:=aA (zub HK.out HX.out hz)
      have hz2:(eS l s != 0)=true:=by simp;exact hz
      clear hz;go_wp2_with fail
      go_ret
      exact ⟨aO HO.out.symm,HW3.out⟩
    ·have HO:=aA (zvb HK.out (by omega))
     go_wp2_with fail
     go_ret
     exact ⟨aO HO.out.symm,HW.out⟩
theorem zw1 {l:List Sn} {k:Nat} {s:Sn} {F:Int} (h:F=jE (eO l k) (l.drop k)) (hs:l[k]?=some s) (h0:nD (eO l k) s=0):F=jE (eO l (k+1)) (l.drop (k+1)):=by
 rw[h,eG hs,jE,if_pos h0];show jE (some s) _=jE l[k]? _
 rw[hs]
theorem pW {l:List Sn} {k:Nat} {s:Sn} {F:Int} (h:F=jE (eO l k) (l.drop k)) (hs:l[k]?=some s) (h0:nD (eO l k) s≠0):F=nD (eO l k) s:=by
 rw[h,eG hs,jE,if_neg h0]
theorem zvg {l:List Sn} {k:Nat} {F:Int} (h:F=jE (eO l k) (l.drop k)) (hk:l.length≤k):F=0:=by
 rw[h,List.drop_eq_nil_of_le hk,jE]
theorem zN:∀ {l:List Sn} {prev:Option Sn},jE prev l=0→∀ s∈l,fW s.name=true
 | [],_,_,s,hs=>by simp at hs
 | x :: r,prev,h,s,hs=>by
  unfold jE at h;by_cases h0:nD prev x=0
  ·rw[if_pos h0]at h
   rcases List.mem_cons.1 hs with rfl | hs
   ·unfold nD at h0
    by_cases hn:fW s.name=true
    ·exact hn
    ·rw[if_neg hn]at h0;exact absurd h0 (by decide)
   ·exact zN h s hs
  ·rw[if_neg h0]at h;exact absurd h h0
theorem yA {l r:List Sn} {k:Nat} {s:Sn} {F:Int} (h:F=iV l (r.drop k)) (hs:r[k]?=some s) (h0:kN l s=0):F=iV l (r.drop (k+1)):=by
 rw[h,eG hs,iV,if_pos h0]
theorem tM {l r:List Sn} {k:Nat} {s:Sn} {F:Int} (h:F=iV l (r.drop k)) (hs:r[k]?=some s) (h0:kN l s≠0):F=kN l s:=by
 rw[h,eG hs,iV,if_neg h0]
theorem ztb {l r:List Sn} {k:Nat} {F:Int} (h:F=iV l (r.drop k)) (hk:r.length≤k):F=0:=by
 rw[h,List.drop_eq_nil_of_le hk,iV]
theorem zs4 {p:Option Sn} {s:Sn} (h:fW s.name=false):nD p s=5:=by unfold nD;rw[h];rfl
theorem zr4 {p:Option Sn} {s:Sn} (h:fW s.name=true) (h2:((s.kind==1||s.kind==2)&&!lwQ p s)=false):nD p s=1:=by unfold nD;rw[h,h2];rfl
theorem zj8 {p:Option Sn} {s:Sn} (h:fW s.name=true) (hk:(s.kind==1||s.kind==2)=true) (hl:lwQ p s=false):nD p s=cJ s.layer:=by unfold nD;rw[h,hk,hl];rfl
theorem zsm (k:Int) (w:World):Calls Tryz.prog 32 #[.int .i64 k,.int .i64 1,.int .i64 2] w fun r w'=>r=.returned (.bool (k==1||k==2))∧w'=w:=by
 by_cases h:1≤k∧k≤2
 ·have e:(k==1||k==2)=true:=by
                       have:k=1∨k=2:=by omega
                       rcases this with rfl | rfl <;> rfl
  rw[e];exact nC k 1 2 w h.1 h.2
 ·have e:(k==1||k==2)=false:=by
   have h1:k≠1:=by omega
   have h2:k≠2:=by omega
   simp[h1,h2]
  rw[e];exact tT k 1 2 w (by omega)
theorem iO (a:Option Addr) (c n:Nat) (l:List Sn) (w:World) (h:RdS w a l) (hn:n=l.length) (hl:l.length≤1048576) (hs:cD l) :
  Calls Tryz.prog 31 #[.slice a n c] w fun r w'=>r=.returned (.int .i64 (snM l))∧Below w.heap.size w w':=by
 subst hn;obtain ⟨F,hF⟩:∃ F:Int,F=snM l:=⟨_,rfl⟩;rw[←hF];by_cases hm:10<l.length
 ·have HE:=aA (show F=2 by rw[hF];unfold snM;rw[if_pos hm])
  have hm':(10:Int)<(l.length:Int):=by omega
  clear hF hm h hs;go_enter Tryz.func31,Tryz.ntmps31;go_wp2_with fail
  go_ret
  exact ⟨aO HE.out.symm,Below.refl _ _⟩
 obtain ⟨H,hH⟩:∃ H:Int,H=jE none l:=⟨_,rfl⟩;have HF:=aA (show F=if H=0 then iV l l else H by rw[hF,hH];unfold snM;rw[if_neg hm])
 have HH:=aA (show H=jE (eO l 0) (l.drop 0) by rw[hH];rfl)
 have HNM:=aA (show H=0→∀ s∈l,s.name≠[] from fun h0 s hs=>gQ (zN (hH ▸ h0) s hs))
 have HR:=aA h;have HS:=aA hs;have hm':¬ (10:Int)<(l.length:Int):=by omega
 clear hF hH hm h hs;go_enter Tryz.func31,Tryz.ntmps31;go_wp2_with fail
 go_loopw [3] (fun i wr=>∃ k:Nat,k≤l.length∧i=.int .i64 k∧Hid (H=jE (eO l k) (l.drop k))∧Hid (Below w.heap.size w wr)) (fun i _=>l.length - (intOf i).toNat)
 case atStart=>exact ⟨0,Nat.zero_le _,rfl,HH,aA (Below.refl _ _)⟩
 case round =>
  obtain ⟨k,hk,rfl,HK,HW⟩:=hrel;by_cases hlt:k<l.length
  ·obtain ⟨b,off,s,x,cc,rfl,hb,hsl,c0,c1,c2,c3,c4,hr⟩:=(HR.out.below HW.out).at hlt
   have HX:=aA hsl;have hsm:=HS.out.2 s (List.mem_of_getElem? hsl);have HSM:=aA hsm.2.2.2;have HRL:=aA hr;have hl1:=hsm.1;have hl2:=hsm.2.2.1;clear hsl hr hsm;go_wp2_with fail
   refine (tC s.name _ hl1).mono ?_;rintro r w1 ⟨rfl,hw1⟩;subst hw1;cases hnm:fW s.name
   ·have HO:=aA (pW HK.out HX.out (by rw[zs4 hnm];decide))
    have HO2:=aA (show F=5 by rw[HF.out,HO.out,zs4 hnm];rfl)
    clear hnm;go_wp2_with fail
    go_ret
    exact ⟨aO HO2.out.symm,HW.out⟩
   ·have HNK:=aA hnm
    have HKD:=aA (fun u=>zsm s.kind u)
    cases hkd:(s.kind==1||s.kind==2)
    ·have H1:=aA (zr4 (p:=eO l k) HNK.out (by rw[hkd];rfl))
     have HO:=aA (pW HK.out HX.out (by rw[H1.out];decide))
     have HO2:=aA (show F=1 by rw[HF.out,HO.out,H1.out];rfl)
     rw[hkd]at HKD;clear hnm hkd;go_wp2_with fail
     go_quiet ((go_at_call 32;exact Calls.quiet_of ((HKD.out _).mono (fun e w' ⟨he,hw⟩=>⟨he,0,hw⟩))))
     go_wp2_with fail
     go_ret
     exact ⟨aO HO2.out.symm,below_drewN HW.out _⟩
    ·have HKK:=aA hkd
     rw[hkd]at HKD;clear hnm hkd;cases k with
     | zero =>
      have HL:=aA (show lwQ (eO l 0) s=false from rfl)
      go_wp2_with fail
      go_quiet ((go_at_call 32;exact Calls.quiet_of ((HKD.out _).mono (fun e w' ⟨he,hw⟩=>⟨he,0,hw⟩))))
      have HW2:=aA (below_drewN HW.out nq);have HRL2:=aA (HRL.out.below (below_drewN (Below.refl _ _) nq));obtain ⟨b3,off3,s3,x3,cc3,hbb3,hb3,hs3,g0,g1,g2,g3,g4,-⟩:=(HR.out.below HW2.out).at hlt;simp only[Option.some.injEq,Addr.mk.injEq,and_true]at hbb3;obtain ⟨rfl,rfl⟩:=hbb3;have hs33:s3=s:=by rw[HX.out]at hs3;exact (Option.some.inj hs3).symm
      subst hs33;have hx3:Value.slice x3 s3.layer.length cc3=Value.slice x s3.layer.length cc:=by
       have h8:=(below_drewN (Below.refl w1.heap.size w1) nq).cell (p:=⟨b,off+0 * 5+4,none⟩) hb;rw[g4,c4]at h8;exact Option.some.inj h8
      simp only[Value.slice.injEq,true_and]at hx3;obtain ⟨rfl,rfl⟩:=hx3;clear c0 c1 c2 c3 c4 hs3;generalize World.drewN _ nq=W at *;go_wp2_with fail
      refine (mP x3 cc3 s3.layer.length s3.layer W HRL2.out rfl hl2 HSM.out).mono ?_;rintro r w4 ⟨rfl,hb4⟩;have HW3:=aA (aB HW2.out hb4);have H1:=aA (zj8 HNK.out HKK.out HL.out);clear hb4;by_cases hz:cJ s3.layer=0
      ·have HO:=aA (zw1 HK.out HX.out (by rw[H1.out,hz]))
       rw[hz];clear hz;go_wp2_with fail
       go_roundw
       case rel=>exact ⟨1,by omega,by go_num,HO,HW3⟩
       case measure=>simp[intOf];omega
      ·have HO:=aA (pW HK.out HX.out (by rw[H1.out];exact hz))
       have HO2:=aA (show F=cJ s3.layer by rw[HF.out,HO.out,H1.out,if_neg hz])
       have hz2:(cJ s3.layer != 0)=true:=by simp;exact hz
       clear hz;go_wp2_with fail
       go_ret
       exact ⟨aO HO2.out.symm,HW3.out⟩
     | succ j =>
      have hg:(0:Int)<((j+1:Nat):Int):=by omega
      obtain ⟨b2,off2,s2,x2,cc2,hbb,hb2,hs2,d0,d1,d2,d3,d4,hr2⟩:=(HR.out.below HW.out).at (show j<l.length by omega)
      simp only[Option.some.injEq,Addr.mk.injEq,and_true]at hbb;obtain ⟨rfl,rfl⟩:=hbb;have HL:=aA (show lwQ (eO l (j+1)) s=(Op.bytesLess s.name s2.name||(s.name==s2.name)) from by simp[eO,lwQ,hs2])
      clear hs2 d1 d2 d3 d4 hr2;cases hlow:(Op.bytesLess (str s.name).toList (str s2.name).toList||((str s.name).toList==(str s2.name).toList))
      ·have HL2:=aA (show lwQ (eO l (j+1)) s=false from by rw[HL.out];rw[aN,aN]at hlow;exact hlow)
       go_wp2_with fail
       go_quiet ((go_at_call 32;exact Calls.quiet_of ((HKD.out _).mono (fun e w' ⟨he,hw⟩=>⟨he,0,hw⟩))))
       clear d0;have HW2:=aA (below_drewN HW.out nq);have HRL2:=aA (HRL.out.below (below_drewN (Below.refl _ _) nq));obtain ⟨b3,off3,s3,x3,cc3,hbb3,hb3,hs3,g0,g1,g2,g3,g4,-⟩:=(HR.out.below HW2.out).at hlt;simp only[Option.some.injEq,Addr.mk.injEq,and_true]at hbb3;obtain ⟨rfl,rfl⟩:=hbb3;have hs33:s3=s:=by rw[HX.out]at hs3;exact (Option.some.inj hs3).symm
       subst hs33;have hx3:Value.slice x3 s3.layer.length cc3=Value.slice x s3.layer.length cc:=by
        have h8:=(below_drewN (Below.refl w1.heap.size w1) nq).cell (p:=⟨b,off+(j+1) * 5+4,none⟩) hb;rw[g4,c4]at h8;exact Option.some.inj h8
       simp only[Value.slice.injEq,true_and]at hx3;obtain ⟨rfl,rfl⟩:=hx3;clear c0 c1 c2 c3 c4 hs3;generalize World.drewN _ nq=W at *;go_wp2_with fail
       refine (mP x3 cc3 s3.layer.length s3.layer W HRL2.out rfl hl2 HSM.out).mono ?_;rintro r w4 ⟨rfl,hb4⟩;have HW3:=aA (aB HW2.out hb4);have H1:=aA (zj8 HNK.out HKK.out HL2.out);clear hb4;by_cases hz:cJ s3.layer=0
       ·have HO:=aA (zw1 HK.out HX.out (by rw[H1.out,hz]))
        rw[hz];clear hz;go_wp2_with fail
        go_roundw
        case rel=>exact ⟨j+1+1,by omega,by go_num,HO,HW3⟩
        case measure=>simp[intOf];omega
       ·have HO:=aA (pW HK.out HX.out (by rw[H1.out];exact hz))
        have HO2:=aA (show F=cJ s3.layer by rw[HF.out,HO.out,H1.out,if_neg hz])
        have hz2:(cJ s3.layer != 0)=true:=by simp;exact hz
        clear hz;go_wp2_with fail
        go_ret
        exact ⟨aO HO2.out.symm,HW3.out⟩
      ·have HL2:=aA (show lwQ (eO l (j+1)) s=true from by rw[HL.out];rw[aN,aN]at hlow;exact hlow)
       have H1:=aA (zr4 (p:=eO l (j+1)) HNK.out (by rw[HL2.out,Bool.not_true,Bool.and_false]))
       have HO:=aA (pW HK.out HX.out (by rw[H1.out];decide))
       have HO2:=aA (show F=1 by rw[HF.out,HO.out,H1.out];rfl)
       go_wp2_with fail
       go_quiet ((go_at_call 32;exact Calls.quiet_of ((HKD.out _).mono (fun e w' ⟨he,hw⟩=>⟨he,0,hw⟩))))
       go_wp2_with fail
       go_ret
       exact ⟨aO HO2.out.symm,below_drewN HW.out _⟩
  ·have h0:=zvg HK.out (by omega)
   have HNE:=aA (HNM.out h0);have HFS:=aA (show F=iV l (l.drop 0) by rw[HF.out,if_pos h0];rfl)
   clear h0 HK HNM HF HH;have hke:k=l.length:=by omega
   clear hlt hk;subst hke;go_wp2_with fail
   go_loopw [5] (fun i wr2=>∃ k:Nat,k≤l.length∧i=.int .i64 k∧Hid (F=iV l (l.drop k))∧Hid (Below w.heap.size w wr2)) (fun i _=>l.length - (intOf i).toNat)
   case atStart=>exact ⟨0,Nat.zero_le _,rfl,HFS,HW⟩
   case round =>
    clear HW
    rename_i wr2
    obtain ⟨k,hk,rfl,HK,HW⟩:=hrel;by_cases hlt:k<l.length
    ·obtain ⟨b,off,s,x,cc,rfl,hb,hsl,c0,c1,c2,c3,c4,hr⟩:=(HR.out.below HW.out).at hlt
     have HX:=aA hsl;clear hsl hr;by_cases hp:s.parent=[]
     ·have hpe:(str s.parent).toList.isEmpty=true:=by rw[hp,aN];rfl
      have HO:=aA (yA HK.out HX.out (by unfold kN;rw[if_pos hp]))
      clear hp;go_wp2_with fail
      go_roundw
      case rel=>exact ⟨k+1,by omega,by go_num,HO,HW⟩
      case measure=>simp[intOf];omega
     ·have hpe:(str s.parent).toList.isEmpty=false:=by
       rw[aN];cases hq:s.parent with | nil=>exact absurd hq hp | cons _ _=>rfl
      have HP:=aA hp;clear hp;go_wp2_with fail
      refine (iN _ c l.length l s.parent _ (HR.out.below HW.out) rfl hl).mono ?_;rintro r w4 ⟨rfl,hw4⟩;subst hw4;cases hpl:plS l s.parent with
      | none =>
       have HO:=aA (tM HK.out HX.out (by unfold kN;rw[if_neg HP.out,kD hpl];show (4:Int)≠0;decide))
       have HO2:=aA (show F=4 by rw[HO.out];unfold kN;rw[if_neg HP.out,kD hpl])
       clear hpl;simp only[dD];go_wp2_with fail
       go_ret
       exact ⟨aO HO2.out.symm,HW.out⟩
      | some j =>
       obtain ⟨q,hq,hat⟩:=oK hpl;have hjl:=(List.getElem?_eq_some_iff.1 hq).1;obtain ⟨b2,off2,e,x2,cc2,hbb,hb2,he,d0,d1,d2,d3,d4,hr2⟩:=(HR.out.below HW.out).at hjl;simp only[Option.some.injEq,Addr.mk.injEq,and_true]at hbb;obtain ⟨rfl,rfl⟩:=hbb;have heq:e=q:=by rw[hq]at he;exact (Option.some.inj he).symm
       subst heq;have HST:=aA (show kN l s=if e.kind=1 then 10 else if 4<fH l s.name then 2 else 0 by unfold kN;rw[if_neg HP.out,hat])
       have hj0:¬ (j:Int)<0:=by omega
       have hj1:(j:Int)<(l.length:Int):=by omega
       clear hpl hq hat he hr2;simp only[dD];by_cases hk1:e.kind=1
       ·have hkb:(e.kind==1)=true:=by simp[hk1]
        have HO:=aA (tM HK.out HX.out (by rw[HST.out,if_pos hk1];decide))
        have HO2:=aA (show F=10 by rw[HO.out,HST.out,if_pos hk1])
        clear hk1;go_wp2_with fail
        go_ret
        exact ⟨aO HO2.out.symm,HW.out⟩
       ·have hkb:(e.kind==1)=false:=by simp[hk1]
        have HST2:=aA (show kN l s=if 4<fH l s.name then 2 else 0 by rw[HST.out,if_neg hk1])
        clear hk1;go_wp2_with fail
        refine (pG _ c l.length l s.name _ (HR.out.below HW.out) rfl hl HNE.out).mono ?_;rintro r w5 ⟨rfl,hw5⟩;subst hw5;by_cases hdp:4<fH l s.name
        ·have hd':(4:Int)<(fH l s.name:Int):=by omega
         have HO:=aA (tM HK.out HX.out (by rw[HST2.out,if_pos hdp];decide))
         have HO2:=aA (show F=2 by rw[HO.out,HST2.out,if_pos hdp])
         clear hdp;go_wp2_with fail
         go_ret
         exact ⟨aO HO2.out.symm,HW.out⟩
        ·have hd':¬ (4:Int)<(fH l s.name:Int):=by omega
         have HO:=aA (yA HK.out HX.out (by rw[HST2.out,if_neg hdp]))
         clear hdp;go_wp2_with fail
         go_roundw
         case rel=>exact ⟨k+1,by omega,by go_num,HO,HW⟩
         case measure=>simp[intOf];omega
    ·have HO:=aA (ztb HK.out (by omega))
     go_wp2_with fail
     go_ret
     exact ⟨aO HO.out.symm,HW.out⟩
end Go.Proofs.YtolnlfnndnpiiaaGreat
