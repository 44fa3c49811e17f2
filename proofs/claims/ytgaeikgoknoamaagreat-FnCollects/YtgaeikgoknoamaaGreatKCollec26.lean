/-
  Texts put together: ColZ ColL ColM ColP ColQ ColD.
-/
import Derived.Test.YtgaeikgoknoamaaGreatKCollec25
import Derived.Test.YtgaeikgoknoamaaGreatKCollec9
import Derived.Test.YtgaeikgoknoamaaGreatKCollec8
import Derived.Test.YtgaeikgoknoamaaGreatKCollec12
import Derived.Test.YtgaeikgoknoamaaGreatKCollec2
import Derived.Lib.SliceRun
set_option linter.unusedVariables false
set_option maxHeartbeats 6400000
set_option maxRecDepth 100000
namespace Go.Proofs.YtgaeikgoknoamaaGreat
open Go.RowKit Go.Maps
attribute [local go_sem ↓] Go.wp_at_zero Go.wp_at_succ
def zme (w w':World) (l:List Sn) (av:Option Addr) (cv:Nat) (q:List Bs) (qv:Value):Prop :=
 oH l∧bW l∧l.length≤10∧GS w.heap.size w' (.slice av l.length cv) l∧bR w.heap.size w' qv q∧q.length≤21∧(∀ n∈q,n.length≤2)∧Below w.heap.size w w'
theorem zvc (a:Option Addr) (cap:Nat) (zs:List Int) (w:World) (h:aZ .u8 w a zs) (hu:U8 zs) (hl':zs.length≤1048576) :
  Calls Tryz.prog 27 #[.slice a zs.length cap] w fun r w'=>∃ (l:List Sn) (av:Option Addr) (cv:Nat) (q:List Bs) (qv:Value),r=.returned (.tuple #[.slice av l.length cv,qv])∧zme w w' l av cv q qv:=by
 obtain ⟨i1,ki,kz0,kz1,kz2⟩:=info_parts mI;have HR:=aA h;have HU:=aA hu;have hl:zs.length≤2097152:=by omega
 clear h hu;have hmk:∀ w:World,Sem.run Tryz.prog (Instr.makeSlice 25 (.int .i64 21) (.int .i64 21)) w=.ok (.slice (some ⟨w.heap.size,0,none⟩) 21 21) (w.alloc (.cells (madeCells #[.string ⟨#[]⟩] 21) 9)):=run_make_row' (P:=Tryz.prog) 25 9 (.string ⟨#[]⟩) 16 Tryz.underlying25 mI rfl .i64 .i64 21 (by omega) (by omega)
 go_enter Tryz.func27,Tryz.ntmps27;go_wp2_with fail
 refine (za4 a cap zs w HR.out).mono ?_;rintro r w1 ⟨rfl,s1,z1,b1⟩;have S1:=aA (show dH w1 w.heap.size zs 0 from ⟨0,by decide,by decide,s1⟩)
 have B1:=aA b1;have hw0:w.heap.size<w1.heap.size:=S1.out.lt;clear s1 b1 HR;obtain ⟨w0,hw0e⟩:∃ w0,w0=w.heap.size:=⟨_,rfl⟩;rw[←hw0e]at S1 hw0 ⊢;have HW0:=aA hw0e;clear hw0e;go_wp2_with fail
 refine (zuc w0 zs 0 w1 S1.out HU.out (by decide) hl).mono ?_
 rintro r w2 ⟨l,av,cv,rfl,hB⟩;have H2:=aA hB;have hs2:w1.heap.size≤w2.heap.size:=hB.kept.size;have hw2:w0<w2.heap.size:=by omega
 have H3:=aA (H2.out.src.below (aC w2 (.cells #[] 9)));have O3:=aA (World.ownsRow_made (base:=w2.heap.size) (e:=9) (size:=1) w2 #[] 0 (Nat.le_refl _) (Nat.zero_le _) rfl);have K3:=aA ((aE.refl (fun b=>b=w0) w2).alloc (.cells #[] 9))
 clear hB S1;go_wp2_with fail
 refine (eZ w0 zs _ 3 _ H3.out HU.out (by omega) (by decide) (by decide) hl).mono ?_
 rintro e w3 ⟨m0,rfl,hm0,s3,k3⟩;have H4:=aA s3;have O4:=aA (bR.kept (ps:=[]) O3.out k3 (fun b hb e=>by have:=(O3.out.lt b hb).1;omega))
 have K4:=aA (K3.out.trans k3);clear s3 k3 H3 O3 K3;have fin:∀ (u:World) (q:List Bs) (qv:Value) (T:Int),Hid (jQ w0 zs T w1 l av cv u)→Hid (bR w2.heap.size u qv q)→q.length≤21→Hid (∀ n∈q,n.length≤2)→zme w u l av cv q qv:=by
  intro u q qv T hH hO hq hn;have hw0e:=HW0.out;subst hw0e;exact ⟨hH.out.good,hH.out.small,hH.out.ten,hH.out.own.mono B1.out.size,hO.out.mono (by omega),hq,hn.out,B1.out.trans (hH.out.kept.below (B:=w.heap.size) B1.out.size (fun b hb e=>by omega))⟩
 have FIN:=aA fin;clear fin;go_wp2_with fail
 go_loopw [6,7] (fun v k wr=>∃ (q:List Bs) (m:Nat),k=.int .i64 m∧q.length+m=m0∧Hid (∀ n∈q,n.length≤2)∧Hid (bR w2.heap.size wr v q)∧Hid (dH wr w0 zs (30001+q.length))∧Hid (aE (fun b=>b=w0) w2 wr)) (fun _ k _=>(intOf k).toNat)
 case atStart=>exact ⟨[],m0,rfl,by simp,aA (by simp),O4,aA (by simpa using H4.out),K4⟩
 case round =>
  obtain ⟨q,m,rfl,hqm,HN,HO,HSr,HK⟩:=hrel;obtain ⟨va,vc,rfl⟩:=HO.out.shape;by_cases hm:0<m
  ·have hm':(0:Int)<(m:Int):=by omega
   have hm1:q.length+1≤maxLen:=by unfold maxLen;omega
   have hm2:(q.length+1) * 16≤140737488355328:=by omega
   go_wp2_with fail
   refine (ze0 w0 zs _ _ HSr.out HU.out (by omega) hl).mono ?_
   rintro e w5 ⟨x,rfl,hxl,s5,k5⟩;have S5:=aA s5;have K5:=aA (HK.out.trans k5);have HX:=aA hxl;have O5:=aA (HO.out.kept k5 (fun b hb e=>by have:=(HO.out.lt b hb).1;omega))
   have hsz:w2.heap.size≤w5.heap.size:=K5.out.size;clear s5 k5 hxl HSr HK HO;go_wp2_with (at_builtin;refine cH rfl (.tmp 19) (.tmp 22) 25 rfl w2.heap.size 9 i1 (.string ⟨#[]⟩) 1 16 Tryz.underlying25 ki kz0 kz1 kz2 rfl (by decide) _ _ _ rfl O5.out rfl rfl (by intro u hu;simp at hu;subst hu;rfl) hm1 hm2 hsz ?_;intro v' w6 hown6 hkept6;have O6:=aA (bR.snoc hown6 rfl);have K6:=aA hkept6;clear hown6 hkept6)
   go_roundw
   case rel=>exact ⟨q ++ [x],m - 1,by go_num,by simp;omega,aA (fun n hn=>by rcases List.mem_append.1 hn with h | h;exact HN.out n h;simp at h;rw[h];exact HX.out),O6,aA ((S5.out.kept K6.out (fun b hb e=>by have:=(O5.out.lt b e).1;omega)).mono (by simp;omega)),aA (K5.out.trans_own K6.out (fun b hb e=>by have:=(O5.out.lt b e).1;omega))⟩
   case measure=>simp[intOf];omega
  ·have hm':¬ (0:Int)<(m:Int):=by omega
   go_wp2_with fail
   refine (rP w0 zs _ 20 _ HSr.out HU.out (by omega) (by decide) (by decide) hl).mono ?_
   rintro e w5 ⟨b,rfl,s5,k5⟩;have H5:=aA (H2.out.keep hw0 (HK.out.trans k5) s5);have O5:=aA (HO.out.kept k5 (fun b hb e=>by have:=(HO.out.lt b hb).1;omega))
   have hsz:w2.heap.size≤w5.heap.size:=(HK.out.trans k5).size;clear s5 k5 HSr HK HO;cases b with
   | false =>
    go_wp2_with fail
    go_ret2
    exact ⟨l,av,cv,q,_,rfl,FIN.out _ _ _ _ H5 O5 (by omega) HN⟩
   | true =>
    have hcz:(madeCells #[Value.string ⟨#[]⟩] 21).toList=(List.replicate 21 ([]:Bs)).map vS:=by kernel_rfl
    have OM:=aA (World.ownsRow_lit (base:=w2.heap.size) (e:=9) (size:=1) w5 (madeCells #[.string ⟨#[]⟩] 21) 21 hsz (by decide) (by kernel_rfl))
    have H6:=aA (H5.out.below (aC w5 (.cells (madeCells #[.string ⟨#[]⟩] 21) 9)));go_wp2_with fail
    go_ret2
    exact ⟨l,av,cv,List.replicate 21 [],_,rfl,FIN.out _ _ _ _ H6 (aA (by unfold bR;rw[←hcz];exact OM.out)) (by simp) (aA (by intro n hn;rw[List.eq_of_mem_replicate hn];simp))⟩
theorem tS (a:Option Addr) (cap:Nat) (zs:List Int) (w:World) (h:aZ .u8 w a zs) (hu:U8 zs) (hl':zs.length≤1048576) :
  Calls Tryz.prog 6 #[.slice a zs.length cap] w fun r w'=>∃ (l:List Sn) (av:Option Addr) (cv:Nat) (q:List Bs) (qa:Option Addr) (qc:Nat),r=.returned (.tuple #[.slice av l.length cv,.slice qa q.length qc])∧zme w w' l av cv q (.slice qa q.length qc):=by
 have HR:=aA h;have HU:=aA hu;clear h hu;go_enter Tryz.func6,Tryz.ntmps6;go_wp2_with fail
 refine (zvc a cap zs w HR.out HU.out hl').mono ?_;rintro r w1 ⟨l,av,cv,q,qv,rfl,hD⟩;obtain ⟨qa,qc,rfl⟩:=hD.2.2.2.2.1.shape;have HD:=aA hD;clear hD;go_wp2_with fail
 go_ret2
 exact ⟨l,av,cv,q,qa,qc,rfl,HD.out⟩
end Go.Proofs.YtgaeikgoknoamaaGreat
namespace Go.Proofs.YtgaeikgoknoamaaGreat
def dN (R:List Bs) (s:Sn):Bool:=s.lease||s.kind==1||decide (s.name∈R)
def pM (l:List Sn) (R:List Bs) (s:Sn):Prop:=∃ h∈l,dN R h=true∧s∈aI l 5 (some h)
def dA (l:List Sn) (R:List Bs) (s:Sn):Bool:=l.any fun h=>dN R h&&(aI l 5 (some h)).any fun x=>x.name==s.name
def bX (l:List Sn) (R:List Bs):List Sn:=l.filter (dA l R)
def kE (l:List Sn) (R:List Bs):List Sn:=l.filter fun s=>!dA l R s
theorem zbe {l:List Sn} (hr:eD l) {x s:Sn} (hx:x∈l) (hs:s∈l) (h:x.name=s.name):x=s:=by
 have h1:=jX hr hx;rw[h,jX hr hs]at h1;exact (Option.some.inj h1).symm
theorem iS {l:List Sn} (hr:eD l) {R:List Bs} {s:Sn} (hs:s∈l):dA l R s=true↔pM l R s:=by
 unfold dA pM;simp only[List.any_eq_true,Bool.and_eq_true,beq_iff_eq];constructor
 ·rintro ⟨h,hh,h1,x,hx,hn⟩
  have hxl:=jP (l:=l) (f:=5) (o:=some h) (fun y hy=>by cases hy;exact hh) x hx
  have:=zbe hr hxl hs hn;subst this;exact ⟨h,hh,h1,hx⟩
 ·rintro ⟨h,hh,h1,hx⟩
  exact ⟨h,hh,h1,s,hx,rfl⟩
theorem ze8 {l:List Sn} {x p:Sn} (hp:atS l x.parent=some p):∀ (f:Nat) (o:Option Sn),(aI l f o).length<f→x∈aI l f o→p∈aI l f o
 | 0,o,h,hx=>by simp at h
 | f+1,none,h,hx=>by simp[aI]at hx
 | f+1,some s,h,hx=>by
  simp only[aI,List.length_cons,List.mem_cons]at h hx ⊢;rcases hx with rfl | hx
  ·rw[hp]at h ⊢
   cases f with
   | zero=>omega
   | succ f=>exact .inr (by simp[aI])
  ·exact .inr (ze8 hp f _ (by omega) hx)
theorem zid {l:List Sn} (h:aP l) {R:List Bs} {s p:Sn} (hs:pM l R s) (hp:atS l s.parent=some p):pM l R p:=by
 obtain ⟨x,hx,h1,h2⟩:=hs;exact ⟨x,hx,h1,ze8 hp 5 _ (by have:=h.line hx;omega) h2⟩
theorem qZ {l:List Sn} {R:List Bs} {s:Sn} (hs:s∈l) (h:dN R s=true):pM l R s:=⟨s,hs,h,by simp[aI]⟩
theorem zk4 {l:List Sn} {M:Sn→Prop} (hc:∀ s∈l,M s→∀ p,atS l s.parent=some p→M p):∀ (f:Nat) (o:Option Sn),(∀ s,o=some s→s∈l∧M s)→∀ x∈aI l f o,M x
 | 0,o,_,x,hx=>by simp[aI]at hx
 | f+1,none,_,x,hx=>by simp[aI]at hx
 | f+1,some s,h,x,hx=>by
  obtain ⟨h1,h2⟩:=h s rfl;simp only[aI,List.mem_cons]at hx;rcases hx with rfl | hx
  ·exact h2
  ·exact zk4 hc f _ (fun p hp=>⟨(bU hp).1,hc s h1 h2 p hp⟩) x hx
theorem zqa {l:List Sn} {R:List Bs} {M:Sn→Prop} (hh:∀ s∈l,dN R s=true→M s) (hc:∀ s∈l,M s→∀ p,atS l s.parent=some p→M p) {s:Sn} (hs:pM l R s):M s:=by
 obtain ⟨x,hx,h1,h2⟩:=hs;exact zk4 hc 5 _ (fun y hy=>by cases hy;exact ⟨hx,hh _ hx h1⟩) s h2
def pF (l:List Sn) (R:List Bs) (k:Nat) (s:Sn):Prop:=∃ h∈l,dN R h=true∧(aI l 5 (some h))[k]?=some s
theorem zb9 {l:List Sn} {R:List Bs} {s:Sn}:pF l R 0 s↔s∈l∧dN R s=true:=by
 unfold pF;constructor
 ·rintro ⟨h,hh,h1,h2⟩
  simp only[aI,List.getElem?_cons_zero,Option.some.injEq]at h2;subst h2;exact ⟨hh,h1⟩
 ·rintro ⟨h1,h2⟩
  exact ⟨s,h1,h2,by simp[aI]⟩
theorem zd1 {l:List Sn} {p:Sn}:∀ (f:Nat) (o:Option Sn) (k:Nat),(aI l f o)[k+1]?=some p→∃ s,(aI l f o)[k]?=some s∧atS l s.parent=some p
 | 0,o,k,h=>by simp[aI]at h
 | f+1,none,k,h=>by simp[aI]at h
 | f+1,some s,k,h=>by
  simp only[aI,List.getElem?_cons_succ]at h ⊢;cases k with
  | zero =>
   refine ⟨s,by simp,?_⟩
   cases hp:atS l s.parent with
   | none=>rw[hp,iC]at h;simp at h
   | some q =>
    rw[hp]at h;cases f with
    | zero=>simp[aI]at h
    | succ f=>simp only[aI,List.getElem?_cons_zero]at h;exact h
  | succ k =>
   obtain ⟨y,h1,h2⟩:=zd1 f _ k h;exact ⟨y,by simpa using h1,h2⟩
theorem za9 {l:List Sn} {R:List Bs} {k:Nat} {p:Sn} (h:pF l R (k+1) p):∃ s∈l,pF l R k s∧atS l s.parent=some p:=by
 obtain ⟨x,hx,h1,h2⟩:=h;obtain ⟨s,h3,h4⟩:=zd1 5 _ k h2;exact ⟨s,jP (l:=l) (f:=5) (o:=some x) (fun y hy=>by cases hy;exact hx) s (List.mem_of_getElem? h3),⟨x,hx,h1,h3⟩,h4⟩
theorem zr4 {l:List Sn} {R:List Bs} {s:Sn} (h:pM l R s):∃ k,k<5∧pF l R k s:=by
 obtain ⟨x,hx,h1,h2⟩:=h;obtain ⟨k,hk,he⟩:=List.mem_iff_getElem.1 h2;exact ⟨k,by have:=nY l 5 (some x);omega,x,hx,h1,by rw[List.getElem?_eq_getElem hk,he]⟩
theorem zz2 {l:List Sn} (hr:eD l) {q:Sn→Bool} {nm:Bs} {p:Sn}:atS (l.filter q) nm=some p↔atS l nm=some p∧q p=true:=by
 rw[rD (hr.sublist List.filter_sublist),rD hr,List.mem_filter];exact ⟨fun ⟨⟨a,b⟩,c⟩=>⟨⟨a,c⟩,b⟩,fun ⟨⟨a,c⟩,b⟩=>⟨⟨a,b⟩,c⟩⟩
theorem pY {l:List Sn} (hr:eD l) {q:Sn→Bool} (hq:∀ s∈l,q s=true→∀ p,atS l s.parent=some p→q p=true):∀ (f:Nat) (o:Option Sn),(∀ s,o=some s→s∈l∧q s=true)→aI (l.filter q) f o=aI l f o
 | 0,o,_=>by simp[aI]
 | f+1,none,_=>by simp[aI]
 | f+1,some s,h=>by
  obtain ⟨h1,h2⟩:=h s rfl;simp only[aI,List.cons.injEq,true_and];have he:atS (l.filter q) s.parent=atS l s.parent:=by
   cases hp:atS l s.parent with
   | none =>
    rw[iY]at hp ⊢;exact fun x hx=>hp x (List.mem_filter.1 hx).1
   | some p=>exact (zz2 hr).2 ⟨hp,hq s h1 h2 p hp⟩
  rw[he];exact pY hr hq f _ (fun p hp=>⟨(bU hp).1,hq s h1 h2 p hp⟩)
theorem zxa {l:List Sn} (h:aP l) {q:Sn→Bool} (hq:∀ s∈l,q s=true→∀ p,atS l s.parent=some p→q p=true):aP (l.filter q):=by
 refine ⟨Nat.le_trans (List.length_filter_le ..) h.len,fun x hx=>h.own x (List.mem_filter.1 hx).1,h.rise.sublist List.filter_sublist,fun x hx=>?_⟩
 obtain ⟨h1,h2⟩:=List.mem_filter.1 hx;rcases h.stand x h1 with e | ⟨p,e1,e2,e3⟩
 ·exact .inl e
 ·refine .inr ⟨p,(zz2 h.rise).2 ⟨e1,hq x h1 h2 p e1⟩,e2,?_⟩
  rw[pY h.rise hq 5 _ (fun y hy=>by cases hy;exact ⟨h1,h2⟩)]
  exact e3
theorem zw8 {l:List Sn} (hr:eD l) {q:Sn→Bool} (hq:∀ s∈l,q s=true→∀ p,atS l s.parent=some p→q p=true) {s:Sn} (hs:s∈l) (h2:q s=true):dF (l.filter q) s=dF l s:=by
 unfold dF;rw[pY hr hq 5 _ (fun y hy=>by cases hy;exact ⟨hs,h2⟩)]
theorem pL {l:List Sn} (h:aP l) (R:List Bs):∀ s∈l,dA l R s=true→∀ p,atS l s.parent=some p→dA l R p=true:=fun s hs hl p hp =>
 (iS h.rise (bU hp).1).2 (zid h ((iS h.rise hs).1 hl) hp)
theorem sG {l:List Sn} (h:aP l) (R:List Bs):aP (bX l R):=zxa h (pL h R)
theorem zla {l:List Sn} (h:aP l) (R:List Bs) {s:Sn} (hs:s∈bX l R):dF (bX l R) s=dF l s:=by
 obtain ⟨h1,h2⟩:=List.mem_filter.1 hs;exact zw8 h.rise (pL h R) h1 h2
theorem zqh {l:List Sn} (h:aP l) (R:List Bs) {s:Sn} (hs:s∈bX l R):atS l s.name=some s∧atS (bX l R) s.name=some s :=
 ⟨jX h.rise (List.mem_filter.1 hs).1,jX (sG h R).rise hs⟩
theorem zka {l:List Sn} (h:aP l) (R:List Bs):bX (bX l R) R=bX l R:=by
 refine List.filter_eq_self.2 fun s hs=>?_
 rw[iS (sG h R).rise hs];obtain ⟨h1,h2⟩:=List.mem_filter.1 hs;obtain ⟨x,hx,h3,h4⟩:=(iS h.rise h1).1 h2;have hxl:dA l R x=true:=(iS h.rise hx).2 (qZ hx h3);refine ⟨x,List.mem_filter.2 ⟨hx,hxl⟩,h3,?_⟩;unfold bX;rw[pY h.rise (pL h R) 5 _ (fun y hy=>by cases hy;exact ⟨hx,hxl⟩)]
 exact h4
theorem yM {α:Type} (q:α→Bool):∀ l:List α,(l.filter q).length+(l.filter fun x=>!q x).length=l.length
 | []=>rfl
 | x :: r=>by
  have:=yM q r;cases hx:q x <;> simp[hx] <;> omega
theorem zad (l:List Sn) (R:List Bs):(bX l R).length+(kE l R).length=l.length:=yM _ l
def cV (l:List Sn):List Int:=l.foldl (fun acc s=>(dU (eF s.layer)).foldl dW acc) []
theorem tP (l:List Sn) (s:Sn):cV (l ++ [s])=(dU (eF s.layer)).foldl dW (cV l):=by simp[cV]
theorem yU {l:List Sn} (hr:eD l) {i j:Nat} {x y:Sn} (hi:l[i]?=some x) (hj:l[j]?=some y) (h:x.name=y.name):i=j:=by
 obtain ⟨hil,rfl⟩:=List.getElem?_eq_some_iff.1 hi;obtain ⟨hjl,rfl⟩:=List.getElem?_eq_some_iff.1 hj;have hp:=List.pairwise_iff_getElem.1 hr;rcases Nat.lt_trichotomy i j with hlt | he | hlt
 ·have:=hp i j hil hjl hlt
  rw[h,fR]at this;cases this
 ·exact he
 ·have:=hp j i hjl hil hlt
  rw[h,fR]at this;cases this
structure yH (l:List Sn) (R:List Bs) (M:Nat→Bool):Prop where
 held:∀ i s,l[i]?=some s→dN R s=true→M i=true
 live:∀ i s,l[i]?=some s→M i=true→dA l R s=true
 out:∀ i,l.length≤i→M i=false
def zr5 (l:List Sn) (M:Nat→Bool) (s:Sn):Prop:=∀ j,plS l s.parent=some j→M j=true
def iM (M:Nat→Bool) (k:Nat) (v:Bool):Nat→Bool:=fun i=>if i=k then v else M i
theorem oA (M:Nat→Bool) (k:Nat) (v:Bool):iM M k v k=v:=by simp[iM]
theorem pA {M:Nat→Bool} {k i:Nat} (h:M i=true):iM M k true i=true:=by
 unfold iM;split <;> simp[h]
theorem zie {l:List Sn} {M:Nat→Bool} {s:Sn} {k:Nat} (h:zr5 l M s):zr5 l (iM M k true) s:=fun j hj=>pA (h j hj)
theorem zjc {l:List Sn} (hR:aP l) {R:List Bs} {M:Nat→Bool} (h:yH l R M) {i j:Nat} {s:Sn} (hi:l[i]?=some s) (hm:M i=true) (hj:plS l s.parent=some j):yH l R (iM M j true):=by
 obtain ⟨p,hp,hat⟩:=gW hj;refine ⟨fun k x hx hh=>pA (h.held k x hx hh),fun k x hx hk=>?_,fun k hk=>?_⟩
 ·unfold iM at hk
  by_cases hkj:k=j
  ·subst hkj
   rw[hp]at hx;obtain rfl:=Option.some.inj hx;exact pL hR R s (List.mem_of_getElem? hi) (h.live i s hi hm) p hat
  ·rw[if_neg hkj]at hk
   exact h.live k x hx hk
 ·unfold iM
  have hjl:=(List.getElem?_eq_some_iff.1 hp).1;rw[if_neg (by omega)]
  exact h.out k hk
structure rC (l:List Sn) (R:List Bs) (M F:Nat→Bool):Prop where
 good:yH l R M
 sub:∀ i,F i=true→M i=true
 all:∀ i s,l[i]?=some s→M i=true→F i=true∨zr5 l M s
structure iO (l:List Sn) (R:List Bs) (C M F:Nat→Bool) (k:Nat):Prop where
 good:yH l R M
 sub:∀ i,F i=true→M i=true
 sub2:∀ i,C i=true→M i=true
 all:∀ i s,l[i]?=some s→M i=true→(C i=true∧k≤i)∨F i=true∨zr5 l M s
theorem iO.start {l:List Sn} {R:List Bs} {M F:Nat→Bool} (h:rC l R M F):iO l R F M (fun _=>false) 0 :=
 ⟨h.good,(fun i hi=>by cases hi),h.sub,fun i s hi hm=>by
  rcases h.all i s hi hm with h1 | h1
  ·exact .inl ⟨h1,Nat.zero_le _⟩
  ·exact .inr (.inr h1)⟩
theorem iO.stop {l:List Sn} {R:List Bs} {C M F:Nat→Bool} {k:Nat} (h:iO l R C M F k) (hk:l.length≤k):rC l R M F :=
 ⟨h.good,h.sub,fun i s hi hm=>by
  rcases h.all i s hi hm with ⟨-,h1⟩ | h1
  ·have:=(List.getElem?_eq_some_iff.1 hi).1
   omega
  ·exact h1⟩
theorem iO.next {l:List Sn} {R:List Bs} {C M F:Nat→Bool} {k:Nat} {s:Sn} (h:iO l R C M F k) (hs:l[k]?=some s) (hd:C k=true→zr5 l M s):iO l R C M F (k+1) :=
 ⟨h.good,h.sub,h.sub2,fun i x hi hm=>by
  rcases h.all i x hi hm with ⟨h1,h2⟩ | h1
  ·by_cases he:i=k
   ·subst he
    rw[hs]at hi;obtain rfl:=Option.some.inj hi;exact .inr (.inr (hd h1))
   ·exact .inl ⟨h1,by omega⟩
  ·exact .inr h1⟩
theorem iO.mark {l:List Sn} (hR:aP l) {R:List Bs} {C M F:Nat→Bool} {k j:Nat} {s:Sn} (h:iO l R C M F k) (hs:l[k]?=some s) (hc:C k=true) (hj:plS l s.parent=some j):iO l R C (iM M j true) (iM F j true) (k+1):=by
 have g:=zjc hR h.good hs (h.sub2 k hc) hj;refine ⟨g,fun i hi=>?_,fun i hi=>pA (h.sub2 i hi),fun i x hi hm=>?_⟩
 ·unfold iM at hi ⊢
  by_cases he:i=j
  ·rw[if_pos he]
  ·rw[if_neg he]at hi ⊢
   exact h.sub i hi
 ·by_cases he:i=j
  ·subst he
   exact .inr (.inl (oA _ _ _))
  ·have hm':M i=true:=by unfold iM at hm;rwa [if_neg he]at hm
   rcases h.all i x hi hm' with ⟨h1,h2⟩ | h1 | h1
   ·by_cases hk:i=k
    ·subst hk
     rw[hs]at hi;obtain rfl:=Option.some.inj hi;refine .inr (.inr fun q hq=>?_)
     rw[hj]at hq;obtain rfl:=Option.some.inj hq;exact oA _ _ _
    ·exact .inl ⟨h1,by omega⟩
   ·exact .inr (.inl (pA h1))
   ·exact .inr (.inr (zie h1))
theorem rC.done {l:List Sn} (hR:aP l) {R:List Bs} {M F:Nat→Bool} (h:rC l R M F) (hF:∀ i,F i=false):∀ i s,l[i]?=some s→M i=dA l R s:=by
 intro i s hi;have hsl:=List.mem_of_getElem? hi;have key:dA l R s=true→M i=true:=by
  intro hl;refine zqa (M:=fun x=>∀ j,l[j]?=some x→M j=true) (fun x hx hh j hj=>h.good.held j x hj hh) ?_ ((iS hR.rise hsl).1 hl) i hi
  intro x hx hmx p hp j hj;obtain ⟨q,hq⟩:=List.mem_iff_getElem?.1 hx;rcases h.all q x hq (hmx q hq) with h1 | h1
  ·rw[hF q]at h1;cases h1
  ·cases hpl:plS l x.parent with
   | none=>rw[fZ hpl]at hp;cases hp
   | some r =>
    obtain ⟨y,hy,hat⟩:=gW hpl;rw[hp]at hat;obtain rfl:=Option.some.inj hat;have:=yU hR.rise hj hy rfl;subst this;exact h1 j hpl
 cases hm:M i with
 | true=>exact (h.good.live i s hi hm).symm
 | false =>
  cases hl:dA l R s with
  | false=>rfl
  | true=>rw[key hl]at hm;cases hm
def mL (M:Nat→Bool):Nat:=((List.range 10).filter fun i=>!M i).length
theorem zyf (M:Nat→Bool):mL M≤10:=by
 unfold mL;exact Nat.le_trans (List.length_filter_le ..) (by simp)
theorem zjd {M:Nat→Bool} {j:Nat} (hj:j<10) (h:M j=false):mL (iM M j true)+1=mL M:=by
 have key:∀ l:List Nat,l.Nodup→j∈l→(l.filter fun i=>!iM M j true i).length+1=(l.filter fun i=>!M i).length:=by
  intro l
  induction l with
  | nil=>intro _ hm;cases hm
  | cons x r ih =>
   intro hn hm;obtain ⟨h1,h2⟩:=List.nodup_cons.1 hn;by_cases hx:x=j
   ·subst hx
    have e:r.filter (fun i=>!iM M x true i)=r.filter fun i=>!M i:=by
     refine List.filter_congr fun i hi=>?_
     have:i≠x:=fun e=>h1 (e ▸ hi)
     simp[iM,this]
    simp[oA,h,e]
   ·have hm2:j∈r:=by
     rcases List.mem_cons.1 hm with e | e
     ·exact absurd e.symm hx
     ·exact e
    have e:iM M j true x=M x:=by simp[iM,hx]
    have:=ih h2 hm2;cases hmx:M x <;> simp[e,hmx] <;> omega
 exact key _ List.nodup_range (by simpa using hj)
end Go.Proofs.YtgaeikgoknoamaaGreat
namespace Go.Proofs.YtgaeikgoknoamaaGreat
open Go.RowKit Go.Maps
attribute [local go_sem ↓] Go.wp_at_zero Go.wp_at_succ
def Ten (w:World) (b:Nat) (M:Nat→Bool):Prop:=w.cell? ⟨b,0,none⟩=some (.bool (M 0))∧w.cell? ⟨b,1,none⟩=some (.bool (M 1))∧w.cell? ⟨b,2,none⟩=some (.bool (M 2))∧w.cell? ⟨b,3,none⟩=some (.bool (M 3))∧w.cell? ⟨b,4,none⟩=some (.bool (M 4))∧w.cell? ⟨b,5,none⟩=some (.bool (M 5))∧w.cell? ⟨b,6,none⟩=some (.bool (M 6))∧w.cell? ⟨b,7,none⟩=some (.bool (M 7))∧w.cell? ⟨b,8,none⟩=some (.bool (M 8))∧w.cell? ⟨b,9,none⟩=some (.bool (M 9))
def eV (w:World) (b:Nat) (M:Nat→Bool):Prop:=Ten w b M∧∀ i,w.frozen? ⟨b,i,none⟩=false
theorem eV.lt {w:World} {b:Nat} {M:Nat→Bool} (h:eV w b M):b<w.heap.size:=World.block_lt_of_cell? w ⟨b,0,none⟩ h.1.1
theorem Ten.at {w:World} {b:Nat} {M:Nat→Bool} (h:Ten w b M) {k:Nat} (hk:k<10):w.cell? ⟨b,k,none⟩=some (.bool (M k)):=by
 obtain ⟨h0,h1,h2,h3,h4,h5,h6,h7,h8,h9⟩:=h
 match k,hk with
 | 0,_=>exact h0
 | 1,_=>exact h1
 | 2,_=>exact h2
 | 3,_=>exact h3
 | 4,_=>exact h4
 | 5,_=>exact h5
 | 6,_=>exact h6
 | 7,_=>exact h7
 | 8,_=>exact h8
 | 9,_=>exact h9
theorem Ten.of {w:World} {b:Nat} {M:Nat→Bool} (h:∀ k,k<10→w.cell? ⟨b,k,none⟩=some (.bool (M k))):Ten w b M :=
 ⟨h 0 (by decide),h 1 (by decide),h 2 (by decide),h 3 (by decide),h 4 (by decide),h 5 (by decide),h 6 (by decide),h 7 (by decide),h 8 (by decide),h 9 (by decide)⟩
theorem eV.kept {S:Nat→Prop} {w w':World} {b:Nat} {M:Nat→Bool} (h:eV w b M) (hk:aE S w w') (hn:¬ S b):eV w' b M :=
 ⟨Ten.of fun k h10=>(hk.cell (p:=⟨b,k,none⟩) h.lt hn).trans (h.1.at h10),fun i=>(hk.frozen (p:=⟨b,i,none⟩) h.lt hn).trans (h.2 i)⟩
theorem eV.below {w w':World} {b:Nat} {M:Nat→Bool} (h:eV w b M) (hk:Below w.heap.size w w'):eV w' b M:=h.kept (S:=fun _=>False) (aE.of_below hk) id
theorem eV.new (w:World) (M:Nat→Bool) (t:TypeId):eV (w.alloc (.cells #[.bool (M 0),.bool (M 1),.bool (M 2),.bool (M 3),.bool (M 4),.bool (M 5),.bool (M 6),.bool (M 7),.bool (M 8),.bool (M 9)] t)) w.heap.size M:=⟨⟨by simp,by simp,by simp,by simp,by simp,by simp,by simp,by simp,by simp,by simp⟩,fun i=>by simp⟩
def upM (M:Nat→Bool) (k:Nat) (v:Bool):Nat→Bool:=fun i=>if i=k then v else M i
theorem eV.set {w:World} {b:Nat} {M:Nat→Bool} (h:eV w b M) {k:Nat} (hk:k<10) (v:Bool):eV (w.setCell ⟨b,k,none⟩ (.bool v)) b (upM M k v):=by
 refine ⟨Ten.of fun i hi=>?_,fun i=>by rw[World.frozen?_setCell];exact h.2 i⟩
 unfold upM;by_cases he:i=k
 ·subst he
  rw[if_pos rfl];exact bK (h.1.at hk)
 ·rw[if_neg he]
  exact (aD (by intro e;injection e;omega)).trans (h.1.at hi)
theorem zef {l:List Sn} {f:Sn→Bool} {k:Nat} {s:Sn} (hs:l[k]?=some s) (h:l.findIdx? f=((l.drop k).findIdx? f).map (· + k)) (hn:f s=true):l.findIdx? f=some k:=by
 rw[h,dP hs,List.findIdx?_cons];simp[hn]
theorem zqc {l:List Sn} {f:Sn→Bool} {k:Nat} {s:Sn} (hs:l[k]?=some s) (h:l.findIdx? f=((l.drop k).findIdx? f).map (· + k)) (hn:f s=false):l.findIdx? f=((l.drop (k+1)).findIdx? f).map (· + (k+1)):=by
 rw[h,dP hs,List.findIdx?_cons,hn];cases (l.drop (k+1)).findIdx? f with
 | none=>rfl
 | some j=>simp;omega
theorem zdf {l:List Sn} {f:Sn→Bool} {k:Nat} (hk:l.length≤k) (h:l.findIdx? f=((l.drop k).findIdx? f).map (· + k)):l.findIdx? f=none:=by
 rw[h,List.drop_eq_nil_of_le hk];rfl
theorem zx9 (a:Option Addr) (c n:Nat) (l:List Sn) (fn:FuncId) (cap:Array Value) (f:Sn→Bool) (w0 w:World) (hb0:Below w0.heap.size w0 w) (h:RdS w0 a l) (hn:n=l.length) (hl:l.length≤1048576) (hf:zs2 w fn cap f) :
  Calls Tryz.prog 171 #[.slice a n c,.func (.func fn) #[] cap] w fun r w'=>r=.returned (.int .i64 (cD (l.findIdx? f)))∧Below w.heap.size w w':=by
 subst hn;have eg:=hf.1;have HF:=aA hf;have HR:=aA h;have HB0:=aA hb0;clear h hf hb0;go_enter Tryz.func171,Tryz.ntmps171;go_wp2_with fail
 go_loopw [8] (fun i wr=>∃ k:Nat,k≤l.length∧i=.int .i64 k∧Hid (l.findIdx? f=((l.drop k).findIdx? f).map (· + k))∧Hid (Below w.heap.size w wr)) (fun i _=>l.length - (intOf i).toNat)
 case atStart=>exact ⟨0,Nat.zero_le _,rfl,aA (by simp),aA (Below.refl _ _)⟩
 case round =>
  obtain ⟨k,hk,rfl,HA,HW⟩:=hrel;by_cases hlt:k<l.length
  ·have hlt':(k:Int)<(l.length:Int):=by omega
   obtain ⟨b,off,s,x,cc,rfl,hb,hs,c0,c1,c2,c3,c4,hr⟩:=(HR.out.below (aB HB0.out HW.out)).at hlt;have HX:=aA hs;clear hs hr;go_wp2_with fail
   refine (HF.out.2 s x cc _ HW.out).mono ?_;rintro r w3 ⟨rfl,hb3⟩;have BB3:=aA (aB HW.out hb3);clear hb3 c0 c1 c2 c3 c4;cases hq:f s
   ·have HN:=aA (zqc HX.out HA.out hq)
    go_wp2_with fail
    go_roundw
    case rel=>exact ⟨k+1,by omega,by go_num,HN,BB3⟩
    case measure=>simp[intOf];omega
   ·have HN:=aA (zef HX.out HA.out hq)
    go_wp2_with fail
    go_ret
    exact ⟨aO (by rw[HN.out];rfl),BB3.out⟩
  ·have hlt':¬ (k:Int)<(l.length:Int):=by omega
   have HN:=aA (zdf (by omega) HA.out)
   go_wp2_with fail
   go_ret
   exact ⟨aO (by rw[HN.out];rfl),HW.out⟩
theorem zg0 (p:Bs) (b:Nat) (s:Sn) (a:Option Addr) (c:Nat) (w:World) (h:w.cell? ⟨b,0,none⟩=some (.string (str p))) :
  Calls Tryz.prog 172 #[.agg #[.string (str s.name),.string (str s.parent),.int .i64 s.kind,.bool s.lease,.slice a s.layer.length c],.pointer (some ⟨b,0,none⟩)] w fun r w'=>r=.returned (.bool (s.name==p))∧Below w.heap.size w w':=by
 have hb:=World.block_lt_of_cell? w ⟨b,0,none⟩ h;have hs:=vT s.name p;have HZ:=aA (show (s.name==p)=decide (s.name=p) by by_cases h:s.name=p <;> simp[h])
 rw[HZ.out];clear HZ;generalize decide (s.name=p)=Z at *;have hbw:(w.alloc (.cells #[.string (str s.name),.string (str s.parent),.int .i64 s.kind,.bool s.lease,.slice a s.layer.length c] 42)).cell? ⟨b,0,none⟩=some (.string (str p)):=((aC w _).cell (p:=⟨b,0,none⟩) hb).trans h;go_enter Tryz.func172,Tryz.ntmps172;go_wp2_with fail
 go_ret
 exact ⟨rfl,aC _ _⟩
theorem zh7 (a:Option Addr) (c n:Nat) (l:List Sn) (nm:Bs) (w0 w:World) (hb0:Below w0.heap.size w0 w) (h:RdS w0 a l) (hn:n=l.length) (hl:l.length≤1048576) :
  Calls Tryz.prog 130 #[.slice a n c,.string (str nm)] w fun r w'=>r=.returned (.int .i64 (cD (l.findIdx? fun s=>s.name==nm)))∧Below w.heap.size w w':=by
 have hmf:∀ (fn:Fn) (first cap:Array Value) (w:World),(Instr.makeFunc fn first cap).run Tryz.prog w=.ok (.func fn first cap) w:=fun _ _ _ _=>rfl
 subst hn;have B0:=aA (aC w (.cells #[.string (str nm)] 9));have HA:Hid (zs2 (w.alloc (.cells #[.string (str nm)] 9)) 172 #[.pointer (some ⟨w.heap.size,0,none⟩)] (fun s=>s.name==nm)):=aA ⟨enters_of Tryz.func172 (by kernel_rfl) rfl,fun s a c w' hb =>
  zg0 nm w.heap.size s a c w' ((hb.cell (p:=⟨w.heap.size,0,none⟩) (by simp)).trans (by simp))⟩
 have HC:=aA (zx9 a c l.length l _ _ (fun s=>s.name==nm) w0 _ (aB hb0 B0.out) h rfl hl HA.out)
 clear h HA hb0;go_enter Tryz.func130,Tryz.ntmps130;go_wp2_with fail
 refine HC.out.mono ?_;rintro r w1 ⟨rfl,hb1⟩;have B1:=aA (aB B0.out hb1);clear hb1;go_wp2_with fail
 go_ret
 exact ⟨rfl,B1.out⟩
def fX (l:List Sn) (q:Sn→Bool):Nat→Bool:=fun i=>match l[i]? with | some s=>q s | none=>false
theorem jU {l:List Sn} {q:Sn→Bool} {i:Nat} {s:Sn} (h:l[i]?=some s):fX l q i=q s:=by unfold fX;rw[h]
theorem qY {l:List Sn} {q:Sn→Bool} {i:Nat} (h:l.length≤i):fX l q i=false:=by unfold fX;rw[List.getElem?_eq_none h]
def iN (l:List Sn) (q:Sn→Bool) (k:Nat):Nat→Bool:=fun i=>decide (i<k)&&fX l q i
theorem uM (l:List Sn) (q:Sn→Bool):iN l q 0=fun _=>false:=by funext i;simp[iN]
theorem uL {l:List Sn} {q:Sn→Bool} {k:Nat} {s:Sn} (h:l[k]?=some s):iN l q (k+1)=upM (iN l q k) k (q s):=by
 funext i
 unfold iN upM;by_cases he:i=k
 ·subst he
  rw[if_pos rfl,jU h];simp
 ·rw[if_neg he]
  congr 1
  rw[decide_eq_decide];omega
theorem wT {l:List Sn} {q:Sn→Bool} {k:Nat} (h:l.length≤k):iN l q k=fX l q:=by
 funext i
 unfold iN;by_cases hi:i<k
 ·simp[hi]
 ·rw[qY (l:=l) (q:=q) (i:=i) (by omega)]
  simp
def tK (M:Nat→Bool):Value:=.agg #[.bool (M 0),.bool (M 1),.bool (M 2),.bool (M 3),.bool (M 4),.bool (M 5),.bool (M 6),.bool (M 7),.bool (M 8),.bool (M 9)]
theorem Ten.set {w:World} {b:Nat} {M:Nat→Bool} (h:Ten w b M) (M2:Nat→Bool):Ten ((((((((((w.setCell ⟨b,0,none⟩ (.bool (M2 0))).setCell ⟨b,1,none⟩ (.bool (M2 1))).setCell ⟨b,2,none⟩ (.bool (M2 2))).setCell ⟨b,3,none⟩ (.bool (M2 3))).setCell ⟨b,4,none⟩ (.bool (M2 4))).setCell ⟨b,5,none⟩ (.bool (M2 5))).setCell ⟨b,6,none⟩ (.bool (M2 6))).setCell ⟨b,7,none⟩ (.bool (M2 7))).setCell ⟨b,8,none⟩ (.bool (M2 8))).setCell ⟨b,9,none⟩ (.bool (M2 9))) b M2:=by
 obtain ⟨h0,h1,h2,h3,h4,h5,h6,h7,h8,h9⟩:=h;have ne:∀ i j:Nat,i≠j→(⟨b,i,none⟩:Addr)≠⟨b,j,none⟩:=fun i j hij e=>hij (by injection e)
 refine ⟨?_,?_,?_,?_,?_,?_,?_,?_,?_,?_⟩
 ·exact (aD (ne 9 0 (by decide))).trans ((aD (ne 8 0 (by decide))).trans ((aD (ne 7 0 (by decide))).trans ((aD (ne 6 0 (by decide))).trans ((aD (ne 5 0 (by decide))).trans ((aD (ne 4 0 (by decide))).trans ((aD (ne 3 0 (by decide))).trans ((aD (ne 2 0 (by decide))).trans ((aD (ne 1 0 (by decide))).trans (bK (h0))))))))))
 ·exact (aD (ne 9 1 (by decide))).trans ((aD (ne 8 1 (by decide))).trans ((aD (ne 7 1 (by decide))).trans ((aD (ne 6 1 (by decide))).trans ((aD (ne 5 1 (by decide))).trans ((aD (ne 4 1 (by decide))).trans ((aD (ne 3 1 (by decide))).trans ((aD (ne 2 1 (by decide))).trans (bK ((aD (ne 0 1 (by decide))).trans (h1))))))))))
 ·exact (aD (ne 9 2 (by decide))).trans ((aD (ne 8 2 (by decide))).trans ((aD (ne 7 2 (by decide))).trans ((aD (ne 6 2 (by decide))).trans ((aD (ne 5 2 (by decide))).trans ((aD (ne 4 2 (by decide))).trans ((aD (ne 3 2 (by decide))).trans (bK ((aD (ne 1 2 (by decide))).trans ((aD (ne 0 2 (by decide))).trans (h2))))))))))
 ·exact (aD (ne 9 3 (by decide))).trans ((aD (ne 8 3 (by decide))).trans ((aD (ne 7 3 (by decide))).trans ((aD (ne 6 3 (by decide))).trans ((aD (ne 5 3 (by decide))).trans ((aD (ne 4 3 (by decide))).trans (bK ((aD (ne 2 3 (by decide))).trans ((aD (ne 1 3 (by decide))).trans ((aD (ne 0 3 (by decide))).trans (h3))))))))))
 ·exact (aD (ne 9 4 (by decide))).trans ((aD (ne 8 4 (by decide))).trans ((aD (ne 7 4 (by decide))).trans ((aD (ne 6 4 (by decide))).trans ((aD (ne 5 4 (by decide))).trans (bK ((aD (ne 3 4 (by decide))).trans ((aD (ne 2 4 (by decide))).trans ((aD (ne 1 4 (by decide))).trans ((aD (ne 0 4 (by decide))).trans (h4))))))))))
 ·exact (aD (ne 9 5 (by decide))).trans ((aD (ne 8 5 (by decide))).trans ((aD (ne 7 5 (by decide))).trans ((aD (ne 6 5 (by decide))).trans (bK ((aD (ne 4 5 (by decide))).trans ((aD (ne 3 5 (by decide))).trans ((aD (ne 2 5 (by decide))).trans ((aD (ne 1 5 (by decide))).trans ((aD (ne 0 5 (by decide))).trans (h5))))))))))
 ·exact (aD (ne 9 6 (by decide))).trans ((aD (ne 8 6 (by decide))).trans ((aD (ne 7 6 (by decide))).trans (bK ((aD (ne 5 6 (by decide))).trans ((aD (ne 4 6 (by decide))).trans ((aD (ne 3 6 (by decide))).trans ((aD (ne 2 6 (by decide))).trans ((aD (ne 1 6 (by decide))).trans ((aD (ne 0 6 (by decide))).trans (h6))))))))))
 ·exact (aD (ne 9 7 (by decide))).trans ((aD (ne 8 7 (by decide))).trans (bK ((aD (ne 6 7 (by decide))).trans ((aD (ne 5 7 (by decide))).trans ((aD (ne 4 7 (by decide))).trans ((aD (ne 3 7 (by decide))).trans ((aD (ne 2 7 (by decide))).trans ((aD (ne 1 7 (by decide))).trans ((aD (ne 0 7 (by decide))).trans (h7))))))))))
 ·exact (aD (ne 9 8 (by decide))).trans (bK ((aD (ne 7 8 (by decide))).trans ((aD (ne 6 8 (by decide))).trans ((aD (ne 5 8 (by decide))).trans ((aD (ne 4 8 (by decide))).trans ((aD (ne 3 8 (by decide))).trans ((aD (ne 2 8 (by decide))).trans ((aD (ne 1 8 (by decide))).trans ((aD (ne 0 8 (by decide))).trans (h8))))))))))
 ·exact bK ((aD (ne 8 9 (by decide))).trans ((aD (ne 7 9 (by decide))).trans ((aD (ne 6 9 (by decide))).trans ((aD (ne 5 9 (by decide))).trans ((aD (ne 4 9 (by decide))).trans ((aD (ne 3 9 (by decide))).trans ((aD (ne 2 9 (by decide))).trans ((aD (ne 1 9 (by decide))).trans ((aD (ne 0 9 (by decide))).trans (h9))))))))))
theorem zi2 (a:Option Addr) (c n:Nat) (l:List Sn) (ra:Option Addr) (rc rn:Nat) (rs:List Bs) (w:World) (h:RdS w a l) (hn:n=l.length) (hl:l.length≤10) (hr:aU w ra rs) (hrn:rn=rs.length) (hrl:rs.length≤1048576) :
  Calls Tryz.prog 129 #[.slice a n c,.slice ra rn rc] w fun r w'=>r=.returned (tK (fX l (dN rs)))∧Below w.heap.size w w':=by
 subst hn;subst hrn;have HR:=aA h;have HRS:=aA hr;have X4:=aA ((eV.new w (fun _=>false) 136).below (aC _ (.cells #[.bool false,.bool false,.bool false,.bool false,.bool false,.bool false,.bool false,.bool false,.bool false,.bool false] 136)))
 have X5:=aA (eV.new (w.alloc (.cells #[.bool false,.bool false,.bool false,.bool false,.bool false,.bool false,.bool false,.bool false,.bool false,.bool false] 136)) (fun _=>false) 136)
 have B0:=aA (aB (aC w (.cells #[.bool false,.bool false,.bool false,.bool false,.bool false,.bool false,.bool false,.bool false,.bool false,.bool false] 136)) (aC _ (.cells #[.bool false,.bool false,.bool false,.bool false,.bool false,.bool false,.bool false,.bool false,.bool false,.bool false] 136)));simp only[World.size_alloc]at X5;clear h hr;go_enter Tryz.func129,Tryz.ntmps129;go_wp2_with fail
 have hsz0:((w.alloc (.cells #[.bool false,.bool false,.bool false,.bool false,.bool false,.bool false,.bool false,.bool false,.bool false,.bool false] 136)).alloc (.cells #[.bool false,.bool false,.bool false,.bool false,.bool false,.bool false,.bool false,.bool false,.bool false,.bool false] 136)).heap.size=w.heap.size+2:=by simp
 generalize (w.alloc (.cells #[.bool false,.bool false,.bool false,.bool false,.bool false,.bool false,.bool false,.bool false,.bool false,.bool false] 136)).alloc (.cells #[.bool false,.bool false,.bool false,.bool false,.bool false,.bool false,.bool false,.bool false,.bool false,.bool false] 136)=W0 at *;go_loopw [10] (fun i wr=>∃ k:Nat,k≤l.length∧i=.int .i64 k∧Hid (eV wr w.heap.size (fun _=>false))∧Hid (eV wr (w.heap.size+1) (iN l (dN rs) k))∧Hid (Below w.heap.size w wr)) (fun i _=>l.length - (intOf i).toNat)
 case atStart=>exact ⟨0,Nat.zero_le _,rfl,X4,by rw[uM];exact X5,B0⟩
 case round =>
  obtain ⟨k,hk,rfl,H4,H5,HB⟩:=hrel;have hsz:=HB.out.size;have h5l:=H5.out.lt;by_cases hlt:k<l.length
  ·have hlt':(k:Int)<(l.length:Int):=by omega
   have hk10:k<10:=by omega
   have hk10':(k:Int)<10:=by omega
   have hk0:¬ (k:Int)<0:=by omega
   obtain ⟨b,off,s,x,cc,rfl,hb,hs,c0,c1,c2,c3,c4,hr⟩:=(HR.out.below HB.out).at hlt;have HX:=aA (uL (q:=dN rs) hs);clear hs hr;have BA:=aA (aC wr (.cells #[.string (str s.name),.string (str s.parent),.int .i64 s.kind,.bool s.lease,.slice x s.layer.length cc] 42));have F5:=aA (fF.new wr (.string (str s.name)) (.string (str s.parent)) (.int .i64 s.kind) (.bool s.lease) (.slice x s.layer.length cc) 42);have fin:∀ (u:World) (v:Bool),Below wr.heap.size wr u→v=dN rs s→Hid (eV (u.setCell ⟨w.heap.size+1,k,none⟩ (.bool v)) w.heap.size (fun _=>false))∧Hid (eV (u.setCell ⟨w.heap.size+1,k,none⟩ (.bool v)) (w.heap.size+1) (iN l (dN rs) (k+1)))∧Hid (Below w.heap.size w (u.setCell ⟨w.heap.size+1,k,none⟩ (.bool v))):=by
    intro u v hu hv;subst hv;have hB:=aB HB.out hu;exact ⟨aA ((H4.out.below hu).kept (aE.setCell (S:=fun q=>q=w.heap.size+1) (p:=⟨w.heap.size+1,k,none⟩) (aE.refl _ u) (fun _=>rfl) _) (by omega)),aA (by rw[HX.out];exact (H5.out.below hu).set hk10 _),aA (hB.setCell (p:=⟨w.heap.size+1,k,none⟩) (by simp) _)⟩
   have FIN:=aA fin;clear fin;obtain ⟨f0,f1,f2,f3,f4⟩:=F5.out;go_upto_region 5 with fail
   have BN:=aA (aB HB.out BA.out);have T5:=aA (H5.out.below BA.out);clear c0 c1 c2 c3 c4 F5 H4 H5 HB;generalize wr.alloc (.cells #[.string (str s.name),.string (str s.parent),.int .i64 s.kind,.bool s.lease,.slice x s.layer.length cc] 42)=W1 at *;generalize wr.heap.size=b7 at *;have t5:=T5.out.1.at hk10;have t6:=T5.out.2 k;have HFIN:=aA (fun (v:Bool) (hv:v=dN rs s)=>FIN.out W1 v BA.out hv)
   clear FIN BA;cases hls:s.lease with
   | true =>
    have HV:=aA (show true=dN rs s by simp[dN,hls])
    rw[hls]at f3;go_wp2_with fail
    go_roundw
    case rel =>
     obtain ⟨z1,z2,z3⟩:=HFIN.out true HV.out;exact ⟨k+1,by omega,by go_num,z1,z2,z3⟩
    case measure=>simp[intOf];omega
   | false =>
    rw[hls]at f3;by_cases hk1:s.kind=1
    ·have HV:=aA (show true=dN rs s by simp[dN,hk1])
     rw[hk1]at f2;go_wp2_with fail
     go_roundw
     case rel =>
      obtain ⟨z1,z2,z3⟩:=HFIN.out true HV.out;exact ⟨k+1,by omega,by go_num,z1,z2,z3⟩
     case measure=>simp[intOf];omega
    ·have HV:=aA (show decide (s.name∈rs)=dN rs s by simp[dN,hls,hk1])
     have hkb:(s.kind==1)=false:=by simpa using hk1
     go_wp2_with fail
     refine (zc8 ra rc rs (str s.name) _ (HRS.out.below BN.out) (by omega) rs.length rfl).mono ?_
     rintro e w2 ⟨rfl,hw2⟩;subst hw2;rw[aV];generalize decide (s.name∈rs)=v at *;go_wp2_with fail
     go_roundw
     case rel =>
      obtain ⟨z1,z2,z3⟩:=HFIN.out v HV.out;exact ⟨k+1,by omega,by go_num,z1,z2,z3⟩
     case measure=>simp[intOf];omega
  ·have hlt':¬ (k:Int)<(l.length:Int):=by omega
   rw[wT (by omega)]at H5
   obtain ⟨M,hM⟩:∃ M,M=fX l (dN rs):=⟨_,rfl⟩;rw[←hM]at H5;have HM:=aA hM;clear hM;obtain ⟨m0,m1,m2,m3,m4,m5,m6,m7,m8,m9⟩:=H5.out.1;obtain ⟨⟨r0,r1,r2,r3,r4,r5,r6,r7,r8,r9⟩,rf⟩:=H4.out;have rf0:=rf 0;have rf1:=rf 1;have rf2:=rf 2;have rf3:=rf 3;have rf4:=rf 4;have rf5:=rf 5;have rf6:=rf 6;have rf7:=rf 7;have rf8:=rf 8;have rf9:=rf 9;have S4:=aA (H4.out.1.set M);clear rf;go_wp2_with fail
   obtain ⟨q0,q1,q2,q3,q4,q5,q6,q7,q8,q9⟩:=S4.out;refine bodyPost_ret (v:=tK M) (by simp[results,Tryz.results129,go_sem,tK,q0,q1,q2,q3,q4,q5,q6,q7,q8,q9]) rfl ⟨by rw[HM.out],((((((((((HB.out.setCell (p:=⟨w.heap.size,0,none⟩) (Nat.le_refl _) _).setCell (p:=⟨w.heap.size,1,none⟩) (Nat.le_refl _) _).setCell (p:=⟨w.heap.size,2,none⟩) (Nat.le_refl _) _).setCell (p:=⟨w.heap.size,3,none⟩) (Nat.le_refl _) _).setCell (p:=⟨w.heap.size,4,none⟩) (Nat.le_refl _) _).setCell (p:=⟨w.heap.size,5,none⟩) (Nat.le_refl _) _).setCell (p:=⟨w.heap.size,6,none⟩) (Nat.le_refl _) _).setCell (p:=⟨w.heap.size,7,none⟩) (Nat.le_refl _) _).setCell (p:=⟨w.heap.size,8,none⟩) (Nat.le_refl _) _).setCell (p:=⟨w.heap.size,9,none⟩) (Nat.le_refl _) _)⟩
end Go.Proofs.YtgaeikgoknoamaaGreat
namespace Go.Proofs.YtgaeikgoknoamaaGreat
structure tL (l:List Sn) (R:List Bs) (r:Nat) (M:Nat→Bool):Prop where
 live:∀ i s,l[i]?=some s→M i=true→dA l R s=true
 dep:∀ d,d≤r→∀ i s,l[i]?=some s→pF l R d s→M i=true
structure nD (l:List Sn) (R:List Bs) (r k:Nat) (M:Nat→Bool):Prop where
 base:tL l R r M
 step:∀ i,i<k→∀ s,l[i]?=some s→pF l R r s→∀ j,plS l s.parent=some j→M j=true
theorem tL.start {l:List Sn} {R:List Bs} {r:Nat} {M:Nat→Bool} (h:tL l R r M):nD l R r 0 M:=⟨h,fun i hi=>absurd hi (by omega)⟩
theorem zve {l:List Sn} (hR:aP l) (R:List Bs):tL l R 0 (fX l (dN R)):=by
 refine ⟨fun i s hi hm=>?_,fun d hd i s hi hq=>?_⟩
 ·rw[jU hi]at hm
  exact (iS hR.rise (List.mem_of_getElem? hi)).2 (qZ (List.mem_of_getElem? hi) hm)
 ·obtain rfl:d=0:=by omega
  rw[jU hi];exact (zb9.1 hq).2
theorem nD.skip {l:List Sn} {R:List Bs} {r k:Nat} {M:Nat→Bool} {s:Sn} (h:nD l R r k M) (hs:l[k]?=some s) (hn:M k=true→plS l s.parent=none):nD l R r (k+1) M:=by
 refine ⟨h.base,fun i hi x hx hd j hj=>?_⟩
 by_cases he:i=k
 ·subst he
  rw[hs]at hx;obtain rfl:=Option.some.inj hx;rw[hn (h.base.dep r (Nat.le_refl _) i s hs hd)]at hj;cases hj
 ·exact h.step i (by omega) x hx hd j hj
theorem nD.mark {l:List Sn} (hR:aP l) {R:List Bs} {r k q:Nat} {M:Nat→Bool} {s:Sn} (h:nD l R r k M) (hs:l[k]?=some s) (hm:M k=true) (hq:plS l s.parent=some q):nD l R r (k+1) (iM M q true):=by
 obtain ⟨p,hp,hat⟩:=gW hq;refine ⟨⟨fun i x hx hi=>?_,fun d hd i x hx hdq=>pA (h.base.dep d hd i x hx hdq)⟩,fun i hi x hx hd j hj=>?_⟩
 ·unfold iM at hi
  by_cases he:i=q
  ·subst he
   rw[hp]at hx;obtain rfl:=Option.some.inj hx;exact pL hR R s (List.mem_of_getElem? hs) (h.base.live k s hs hm) p hat
  ·rw[if_neg he]at hi
   exact h.base.live i x hx hi
 ·by_cases he:i=k
  ·subst he
   rw[hs]at hx;obtain rfl:=Option.some.inj hx;rw[hq]at hj;obtain rfl:=Option.some.inj hj;exact oA _ _ _
  ·exact pA (h.step i (by omega) x hx hd j hj)
theorem nD.stop {l:List Sn} (hR:aP l) {R:List Bs} {r k:Nat} {M:Nat→Bool} (h:nD l R r k M) (hk:l.length≤k):tL l R (r+1) M:=by
 refine ⟨h.base.live,fun d hd i s hi hq=>?_⟩
 by_cases he:d≤r
 ·exact h.base.dep d he i s hi hq
 ·obtain rfl:d=r+1:=by omega
  obtain ⟨x,hx,hxd,hat⟩:=za9 hq;obtain ⟨m,hm⟩:=List.mem_iff_getElem?.1 hx;have hml:=(List.getElem?_eq_some_iff.1 hm).1;cases hpl:plS l x.parent with
  | none=>rw[fZ hpl]at hat;cases hat
  | some j =>
   obtain ⟨y,hy,hat2⟩:=gW hpl;rw[hat]at hat2;obtain rfl:=Option.some.inj hat2;have:=yU hR.rise hi hy rfl;subst this;exact h.step m (by omega) x hm hxd i hpl
theorem tL.done {l:List Sn} (hR:aP l) {R:List Bs} {r:Nat} {M:Nat→Bool} (h:tL l R r M) (hr:4≤r):∀ i s,l[i]?=some s→M i=dA l R s:=by
 intro i s hi;cases hl:dA l R s with
 | true =>
  obtain ⟨k,hk,hd⟩:=zr4 ((iS hR.rise (List.mem_of_getElem? hi)).1 hl);exact h.dep k (by omega) i s hi hd
 | false =>
  cases hm:M i with
  | false=>rfl
  | true=>rw[h.live i s hi hm]at hl;cases hl
theorem zmd {l:List Sn} (hR:aP l) {s:Sn} (hs:s∈l) (hp:s.parent≠[]):∃ j,plS l s.parent=some j:=by
 rcases hR.stand s hs with h | ⟨p,h1,-,-⟩
 ·exact absurd h hp
 ·cases hpl:plS l s.parent with
  | none=>rw[fZ hpl]at h1;cases h1
  | some j=>exact ⟨j,rfl⟩
theorem znd {l:List Sn} (hR:aP l) {s:Sn} (hp:s.parent=[]):plS l s.parent=none:=by
 cases hpl:plS l s.parent with
 | none=>rfl
 | some j =>
  obtain ⟨y,hy,hat⟩:=gW hpl;rw[hp]at hat;have h1:=bU hat;exact absurd h1.2 (fY (hR.own y h1.1).1)
def lC (n:Nat) (M:Nat→Bool):List Value:=(List.range n).map fun i=>Value.bool (M i)
theorem xW (n:Nat) (M:Nat→Bool):(lC n M).length=n:=by simp[lC]
theorem nA {n:Nat} {M:Nat→Bool} {k:Nat} (h:k<n):(lC n M)[k]?=some (.bool (M k)):=by simp[lC,h]
theorem zmg {n:Nat} {M:Nat→Bool} {k:Nat} (h:k<n) (v:Bool):(lC n M).set k (.bool v)=lC n (iM M k v):=by
 apply List.ext_getElem?
 intro i;by_cases hi:i<n
 ·rw[nA hi]
  by_cases he:i=k
  ·subst he
   rw[List.getElem?_set_self (by rw[xW];exact hi),oA]
  ·rw[List.getElem?_set_ne (fun e=>he e.symm),nA hi]
   simp[iM,he]
 ·rw[List.getElem?_eq_none (by rw[List.length_set,xW];omega),List.getElem?_eq_none (by rw[xW];omega)]
end Go.Proofs.YtgaeikgoknoamaaGreat
